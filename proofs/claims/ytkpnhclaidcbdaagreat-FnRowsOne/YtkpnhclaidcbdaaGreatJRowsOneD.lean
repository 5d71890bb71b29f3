/-
  Lemmas that the claim's last text rests on: Part, Bounds, All, TrtM, AppC, CoS.
-/
import Derived.Test.YtkpnhclaidcbdaaGreatGrow
import Derived.Test.YtkpnhclaidcbdaaGreatJRowsOneC
import Derived.Test.YtkpnhclaidcbdaaGreatJRowsOneB
import Derived.Test.YtkpnhclaidcbdaaGreatOwn
import Derived.Test.YtkpnhclaidcbdaaGreatKeyed
import Derived.Test.YtkpnhclaidcbdaaGreatJRowsOneA
namespace Go.Proofs.YtkpnhclaidcbdaaGreat
open Go.RowKit
set_option linter.unusedVariables false

/-- The sign of the first that is not 0. -/
def sgn1 (c : Int) : Int := if 0 < c then 1 else if c < 0 then -1 else 0
theorem sgn1_vals (c : Int) : sgn1 c = 0 ∨ sgn1 c = 1 ∨ sgn1 c = -1 := by
  unfold sgn1
  split
  · simp
  · split <;> simp
def sgn : List Int → Int
  | [] => 0
  | c :: t => if sgn1 c = 0 then sgn t else sgn1 c
theorem sgn_append (xs ys : List Int) : sgn (xs ++ ys) = if sgn xs = 0 then sgn ys else sgn xs := by
  induction xs with
  | nil => simp [sgn]
  | cons c t ih =>
    simp only [List.cons_append, sgn]
    by_cases h : sgn1 c = 0
    · simp only [h, if_true]; exact ih
    · simp only [h, if_false]
theorem sgn_one (c : Int) : sgn [c] = sgn1 c := by
  simp only [sgn]
  split
  · next h => exact h.symm
  · rfl
theorem sgn_take_succ {C : List Int} {k : Nat} (h : k < C.length) : sgn (C.take (k + 1)) = if sgn (C.take k) = 0 then sgn1 (C[k]?.getD 0) else sgn (C.take k) := by
  rw [List.take_succ_eq_append_getElem h, sgn_append, List.getElem?_eq_getElem h, sgn_one]
  rfl
theorem sgn_whole {C : List Int} {k : Nat} (h : sgn (C.take k) ≠ 0) : sgn C = sgn (C.take k) := by
  have := sgn_append (C.take k) (C.drop k)
  rw [List.take_append_drop, if_neg h] at this
  exact this
theorem sgn_end {C : List Int} {k n : Nat} (hn : C.length = n) (h : n ≤ k) : sgn (C.take k) = sgn C := by rw [List.take_of_length_le (by omega)]

/-- What the list is multiplied with. -/
def sg (C : List Int) : Int := if sgn C < 0 then -1 else 1
def mulW (n : Int) (zs : List Int) : List Int := zs.map fun z => wrap64 (n * z)
def partL (C : List Int) : List Int := mulW (sg C) C
theorem mulW_len (n : Int) (zs : List Int) : (mulW n zs).length = zs.length := by simp [mulW]
theorem mulW_get {n : Int} {zs : List Int} {i : Nat} (h : i < zs.length) : (mulW n zs)[i]?.getD 0 = wrap64 (n * zs[i]?.getD 0) := by
  simp [mulW, h]
theorem part_len (C : List Int) : (partL C).length = C.length := mulW_len _ _
theorem part_step {C : List Int} {k : Nat} (h : k < C.length) : (partL C).take (k + 1) = (partL C).take k ++ [wrap64 (sgn (C.take (k + 1)) * C[k]?.getD 0)] := by
  have hl : k < (partL C).length := by rw [part_len]; exact h
  rw [List.take_succ_eq_append_getElem hl]
  congr 2
  have e : (partL C)[k] = wrap64 (sg C * C[k]?.getD 0) := by
    have := mulW_get (n := sg C) h
    rw [show mulW (sg C) C = partL C from rfl, List.getElem?_eq_getElem hl] at this
    simpa using this
  rw [e]
  by_cases hs : sgn (C.take (k + 1)) = 0
  · have h1 := sgn_take_succ h
    have h2 : sgn1 (C[k]?.getD 0) = 0 := by
      rw [hs] at h1
      by_cases h3 : sgn (C.take k) = 0
      · rw [if_pos h3] at h1; exact h1.symm
      · rw [if_neg h3] at h1; exact absurd h1.symm h3
    have h3 : C[k]?.getD 0 = 0 := by
      unfold sgn1 at h2
      split at h2
      · omega
      · split at h2 <;> omega
    rw [h3]; simp
  · have h1 := sgn_whole hs
    have : sg C = sgn (C.take (k + 1)) := by
      unfold sg
      rw [h1]
      have hv : ∀ xs : List Int, sgn xs = 0 ∨ sgn xs = 1 ∨ sgn xs = -1 := by
        intro xs
        induction xs with
        | nil => simp [sgn]
        | cons c t ih =>
          simp only [sgn]
          by_cases hc : sgn1 c = 0
          · simp only [hc, if_true]; exact ih
          · rw [if_neg hc]; exact sgn1_vals c
      rcases hv (C.take (k + 1)) with e | e | e
      · exact absurd e hs
      · rw [e]; simp
      · rw [e]; simp
    rw [this]

set_option maxHeartbeats 400000 in
theorem timesW_any (a : Option Addr) (l cap : Nat) (zs : List Int) (n : Int) (w : World) (h : Ints w a l zs) (hl : l ≤ 1048576) :
    Calls Tryz.prog 136 #[.slice a l cap, .int .i64 n] w fun e w' => e = .returned (.slice (some ⟨w.heap.size, 0, none⟩) l l) ∧ Below w.heap.size w w' ∧ Blk w' w.heap.size (mulW n zs) := by
  have HZ : Hid (zs.length = l) := h.1
  have HM : Hid ((mulW n zs).length = l) := by show (mulW n zs).length = l; simp [mulW, h.1]
  obtain ⟨i0, hi, hz0, hz1, hz2⟩ := info_parts Tryz.infoInt
  go_enter Tryz.func136, Tryz.ntmps136
  go_wp2_with (at_make; refine wpList_make_full _ rfl (.tmp 9) (.tmp 9) 24 rfl w.heap.size 3 i0 (.int .i64 0) 1 Tryz.underlying24 hi hz0 hz1 .i64 .i64 _ _ l rfl rfl rfl rfl (by rw [hz2]; omega) (by unfold maxLen; omega) (Nat.le_refl _) ?_; intro w1 hown hgrow)
  have hb1 := Blk.made w l w1 hown
  have HB : Below w.heap.size w w1 := (Below.refl _ _).grown hgrow (Nat.le_refl _) (by simp)
  clear hown hgrow hi hz0 hz1 hz2
  go_loopw [6, 7, 13] (fun _ _ i wr => ∃ k : Nat, k ≤ l ∧ i = .int .i64 k ∧ Below w.heap.size w wr ∧ Blk wr w.heap.size (upTo (mulW n zs) l k)) (fun _ _ i _ => l - (intOf i).toNat)
  case atStart => exact ⟨0, Nat.zero_le _, rfl, HB, by rw [upTo_zero]; exact hb1⟩
  case round =>
    obtain ⟨k, hk, rfl, hnx, hblk⟩ := hrel
    by_cases hlt : k < l
    · obtain ⟨b, off, rfl, hcell⟩ := (h.below hnx).pos (by omega)
      have hck := hcell k hlt
      have hco := hblk.cell k (by rw [upTo_len HM.out hk]; exact hlt)
      have hfo := hblk.free k
      have R := hblk.set k ((mulW n zs)[k]?.getD 0)
      rw [upTo_succ HM.out hlt, mulW_get (by rw [HZ.out]; exact hlt)] at R
      have R2 := hnx.setCell (p := ⟨w.heap.size, k, none⟩) (Nat.le_refl _) (.int .i64 (wrap64 (n * zs[k]?.getD 0)))
      clear hcell hb1 HB h hblk hnx
      go_wp2
      go_roundw
      case rel => exact ⟨k + 1, by omega, by go_num, R2, R⟩
      case measure => simp [intOf]; omega
    · go_wp2
      go_ret
      exact ⟨rfl, hnx, by rw [upTo_end HM.out (by omega)] at hblk; exact hblk⟩

set_option maxHeartbeats 800000 in
theorem ipart_any (a : Option Addr) (n cap : Nat) (c : Option Addr) (m cap' : Nat) (K : Int) (C : List Int) (w : World) (hC : Ints w a n C) (hn : n ≤ 1048576) :
    Calls Tryz.prog 117 #[formV a n cap c m cap' K] w fun e w' => e = .returned (.slice (some ⟨w.heap.size + 1, 0, none⟩) n n) ∧ Below w.heap.size w w' ∧ Blk w' (w.heap.size + 1) (partL C) := by
  have HC : Hid (C.length = n) := hC.1
  go_enter Tryz.func117, Tryz.ntmps117
  go_wp2_with fail
  have hC1 := hC.alloc (.cells #[.slice a n cap, .slice c m cap', .int .i64 K] 72)
  have hend : ∀ (s : Int) (w2 : World), sg C = s → Below (w.alloc (.cells #[.slice a n cap, .slice c m cap', .int .i64 K] 72)).heap.size (w.alloc (.cells #[.slice a n cap, .slice c m cap', .int .i64 K] 72)) w2 → Blk w2 (w.alloc (.cells #[.slice a n cap, .slice c m cap', .int .i64 K] 72)).heap.size (mulW s C) → Below w.heap.size w w2 ∧ Blk w2 (w.heap.size + 1) (partL C) := by
    intro s w2 hs b2 k2
    rw [World.size_alloc] at k2
    exact ⟨((Below.refl _ _).alloc (Nat.le_refl _) _).trans (b2.mono (by simp)), by unfold partL; rw [hs]; exact k2⟩
  have HE : Hid _ := hend
  clear hend
  go_loop [4, 8] (fun _ i => ∃ k : Nat, k ≤ n ∧ i = .int .i64 k ∧ sgn (C.take k) = 0) (fun _ i => n - (intOf i).toNat)
  case atStart => exact ⟨0, Nat.zero_le _, rfl, rfl⟩
  case round =>
    obtain ⟨k, hk, rfl, hs⟩ := hrel
    have HS : Hid (sgn (C.take k) = 0) := hs
    clear hs
    by_cases hlt : k < n
    · obtain ⟨b, off, rfl, hcell⟩ := hC1.pos (by omega)
      have hck := hcell k hlt
      clear hcell
      have HT : Hid (sgn (C.take (k + 1)) = sgn1 (C[k]?.getD 0)) := by
        show sgn (C.take (k + 1)) = sgn1 (C[k]?.getD 0)
        rw [sgn_take_succ (by rw [HC.out]; exact hlt), if_pos HS.out]
      by_cases h1 : 0 < C[k]?.getD 0
      · have HG : Hid (sg C = 1) := by
          show sg C = 1
          have e := HT.out
          rw [sgn1, if_pos h1] at e
          have := sgn_whole (C := C) (k := k + 1) (by rw [e]; decide)
          rw [sg, this, e]; rfl
        go_wp2_with fail
        refine (timesW_any _ _ _ C _ _ hC1 hn).mono ?_
        rintro e w2 ⟨rfl, b2, k2⟩
        go_wp2
        go_ret
        exact ⟨rfl, HE.out 1 w2 HG.out b2 k2⟩
      · by_cases h2 : C[k]?.getD 0 < 0
        · have HG : Hid (sg C = -1) := by
            show sg C = -1
            have e := HT.out
            rw [sgn1, if_neg h1, if_pos h2] at e
            have := sgn_whole (C := C) (k := k + 1) (by rw [e]; decide)
            rw [sg, this, e]; rfl
          go_wp2_with fail
          refine (timesW_any _ _ _ C _ _ hC1 hn).mono ?_
          rintro e w2 ⟨rfl, b2, k2⟩
          go_wp2
          go_ret
          exact ⟨rfl, HE.out (-1) w2 HG.out b2 k2⟩
        · have HT2 : Hid (sgn (C.take (k + 1)) = 0) := by
            show sgn (C.take (k + 1)) = 0
            rw [HT.out, sgn1, if_neg h1, if_neg h2]
          go_wp2
          go_round
          case rel => exact ⟨k + 1, by omega, by go_num, HT2.out⟩
          case measure => simp [intOf]; omega
    · have HG : Hid (sg C = 1) := by
        show sg C = 1
        have e := HS.out
        rw [sgn_end HC.out (by omega)] at e
        rw [sg, e]; rfl
      go_wp2_with fail
      refine (timesW_any _ _ _ C _ _ hC1 hn).mono ?_
      rintro e w2 ⟨rfl, b2, k2⟩
      go_wp2
      go_ret
      exact ⟨rfl, HE.out 1 w2 HG.out b2 k2⟩

set_option maxRecDepth 100000 in
set_option maxHeartbeats 1600000 in
theorem spart_new (a : Option Addr) (n cap : Nat) (c : Option Addr) (m cap' : Nat) (K : Int) (C : List Int) (w : World) (hC : Ints w a n C) (hn : n ≤ 1048576) :
    Calls Tryz.prog 110 #[formV a n cap c m cap' K] w fun e w' => ∃ a' cap2, e = .returned (.slice a' n cap2) ∧ Below w.heap.size w w' ∧ Ints w' a' n (partL C) ∧ (∀ b o, a' = some ⟨b, o, none⟩ → w.heap.size ≤ b ∧ b < w'.heap.size) := by
  have HC : Hid (C.length = n) := hC.1
  obtain ⟨i0, hi, hz0, hz1, hz2⟩ := info_parts Tryz.infoInt
  go_enter Tryz.func110, Tryz.ntmps110
  go_wp2_with fail
  obtain ⟨W, hW⟩ : ∃ W, W = w.alloc (.cells #[.slice a n cap, .slice c m cap', .int .i64 K] 72) := ⟨_, rfl⟩
  have box : Cel W w.heap.size [.slice a n cap, .slice c m cap', .int .i64 K] 72 := by rw [hW]; exact Cel.new w _ _
  have BW : Below w.heap.size w W := by rw [hW]; exact (Below.refl _ _).alloc (Nat.le_refl _) _
  have hCW : Ints W a n C := hC.below BW
  have HWS : Hid (W.heap.size = w.heap.size + 1) := by show W.heap.size = _; rw [hW, World.size_alloc]
  rw [← hW]
  clear hW hC
  go_loopw [3, 4, 5] (fun v s i wr => ∃ k : Nat, k ≤ n ∧ i = .int .i64 k ∧ s = .int .i64 (sgn (C.take k)) ∧ ∃ xs : List Int, xs.length = k ∧ xs = (partL C).take k ∧ JA W v xs wr) (fun _ _ i _ => n - (intOf i).toNat)
  case atStart => exact ⟨0, Nat.zero_le _, rfl, rfl, [], rfl, rfl, by rw [← HWS.out]; exact JA.lit W⟩
  case round =>
    obtain ⟨k, hk, rfl, rfl, xs, hxl, hxs, j⟩ := hrel
    have HL : Hid (xs.length = k) := hxl
    have HXS : Hid (xs = (partL C).take k) := hxs
    clear hxl hxs
    have jo := (j.o)
    rw [HL.out] at jo
    have hjb := j.b.size
    have g0 := (box.below j.b).cell 0
    simp only [List.getElem?_cons_zero] at g0
    by_cases hlt : k < n
    · obtain ⟨b, off, rfl, hcell⟩ := (hCW.below j.b).pos (by omega)
      have hck : wr.cell? ⟨b, off + k, none⟩ = some (.int .i64 (C[k]?.getD 0)) := by rw [hcell k hlt]; simp
      clear hcell
      have HT : Hid _ := sgn_take_succ (C := C) (k := k) (by rw [HC.out]; exact hlt)
      have HP : Hid _ := part_step (C := C) (k := k) (by rw [HC.out]; exact hlt)
      generalize HS : sgn (C.take k) = s at *
      generalize HX : C[k]?.getD 0 = x at *
      clear HS HX
      by_cases hs0 : s = 0
      · subst hs0
        by_cases h1 : 0 < x
        · have HT2 : Hid (sgn1 x = 1) := by show sgn1 x = 1; rw [sgn1, if_pos h1]
          go_wp2_with (at_builtin; go_must (refine wpList_append_lies _ rfl (.tmp 34) (.tmp 42) 24 rfl W.heap.size 3 i0 (.int .i64 0) 1 8 Tryz.underlying24 hi hz0 hz1 hz2 rfl (by decide) _ _ _ rfl (jo.alloc _) ⟨wr.heap.size, 0, none⟩ 1 1 [.int .i64 (wrap64 x)] rfl rfl (news1 _ _ _) (one1 _ _) (by omega) (by unfold maxLen; omega) (by omega) (by rw [World.size_alloc]; omega) _ rfl ?_); intro g cp w1 hown hgrow hat hlt1)
          have j2 := j.app HL.out hown hgrow
          clear hown hgrow jo j hat
          have HX2 : Hid (xs ++ [wrap64 x] = (partL C).take (k + 1)) := by show _ = _; rw [HP.out, HXS.out, HT.out, if_pos rfl, HT2.out, Int.one_mul]
          go_wp2
          go_roundw
          case rel => exact ⟨k + 1, by omega, by go_num, by rw [HT.out, if_pos rfl, HT2.out], _, by rw [List.length_append, HL.out]; rfl, HX2.out, j2⟩
          case measure => simp [intOf]; omega
        · by_cases h2 : x < 0
          · have HT2 : Hid (sgn1 x = -1) := by show sgn1 x = -1; rw [sgn1, if_neg h1, if_pos h2]
            go_wp2_with (at_builtin; go_must (refine wpList_append_lies _ rfl (.tmp 34) (.tmp 42) 24 rfl W.heap.size 3 i0 (.int .i64 0) 1 8 Tryz.underlying24 hi hz0 hz1 hz2 rfl (by decide) _ _ _ rfl (jo.alloc _) ⟨wr.heap.size, 0, none⟩ 1 1 [.int .i64 (wrap64 (-x))] rfl rfl (news1 _ _ _) (one1 _ _) (by omega) (by unfold maxLen; omega) (by omega) (by rw [World.size_alloc]; omega) _ rfl ?_); intro g cp w1 hown hgrow hat hlt1)
            have j2 := j.app HL.out hown hgrow
            clear hown hgrow jo j hat
            have HX2 : Hid (xs ++ [wrap64 (-x)] = (partL C).take (k + 1)) := by show _ = _; rw [HP.out, HXS.out, HT.out, if_pos rfl, HT2.out, Int.neg_one_mul]
            go_wp2
            go_roundw
            case rel => exact ⟨k + 1, by omega, by go_num, by rw [HT.out, if_pos rfl, HT2.out], _, by rw [List.length_append, HL.out]; rfl, HX2.out, j2⟩
            case measure => simp [intOf]; omega
          · have HT2 : Hid (sgn1 x = 0) := by show sgn1 x = 0; rw [sgn1, if_neg h1, if_neg h2]
            go_wp2_with (at_builtin; go_must (refine wpList_append_lies _ rfl (.tmp 34) (.tmp 42) 24 rfl W.heap.size 3 i0 (.int .i64 0) 1 8 Tryz.underlying24 hi hz0 hz1 hz2 rfl (by decide) _ _ _ rfl (jo.alloc _) ⟨wr.heap.size, 0, none⟩ 1 1 [.int .i64 0] rfl rfl (news1 _ _ _) (one1 _ _) (by omega) (by unfold maxLen; omega) (by omega) (by rw [World.size_alloc]; omega) _ rfl ?_); intro g cp w1 hown hgrow hat hlt1)
            have j2 := j.app HL.out hown hgrow
            clear hown hgrow jo j hat
            have HX2 : Hid (xs ++ [0] = (partL C).take (k + 1)) := by show _ = _; rw [HP.out, HXS.out, HT.out, if_pos rfl, HT2.out, Int.zero_mul, show wrap64 0 = 0 from by decide +kernel]
            go_wp2
            go_roundw
            case rel => exact ⟨k + 1, by omega, by go_num, by rw [HT.out, if_pos rfl, HT2.out], _, by rw [List.length_append, HL.out]; rfl, HX2.out, j2⟩
            case measure => simp [intOf]; omega
      · have hs1 : (s == 0) = false := by simp [hs0]
        go_wp2_with (at_builtin; go_must (refine wpList_append_lies _ rfl (.tmp 34) (.tmp 42) 24 rfl W.heap.size 3 i0 (.int .i64 0) 1 8 Tryz.underlying24 hi hz0 hz1 hz2 rfl (by decide) _ _ _ rfl (jo.alloc _) ⟨wr.heap.size, 0, none⟩ 1 1 [.int .i64 (wrap64 (s * x))] rfl rfl (news1 _ _ _) (one1 _ _) (by omega) (by unfold maxLen; omega) (by omega) (by rw [World.size_alloc]; omega) _ rfl ?_); intro g cp w1 hown hgrow hat hlt1)
        have j2 := j.app HL.out hown hgrow
        clear hown hgrow jo j hat
        have HX2 : Hid (xs ++ [wrap64 (s * x)] = (partL C).take (k + 1)) := by show _ = _; rw [HP.out, HXS.out, HT.out, if_neg hs0]
        go_wp2
        go_roundw
        case rel => exact ⟨k + 1, by omega, by go_num, by rw [HT.out, if_neg hs0], _, by rw [List.length_append, HL.out]; rfl, HX2.out, j2⟩
        case measure => simp [intOf]; omega
    · obtain rfl : k = n := by omega
      obtain ⟨a', cp, rfl, hcp, hI, hlt'⟩ := j.ints
      have HXC : Hid (xs = partL C) := by show xs = _; rw [HXS.out, List.take_of_length_le (by rw [part_len, HC.out]; exact Nat.le_refl _)]
      rw [HL.out] at hI hcp ⊢
      have jb := j.b
      clear j jo
      go_wp2
      go_ret
      exact ⟨a', cp, rfl, BW.trans (jb.mono BW.size), by rw [← HXC.out]; exact hI, fun b o e => ⟨by have := (hlt' b o e).1; have := HWS.out; omega, (hlt' b o e).2⟩⟩

theorem spart_any (a : Option Addr) (n cap : Nat) (c : Option Addr) (m cap' : Nat) (K : Int) (C : List Int) (w : World) (hC : Ints w a n C) (hn : n ≤ 1048576) :
    Calls Tryz.prog 110 #[formV a n cap c m cap' K] w fun e w' => ∃ a' cap2, e = .returned (.slice a' n cap2) ∧ Below w.heap.size w w' ∧ Ints w' a' n (partL C) ∧ (∀ b o, a' = some ⟨b, o, none⟩ → b < w'.heap.size) := by
  refine (spart_new a n cap c m cap' K C w hC hn).mono ?_
  rintro e w' ⟨a', cap2, h1, h2, h3, h4⟩
  exact ⟨a', cap2, h1, h2, h3, fun b o e => (h4 b o e).2⟩

end Go.Proofs.YtkpnhclaidcbdaaGreat
namespace Go.Proofs.YtkpnhclaidcbdaaGreat
open Go.RowKit Go.Deep
set_option linter.unusedVariables false

theorem others_bnd {D : List Int} {s : Int} (bD : ∀ i : Nat, i < D.length → 0 ≤ D[i]?.getD 0 ∧ D[i]?.getD 0 ≤ 50) : ∀ k : Nat, k ≤ D.length → k ≤ 3 → 0 ≤ others D s k ∧ others D s k ≤ 50 * k
  | 0, _, _ => by simp [others]
  | k + 1, hk, h3 => by
    have ih := others_bnd (s := s) bD k (by omega) (by omega)
    have d := bD k (by omega)
    rw [others]
    split
    · omega
    · rw [IntWalk.wrap64_in _ ⟨by omega, by omega⟩]
      omega

theorem zero_part {C : List Int} (hl : C.length = 3) (b : bnd 10000000 C) : eqB (partL C) [0, 0, 0] = allB 0 C := by
  match C, hl with
  | [x, y, z], _ =>
    have b0 := b 0
    have b1 := b 1
    have b2 := b 2
    simp only [List.getElem?_cons_zero, List.getElem?_cons_succ, Option.getD_some] at b0 b1 b2
    have hs : sg [x, y, z] = 1 ∨ sg [x, y, z] = -1 := by unfold sg; split <;> simp
    have e : partL [x, y, z] = [wrap64 (sg [x, y, z] * x), wrap64 (sg [x, y, z] * y), wrap64 (sg [x, y, z] * z)] := rfl
    rw [e]
    generalize sg [x, y, z] = g at *
    rw [eqB, allB, Bool.eq_iff_iff, decide_eq_true_eq]
    simp only [List.cons.injEq, and_true, List.all_cons, List.all_nil, Bool.and_true, Bool.and_eq_true, inB_iff]
    rcases hs with rfl | rfl
    · rw [IntWalk.wrap64_in _ ⟨by omega, by omega⟩, IntWalk.wrap64_in _ ⟨by omega, by omega⟩, IntWalk.wrap64_in _ ⟨by omega, by omega⟩]
      omega
    · rw [IntWalk.wrap64_in _ ⟨by omega, by omega⟩, IntWalk.wrap64_in _ ⟨by omega, by omega⟩, IntWalk.wrap64_in _ ⟨by omega, by omega⟩]
      omega

/-- What must be ok. -/
def bokB (n m : Nat) (C D : List Int) (ss : List IV) (s : Int) (k : Nat) (E : List Int) (fn fm : Nat) (FC FD : List Int) (FK : Int) (l : Nat) (U : List Int) : Bool := viewB n m C D ss s k E && (formB fn fm FC FD FK && okN 2 9 l U)
/-- The least and the most, if a site knows it. -/
def bnds (m : Nat) (C D : List Int) (ss : List IV) (s : Int) (E : List Int) (FC FD : List Int) (FK : Int) (U : List Int) : Int × Int × Bool :=
  if eqB (partL FC) [0, 0, 0] = true then (atV FC FD FK (List.zipWith (· + ·) C E) U, atV FC FD FK (List.zipWith (· + ·) C E) U, true)
  else if hasI ss (partL FC) < 0 then (0, 0, false)
  else (atV FC FD FK (List.zipWith (· + ·) C E) U - others D s m, atV FC FD FK (List.zipWith (· + ·) C E) U + others D s m, true)
def bansB (n m : Nat) (C D : List Int) (ss : List IV) (s : Int) (k : Nat) (E : List Int) (fn fm : Nat) (FC FD : List Int) (FK : Int) (l : Nat) (U : List Int) : Int × Int × Bool :=
  if bokB n m C D ss s k E fn fm FC FD FK l U = true then bnds m C D ss s E FC FD FK U else (0, 0, false)
def ansV (x : Int × Int × Bool) : Value := .tuple #[.int .i64 x.1, .int .i64 x.2.1, .bool x.2.2]

theorem hasI_copy {ss ts : List IV} {part : List Int} (hl : ts.length = ss.length) (h : copiesIS ss ts) : hasI ts part = hasI ss part := by
  have e : ∀ l : List IV, l.map IV.x = (l.map (fun p => (p.n, p.x))).map (fun q => q.2) := fun l => by rw [List.map_map]; rfl
  rw [hasI, hasI, e, e, copies_pair hl h]
theorem bansB_copy {n m : Nat} {C D : List Int} {ss ts : List IV} {s : Int} {k : Nat} {E : List Int} {fn fm : Nat} {FC FD : List Int} {FK : Int} {l : Nat} {U : List Int} (hl : ts.length = ss.length) (h : copiesIS ss ts) : bansB n m C D ts s k E fn fm FC FD FK l U = bansB n m C D ss s k E fn fm FC FD FK l U := by
  rw [bansB, bansB, bokB, bokB, viewB_copy hl h, bnds, bnds, hasI_copy hl h]

theorem JA.slice3 {w W : World} {v : Value} {xs : List Int} (j : JA w v xs W) (hn : xs.length = 3) : ∃ a cap, v = .slice a 3 cap ∧ Ints W a 3 xs := by
  obtain ⟨a, cap, B, rfl, ho, _⟩ := j.ownx hn
  exact ⟨a, cap, rfl, ho.ints⟩

set_option maxHeartbeats 3200000 in
theorem vbounds_any (a : Option Addr) (cap : Nat) (c : Option Addr) (m cap' : Nat) (ad : Option Addr) (N pc : Nat) (s : Int) (e : Option Addr) (ec : Nat) (u : Option Addr) (uc : Nat) (fa : Option Addr) (fcap : Nat) (fc : Option Addr) (fcap' : Nat) (FK : Int) (C D E U FC FD : List Int) (ss : List IV) (w : World)
    (hC : Ints w a 3 C) (hD : Ints w c m D) (hE : Ints w e 3 E) (hU : Ints w u 2 U) (hA : Ints w fa 3 FC) (hB : Ints w fc 2 FD) (hN : ss.length = N) (hF : ISG w ad ss) (hN1 : N ≤ 1048576) (hm3 : m ≤ 3)
    (bC : bnd 10000 C) (bE : bnd 20000 E) (bU : bnd 9 U) (bA : bnd 10000000 FC) (bB : bnd 10000000 FD) (bK : -10000000 ≤ FK ∧ FK ≤ 10000000) (bD : ∀ i : Nat, i < D.length → 0 ≤ D[i]?.getD 0 ∧ D[i]?.getD 0 ≤ 50) :
    Calls Tryz.prog 105 #[viewV a 3 cap c m cap' ad N pc s e 3 ec u 2 uc, formV fa 3 fcap fc 2 fcap' FK] w fun r w' => ∃ x, x = bnds m C D ss s E FC FD FK U ∧ r = .returned (.agg #[.int .i64 x.1, .int .i64 x.2.1, .bool x.2.2]) ∧ Below w.heap.size w w' := by
  have HN : Hid (ss.length = N) := hN
  have HZ : Hid ((List.zipWith (· + ·) C E).length = 3) := by show _ = _; rw [List.length_zipWith, hC.1, hE.1]; rfl
  have bV : bnd 30000 (List.zipWith (· + ·) C E) := fun i => by have := bnd_zip (by rw [hC.1, hE.1]) bC bE i; omega
  have ob := others_bnd (s := s) bD m (by rw [hD.1]; exact Nat.le_refl _) hm3
  have p1 := dot_bnd (bndP_of bA bV (by omega) (by omega)) 3
  have p2 := dot_bnd (bndP_of bB bU (by omega) (by omega)) 2
  have HP : Hid (eqB (partL FC) [0, 0, 0] = allB 0 FC) := zero_part hA.1 bA
  obtain ⟨x, hx⟩ : ∃ x, x = bnds m C D ss s E FC FD FK U := ⟨_, rfl⟩
  have HX : Hid _ := hx
  have HV : Hid (bnd 30000 (List.zipWith (· + ·) C E)) := bV
  obtain ⟨n, hn⟩ : ∃ n, n = atV FC FD FK (List.zipWith (· + ·) C E) U := ⟨_, rfl⟩
  obtain ⟨o, ho⟩ : ∃ o, o = others D s m := ⟨_, rfl⟩
  have n1 : -10000000000000 ≤ n := by rw [hn]; unfold atV; omega
  have n2 : n ≤ 10000000000000 := by rw [hn]; unfold atV; omega
  rw [← ho] at ob
  rw [bnds, ← hn, ← ho] at hx
  have HI : Hid _ := hx
  have HNN : Hid _ := hn
  have HO : Hid _ := ho
  obtain ⟨o1, o2⟩ := ob
  have o3 : o ≤ 150 := by omega
  have BCE : Hid (bnd 10000 C ∧ bnd 20000 E) := ⟨bC, bE⟩
  clear hN hx hn ho o2 p1 p2 bV bD bC bE
  have q_0 := ((Cel.new w [.slice a 3 cap, .slice c m cap', .slice ad N pc, .int .i64 s, .slice e 3 ec, .slice u 2 uc] 97).alloc (.cells #[.slice fa 3 fcap, .slice fc 2 fcap', .int .i64 FK] 72)).alloc (.cells #[.int .i64 0, .int .i64 0, .bool false] 149)
  have f_0 := (Cel.new (w.alloc (.cells #[.slice a 3 cap, .slice c m cap', .slice ad N pc, .int .i64 s, .slice e 3 ec, .slice u 2 uc] 97)) [.slice fa 3 fcap, .slice fc 2 fcap', .int .i64 FK] 72).alloc (.cells #[.int .i64 0, .int .i64 0, .bool false] 149)
  have r_0 := Cel.new ((w.alloc (.cells #[.slice a 3 cap, .slice c m cap', .slice ad N pc, .int .i64 s, .slice e 3 ec, .slice u 2 uc] 97)).alloc (.cells #[.slice fa 3 fcap, .slice fc 2 fcap', .int .i64 FK] 72)) [.int .i64 0, .int .i64 0, .bool false] 149
  have B_0 := (((Below.refl w.heap.size w).alloc (Nat.le_refl _) (.cells #[.slice a 3 cap, .slice c m cap', .slice ad N pc, .int .i64 s, .slice e 3 ec, .slice u 2 uc] 97)).alloc (by simp) (.cells #[.slice fa 3 fcap, .slice fc 2 fcap', .int .i64 FK] 72)).alloc (by simp; omega) (.cells #[.int .i64 0, .int .i64 0, .bool false] 149)
  rw [World.size_alloc] at f_0
  rw [World.size_alloc, World.size_alloc] at r_0
  go_enter Tryz.func105, Tryz.ntmps105
  go_upto_region 1 with fail
  obtain ⟨W, hW⟩ : ∃ W, W = ((w.alloc (.cells #[.slice a 3 cap, .slice c m cap', .slice ad N pc, .int .i64 s, .slice e 3 ec, .slice u 2 uc] 97)).alloc (.cells #[.slice fa 3 fcap, .slice fc 2 fcap', .int .i64 FK] 72)).alloc (.cells #[.int .i64 0, .int .i64 0, .bool false] 149) := ⟨_, rfl⟩
  rw [← hW] at q_0 f_0 r_0 B_0 ⊢
  clear hW
  have CC : Hid (∀ X : World, Cel X w.heap.size [.slice a 3 cap, .slice c m cap', .slice ad N pc, .int .i64 s, .slice e 3 ec, .slice u 2 uc] 97 → Cel X (w.heap.size + 1) [.slice fa 3 fcap, .slice fc 2 fcap', .int .i64 FK] 72 → X.cell? ⟨w.heap.size, 0, none⟩ = some (.slice a 3 cap) ∧ X.cell? ⟨w.heap.size, 1, none⟩ = some (.slice c m cap') ∧ X.cell? ⟨w.heap.size, 2, none⟩ = some (.slice ad N pc) ∧ X.cell? ⟨w.heap.size, 3, none⟩ = some (.int .i64 s) ∧ X.cell? ⟨w.heap.size, 4, none⟩ = some (.slice e 3 ec) ∧ X.cell? ⟨w.heap.size, 5, none⟩ = some (.slice u 2 uc) ∧ X.cell? ⟨w.heap.size + 1, 0, none⟩ = some (.slice fa 3 fcap) ∧ X.cell? ⟨w.heap.size + 1, 1, none⟩ = some (.slice fc 2 fcap') ∧ X.cell? ⟨w.heap.size + 1, 2, none⟩ = some (.int .i64 FK)) := fun X h1 h2 => ⟨h1.cell 0, h1.cell 1, h1.cell 2, h1.cell 3, h1.cell 4, h1.cell 5, h2.cell 0, h2.cell 1, h2.cell 2⟩
  have hn0 := CC.out W q_0 f_0
  go_region_held3 (fun w' => w'.cell? ⟨w.heap.size, 0, none⟩ = some (.slice a 3 cap) ∧ w'.cell? ⟨w.heap.size, 1, none⟩ = some (.slice c m cap') ∧ w'.cell? ⟨w.heap.size, 2, none⟩ = some (.slice ad N pc) ∧ w'.cell? ⟨w.heap.size, 3, none⟩ = some (.int .i64 s) ∧ w'.cell? ⟨w.heap.size, 4, none⟩ = some (.slice e 3 ec) ∧ w'.cell? ⟨w.heap.size, 5, none⟩ = some (.slice u 2 uc) ∧ w'.cell? ⟨w.heap.size + 1, 0, none⟩ = some (.slice fa 3 fcap) ∧ w'.cell? ⟨w.heap.size + 1, 1, none⟩ = some (.slice fc 2 fcap') ∧ w'.cell? ⟨w.heap.size + 1, 2, none⟩ = some (.int .i64 FK)) (first | with_reducible assumption | exact hn0)
    (first
      | (go_at_call 51
         refine (sums_any _ _ _ _ C E _ _ _ (by exact hC.below B_0.drew) (by exact hE.below B_0.drew) BCE.out.1 BCE.out.2 (by omega) (by omega)).mono ?_
         rintro ee w1 ⟨va, vc, VB, rfl, bd_1, hO, -⟩
         have b_1 := below_of_drew bd_1
         have B_1 := B_0.trans (b_1.mono B_0.size)
         have q_1 := q_0.below b_1
         have f_1 := f_0.below b_1
         have r_1 := r_0.below b_1
         have hn1 := CC.out w1 q_1 f_1)
      | (go_at_call 49
         refine (iat30_any _ _ _ _ _ FC FD _ _ _ _ (List.zipWith (· + ·) C E) U _ (by exact hA.below B_1) (by exact hB.below B_1) hO.ints (by exact hU.below B_1) bA bB bK HV.out bU).mono ?_
         rintro ee w2 ⟨rfl, b_2⟩
         rw [← HNN.out]
         have B_2 := B_1.trans (b_2.mono B_1.size)
         have q_2 := q_1.below b_2
         have f_2 := f_1.below b_2
         have r_2 := r_1.below b_2
         have hn2 := CC.out w2 q_2 f_2))
  clear hn0 hn1 hO bd_1 b_1 b_2 B_0 B_1 q_0 q_1 f_0 f_1 r_0 r_1
  obtain ⟨k0, k1, k2, k3, k4, k5, k6, k7, k8⟩ := hn2
  cases hz : allB 0 FC
  · go_wp2_with fail
    refine (within_any _ _ _ FC _ _ (hA.below B_2) (by omega) (by omega) (by omega)).mono ?_
    rintro ee w3 ⟨rfl, rfl⟩
    rw [hz]
    go_upto_region 4 with fail
    have hn3 := CC.out _ q_2 f_2
    go_region_held3 (fun w' => w'.cell? ⟨w.heap.size, 0, none⟩ = some (.slice a 3 cap) ∧ w'.cell? ⟨w.heap.size, 1, none⟩ = some (.slice c m cap') ∧ w'.cell? ⟨w.heap.size, 2, none⟩ = some (.slice ad N pc) ∧ w'.cell? ⟨w.heap.size, 3, none⟩ = some (.int .i64 s) ∧ w'.cell? ⟨w.heap.size, 4, none⟩ = some (.slice e 3 ec) ∧ w'.cell? ⟨w.heap.size, 5, none⟩ = some (.slice u 2 uc) ∧ w'.cell? ⟨w.heap.size + 1, 0, none⟩ = some (.slice fa 3 fcap) ∧ w'.cell? ⟨w.heap.size + 1, 1, none⟩ = some (.slice fc 2 fcap') ∧ w'.cell? ⟨w.heap.size + 1, 2, none⟩ = some (.int .i64 FK)) (first | with_reducible assumption | exact hn3)
      (first
        | (go_at_call 117
           refine (ipart_any _ _ _ _ _ _ _ FC _ (by exact hA.below B_2.drew) (by omega)).mono ?_
           rintro ee w4 ⟨rfl, bd_4, kp⟩
           have b_4 := below_of_drew bd_4
           have B_4 := B_2.trans (b_4.mono B_2.size)
           have q_4 := q_2.below b_4
           have f_4 := f_2.below b_4
           have r_4 := r_2.below b_4
           have hn4 := CC.out w4 q_4 f_4)
        | (go_at_call 129
           refine (ihas_any _ _ _ ss _ _ _ (partL FC) _ HN.out (by exact hF.below B_4) hN1 (by exact kp.ints' (by rw [part_len]; exact hA.1)) (by omega)).mono ?_
           rintro ee w5 ⟨rfl, b_5⟩
           have B_5 := B_4.trans (b_5.mono B_4.size)
           have q_5 := q_4.below b_5
           have f_5 := f_4.below b_5
           have r_5 := r_4.below b_5
           have hn5 := CC.out w5 q_5 f_5))
    clear hn3 hn4 bd_4 b_4 b_5 B_2 B_4 q_2 q_4 f_2 f_4 r_2 r_4 kp k0 k1 k2 k3 k4 k5 k6 k7 k8
    obtain ⟨k0, k1, k2, k3, k4, k5, k6, k7, k8⟩ := hn5
    have d0 := r_5.cell 0
    have d1 := r_5.cell 1
    have d2 := r_5.cell 2
    have e0 := r_5.free 0
    have e1 := r_5.free 1
    have e2 := r_5.free 2
    have lt := r_5.lt
    simp only [List.getElem?_cons_zero, List.getElem?_cons_succ] at d0 d1 d2
    by_cases hh : hasI ss (partL FC) < 0
    · have X : x = (0, 0, false) := by rw [HI.out, HP.out, hz, if_neg (by decide), if_pos hh]
      have HX2 : Hid _ := X
      clear X
      go_wp2
      refine bodyPost_ret (v := .agg #[.int .i64 0, .int .i64 0, .bool false]) (by simp [results, Tryz.results105, go_sem, d0, d1, d2]) rfl ⟨x, HX.out, by rw [HX2.out], ?_⟩
      exact (((B_5.setCell (by simp only []; omega) _).setCell (by simp only []; omega) _).setCell (by simp only []; omega) _)
    · have X : x = (n - o, n + o, true) := by rw [HI.out, HP.out, hz, if_neg (by decide), if_neg hh]
      have HX2 : Hid _ := X
      clear X
      go_wp2_with fail
      refine (iothers_any _ _ _ _ _ _ D s _ (hD.below B_5) (by omega)).mono ?_
      rintro ee w6 ⟨rfl, b_6⟩
      rw [← HO.out]
      have B_6 := B_5.trans (b_6.mono B_5.size)
      have r_6 := r_5.below b_6
      clear d0 d1 d2 e0 e1 e2 lt
      have d0 := r_6.cell 0
      have d1 := r_6.cell 1
      have d2 := r_6.cell 2
      have e0 := r_6.free 0
      have e1 := r_6.free 1
      have e2 := r_6.free 2
      have lt := r_6.lt
      simp only [List.getElem?_cons_zero, List.getElem?_cons_succ] at d0 d1 d2
      go_wp2
      refine bodyPost_ret (v := .agg #[.int .i64 (n - o), .int .i64 (n + o), .bool true]) (by simp [results, Tryz.results105, go_sem, d0, d1, d2]) rfl ⟨x, HX.out, by rw [HX2.out], ?_⟩
      exact (((B_6.setCell (by simp only []; omega) _).setCell (by simp only []; omega) _).setCell (by simp only []; omega) _)
  · have X : x = (n, n, true) := by rw [HI.out, HP.out, hz, if_pos rfl]
    have HX2 : Hid _ := X
    clear X
    go_wp2_with fail
    refine (within_any _ _ _ FC _ _ (hA.below B_2) (by omega) (by omega) (by omega)).mono ?_
    rintro ee w3 ⟨rfl, rfl⟩
    rw [hz]
    have d0 := r_2.cell 0
    have d1 := r_2.cell 1
    have d2 := r_2.cell 2
    have e0 := r_2.free 0
    have e1 := r_2.free 1
    have e2 := r_2.free 2
    have lt := r_2.lt
    simp only [List.getElem?_cons_zero, List.getElem?_cons_succ] at d0 d1 d2
    go_wp2
    refine bodyPost_ret (v := .agg #[.int .i64 n, .int .i64 n, .bool true]) (by simp [results, Tryz.results105, go_sem, d0, d1, d2]) rfl ⟨x, HX.out, by rw [HX2.out], ?_⟩
    exact (((B_2.setCell (by simp only []; omega) _).setCell (by simp only []; omega) _).setCell (by simp only []; omega) _)

end Go.Proofs.YtkpnhclaidcbdaaGreat
namespace Go.Proofs.YtkpnhclaidcbdaaGreat
open Go.RowKit Go.Deep
set_option linter.unusedVariables false

/-- The first k sites keep within a treaty. -/
def keepAll (n m : Nat) (C D : List Int) (ss ls : List IV) : Nat → Bool
  | 0 => true
  | k + 1 => keepAll n m C D ss ls k && keepB n m C D ss (k : Int) (ls[k]?.getD noI).n (ls[k]?.getD noI).x
theorem keepAll_false {n m : Nat} {C D : List Int} {ss ls : List IV} {k : Nat} (h : keepB n m C D ss (k : Int) (ls[k]?.getD noI).n (ls[k]?.getD noI).x = false) : ∀ N, k < N → keepAll n m C D ss ls N = false
  | 0, hN => by omega
  | N + 1, hN => by
    by_cases e : k = N
    · subst e; simp [keepAll, h]
    · rw [keepAll, keepAll_false h N (by omega)]; rfl
/-- Whether all keep within a treaty. -/
def allKeepB (n m : Nat) (C D : List Int) (ss ls : List IV) (L : Nat) : Bool := trtB n m C D && (decide ((L : Int) = m) && keepAll n m C D ss ls L)
theorem keepAll_copy {n m : Nat} {C D : List Int} {ss ts ls us : List IV} (hl : ts.length = ss.length) (h : copiesIS ss ts) (h' : copiesIS ls us) : ∀ N, N ≤ us.length → keepAll n m C D ts us N = keepAll n m C D ss ls N
  | 0, _ => rfl
  | N + 1, hN => by
    have c := h' N (by omega)
    rw [keepAll, keepAll, keepAll_copy hl h h' N (by omega), keepB_copy hl h, c.1, c.2]
theorem allKeepB_copy {n m : Nat} {C D : List Int} {ss ts ls us : List IV} {L : Nat} (hl : ts.length = ss.length) (h : copiesIS ss ts) (h' : copiesIS ls us) (hu : us.length = L) : allKeepB n m C D ts us L = allKeepB n m C D ss ls L := by
  rw [allKeepB, allKeepB, keepAll_copy hl h h' L (by omega)]

end Go.Proofs.YtkpnhclaidcbdaaGreat
namespace Go.Proofs.YtkpnhclaidcbdaaGreat
open Go.RowKit Go.Deep
set_option linter.unusedVariables false
set_option maxRecDepth 100000

/-- What pots have with what the first k sites have added. -/
def sumT (B : List Int) (es : List IV) : Nat → List Int
  | 0 => B
  | k + 1 => List.zipWith (· + ·) (sumT B es k) (es[k]?.getD noI).x
theorem zip_len {xs ys : List Int} (h1 : xs.length = 3) (h2 : ys.length = 3) : (List.zipWith (· + ·) xs ys).length = 3 := by rw [List.length_zipWith]; omega
theorem sumT_len {B : List Int} {es : List IV} (hB : B.length = 3) : ∀ k, (∀ i, i < k → (es[i]?.getD noI).x.length = 3) → (sumT B es k).length = 3
  | 0, _ => hB
  | k + 1, h => zip_len (sumT_len hB k (fun i hi => h i (by omega))) (h k (by omega))
theorem dot_zip {xs ys FC : List Int} (h1 : xs.length = 3) (h2 : ys.length = 3) : dot FC (List.zipWith (· + ·) xs ys) 3 = dot FC xs 3 + dot FC ys 3 := by
  match xs, h1, ys, h2 with
  | [a, b, c], _, [d, e, f], _ =>
    simp only [dot, List.zipWith_cons_cons, List.zipWith_nil_right, List.getElem?_cons_zero, List.getElem?_cons_succ, Option.getD_some, Int.mul_add]
    omega
/-- What the others' lists come to, and the site's own. -/
def dO (FC : List Int) (es : List IV) (s : Int) : Nat → Int
  | 0 => 0
  | k + 1 => if (k : Int) = s then dO FC es s k else dO FC es s k + dot FC (es[k]?.getD noI).x 3
theorem dot_sumT {B FC : List Int} {es : List IV} {s : Nat} {E : List Int} (hB : B.length = 3) (hs : (es[s]?.getD noI).x = E) : ∀ k, (∀ i, i < k → (es[i]?.getD noI).x.length = 3) → dot FC (sumT B es k) 3 = dot FC B 3 + dO FC es (s : Int) k + (if s < k then dot FC E 3 else 0)
  | 0, _ => by simp [sumT, dO]
  | k + 1, h => by
    have ih := dot_sumT (FC := FC) hB hs k (fun i hi => h i (by omega))
    rw [sumT, dot_zip (sumT_len hB k (fun i hi => h i (by omega))) (h k (by omega)), ih, dO]
    by_cases hk : k = s
    · subst hk
      have e1 : ¬ k < k := by omega
      have e2 : k < k + 1 := by omega
      rw [hs]
      simp only [e1, e2, if_true, if_false]
      omega
    · have e3 : ¬ (k : Int) = (s : Int) := by omega
      by_cases hl : s < k
      · have e4 : s < k + 1 := by omega
        simp only [e3, hl, e4, if_true, if_false]
        omega
      · have e4 : ¬ s < k + 1 := by omega
        simp only [e3, hl, e4, if_false]
        omega
theorem dO_bnd {FC G : List Int} {es : List IV} {s : Int} (hG : ∀ i : Nat, i < G.length → 0 ≤ G[i]?.getD 0 ∧ G[i]?.getD 0 ≤ 50) : ∀ k, k ≤ G.length → k ≤ 3 → (∀ i, i < k → -(G[i]?.getD 0) ≤ dot FC (es[i]?.getD noI).x 3 ∧ dot FC (es[i]?.getD noI).x 3 ≤ G[i]?.getD 0) → -(others G s k) ≤ dO FC es s k ∧ dO FC es s k ≤ others G s k
  | 0, _, _, _ => by simp [dO, others]
  | k + 1, hk, h3, h => by
    have ih := dO_bnd (s := s) hG k (by omega) (by omega) (fun i hi => h i (by omega))
    have ob := others_bnd (s := s) hG k (by omega) (by omega)
    have d := hG k (by omega)
    have hh := h k (by omega)
    rw [dO, others]
    split
    · exact ih
    · rw [IntWalk.wrap64_in _ ⟨by omega, by omega⟩]
      omega
theorem dO_zero {FC : List Int} {es : List IV} {s : Int} (h : ∀ y : List Int, dot FC y 3 = 0) : ∀ k, dO FC es s k = 0
  | 0 => rfl
  | k + 1 => by rw [dO, dO_zero h k, h]; split <;> rfl
theorem hasT_mem {part : List Int} : ∀ (xs : List (List Int)) (k : Nat), ¬ hasFrom part k xs < 0 → part ∈ xs
  | [], k, h => by simp [hasFrom] at h
  | x :: xs, k, h => by
    rw [hasFrom] at h
    by_cases e : eqB x part = true
    · have : x = part := by simpa [eqB] using e
      rw [this]; simp
    · rw [if_neg e] at h
      exact List.mem_cons_of_mem _ (hasT_mem xs (k + 1) h)
theorem part_dot {FC y : List Int} (hl : FC.length = 3) (b : bnd 10000000 FC) : dot (partL FC) y 3 = dot FC y 3 ∨ dot (partL FC) y 3 = -dot FC y 3 := by
  match FC, hl with
  | [x0, x1, x2], _ =>
    have b0 := b 0
    have b1 := b 1
    have b2 := b 2
    simp only [List.getElem?_cons_zero, List.getElem?_cons_succ, Option.getD_some] at b0 b1 b2
    have hs : sg [x0, x1, x2] = 1 ∨ sg [x0, x1, x2] = -1 := by unfold sg; split <;> simp
    have e : partL [x0, x1, x2] = [wrap64 (sg [x0, x1, x2] * x0), wrap64 (sg [x0, x1, x2] * x1), wrap64 (sg [x0, x1, x2] * x2)] := rfl
    rw [e]
    generalize sg [x0, x1, x2] = g at *
    rcases hs with rfl | rfl
    · left
      rw [IntWalk.wrap64_in _ ⟨by omega, by omega⟩, IntWalk.wrap64_in _ ⟨by omega, by omega⟩, IntWalk.wrap64_in _ ⟨by omega, by omega⟩]
      simp only [Int.one_mul]
    · right
      rw [IntWalk.wrap64_in _ ⟨by omega, by omega⟩, IntWalk.wrap64_in _ ⟨by omega, by omega⟩, IntWalk.wrap64_in _ ⟨by omega, by omega⟩]
      simp only [dot, List.getElem?_cons_zero, List.getElem?_cons_succ, Option.getD_some, Int.neg_mul, Int.one_mul]
      omega
theorem zero_dot {FC : List Int} (h : allB 0 FC = true) (y : List Int) : ∀ k, dot FC y k = 0
  | 0 => rfl
  | k + 1 => by
    have e : FC[k]?.getD 0 = 0 := by
      by_cases hk : k < FC.length
      · rw [List.getElem?_eq_getElem hk]
        unfold allB at h
        rw [List.all_eq_true] at h
        have := inB_iff.1 (h _ (List.getElem_mem hk))
        simp only [Option.getD_some]
        omega
      · rw [List.getElem?_eq_none (by omega)]; rfl
    simp only [dot, zero_dot h y k, e]
    omega
theorem keepAll_at {n m : Nat} {C D : List Int} {ss ls : List IV} : ∀ {L : Nat}, keepAll n m C D ss ls L = true → ∀ i, i < L → keepB n m C D ss (i : Int) (ls[i]?.getD noI).n (ls[i]?.getD noI).x = true
  | 0, _, i, hi => by omega
  | L + 1, h, i, hi => by
    rw [keepAll, Bool.and_eq_true] at h
    by_cases e : i = L
    · subst e; exact h.2
    · exact keepAll_at h.1 i (by omega)
/-- What one site knows is so for all. -/
theorem bounds_all {n m : Nat} {C D : List Int} {ss es : List IV} {s : Nat} {k : Nat} {E : List Int} {fn fm : Nat} {FC FD : List Int} {FK : Int} {l : Nat} {U : List Int} {lo hi : Int}
    (hC : C.length = n) (hD : D.length = m) (hE : E.length = k) (hF : FC.length = fn) (hes : es.length = m) (he : ∀ i, i < m → (es[i]?.getD noI).x.length = 3) (hs : s < m) (hsE : (es[s]?.getD noI).x = E)
    (h : bansB n m C D ss (s : Int) k E fn fm FC FD FK l U = (lo, hi, true)) : lo ≤ hi ∧ (allKeepB n m C D ss es m = true → lo ≤ atV FC FD FK (sumT C es m) U ∧ atV FC FD FK (sumT C es m) U ≤ hi) := by
  unfold bansB at h
  split at h
  · rename_i hb
    unfold bokB at hb
    simp only [Bool.and_eq_true] at hb
    obtain ⟨hv, hf, hu⟩ := hb
    obtain ⟨n3, _, m1, m3, _, _, _, k3, _, hg⟩ := viewB_elim hv
    obtain ⟨f3, _, bF, _, _, _⟩ := formB_elim hf
    have hC3 : C.length = 3 := by omega
    have hE3 : E.length = 3 := by omega
    have hd := dot_sumT (FC := FC) hC3 hsE m he
    rw [if_pos hs] at hd
    have hz := dot_zip (FC := FC) hC3 hE3
    have ob := others_bnd (s := (s : Int)) hg m (by omega) m3
    have key : atV FC FD FK (sumT C es m) U = atV FC FD FK (List.zipWith (· + ·) C E) U + dO FC es (s : Int) m := by
      unfold atV
      rw [hd, hz]
      omega
    unfold bnds at h
    split at h
    · rename_i h0
      simp only [Prod.mk.injEq] at h
      rw [zero_part (by omega) bF] at h0
      have := dO_zero (es := es) (s := (s : Int)) (zero_dot h0 · 3) m
      exact ⟨by omega, fun _ => by rw [key]; omega⟩
    · split at h
      · simp at h
      · rename_i hh
        simp only [Prod.mk.injEq] at h
        refine ⟨by omega, fun hk => ?_⟩
        have hm := hasT_mem _ _ hh
        obtain ⟨p, hp, hpx⟩ := List.mem_map.1 hm
        unfold allKeepB at hk
        simp only [Bool.and_eq_true] at hk
        have hall := hk.2.2
        have hb2 := dO_bnd (FC := FC) (es := es) (s := (s : Int)) hg m (by omega) m3 (fun i hi => by
          have hi2 := keepAll_at hall i hi
          unfold keepB at hi2
          simp only [Bool.and_eq_true] at hi2
          have h3 := hi2.2
          unfold keepsB at h3
          rw [List.all_eq_true] at h3
          have h4 := inB_iff.1 (h3 p hp)
          rw [hpx] at h4
          simp only [Int.toNat_natCast] at h4
          rcases part_dot (y := (es[i]?.getD noI).x) (show FC.length = 3 by omega) bF with e | e <;> omega)
        rw [key]
        omega
  · simp at h

end Go.Proofs.YtkpnhclaidcbdaaGreat
namespace Go.Proofs.YtkpnhclaidcbdaaGreat
open Go.RowKit
set_option linter.unusedVariables false
set_option maxRecDepth 100000

theorem Touch.ofB {B : Nat} {w w' : World} (h : Below B w w') (hs : w.heap.size ≤ w'.heap.size) : Touch (fun x => B ≤ x) w w' := ⟨h.os, h.tape, h.output, hs, fun k hk hn => h.block k (by omega)⟩

set_option maxHeartbeats 1600000 in
theorem wp_copyI {o : Oper} {a : Act} {K : Act → World → Prop} {Q : Exit → Act → World → Prop} {W : World} (s x : Operand) (ho : o.op = .call { callee := .builtin .append, args := #[s, x], argTypes := #[24, 24] }) (base L B n cap : Nat) (zs : List Int)
    (hs : a.eval s = .slice (some ⟨L, 0, none⟩) 0 0) (hown : W.ownsRow base 3 1 (.slice (some ⟨L, 0, none⟩) 0 0) 0 []) (hx : a.eval x = .slice (some ⟨B, 0, none⟩) n cap) (hb : Blk W B zs) (hl : zs.length = n) (hn : n ≤ 1048576) (hbase : base ≤ W.heap.size) (hL : base ≤ L)
    (h : ∀ a' cap' B' W1, Below base W W1 → Touch (fun z => z = L) W W1 → OwnX W1 a' B' n zs → (0 < n → base ≤ B' ∧ (B' = L ∨ W.heap.size ≤ B')) → K (a.put o.dst (.slice a' n cap')) W1) : o.wp Tryz.prog a W K Q := by
  by_cases h0 : 0 < n
  · obtain ⟨i0, hi, hz0, hz1, hz2⟩ := info_parts Tryz.infoInt
    have hcl : ∀ i, i < n → W.cell? ⟨B, 0 + i, none⟩ = some (.int .i64 (zs.getD i 0)) := fun i hi => by rw [Nat.zero_add]; exact hb.cell i (by omega)
    refine wp_append_lies _ s x 24 ho base 3 i0 (.int .i64 0) 1 8 Tryz.underlying24 hi hz0 hz1 hz2 rfl (by omega) _ 0 [] hs hown ⟨B, 0, none⟩ n cap (zs.map (Value.int .i64)) hx (by rw [List.length_map, hl, Nat.mul_one]) (newsI hcl hl) (oneI _) h0 (by unfold maxLen; omega) (by omega) hbase _ rfl ?_
    intro g cp W1 ho1 hg hat hlt
    have hB : Below base W W1 := (Below.refl base W).grown hg hbase (fun z hz => by simp only [Value.ownBlock, Option.some.injEq] at hz; omega)
    simp only [Nat.zero_add]
    have hgb : base ≤ g ∧ (g = L ∨ W.heap.size ≤ g) := by
      rcases hat with e | e
      · simp only [Value.ownBlock, Option.some.injEq] at e; omega
      · omega
    refine h _ _ g W1 hB ⟨hB.os, hB.tape, hB.output, hB.size, fun C hC hne => ?_⟩ ?_ (fun _ => hgb)
    · rw [hg.block C hC (by simp only [Value.ownBlock]; intro e; simp only [Option.some.injEq] at e; exact hne e)]
    · rcases ho1.2 with ⟨hv, _⟩ | ⟨g', cap', cur, hv, hg', hh, hl', _, hs', ht⟩
      · simp at hv
      · simp only [Value.slice.injEq, Option.some.injEq, Addr.mk.injEq, and_true, true_and] at hv
        obtain ⟨rfl, rfl⟩ := hv
        refine ⟨hl, .inr ⟨rfl, cur.toList, by unfold Cel; simpa using hh, fun i hi => ?_⟩⟩
        have h1 : (cur.toList.take ((0 + n) * 1))[i]? = (zs.map (Value.int .i64))[i]? := by rw [ht]; rfl
        rw [List.getElem?_take, if_pos (by omega)] at h1
        rw [h1]
        have hi2 : i < zs.length := by omega
        simp [hi2]
  · obtain rfl : n = 0 := by omega
    have hzs : zs = [] := List.eq_nil_of_length_eq_zero hl
    subst hzs
    obtain ⟨dst, op, ty, pos, after, guard⟩ := o
    dsimp only at ho
    subst ho
    unfold Oper.wp execOp
    simp only [resolve, invoke, builtin, Sem.run_bind, Sem.run_pure, Result.andThen_ok, List.map_toArray, List.map_cons, List.map_nil, hs, hx]
    go_simp
    exact h _ _ 0 W (Below.refl _ _) (Touch.refl _ _) (OwnX.nil _ _ _) (fun h => absurd h (Nat.lt_irrefl _))

end Go.Proofs.YtkpnhclaidcbdaaGreat
namespace Go.Proofs.YtkpnhclaidcbdaaGreat
open Go.RowKit Go.Deep
set_option linter.unusedVariables false
set_option maxRecDepth 100000

set_option maxHeartbeats 1600000 in
theorem wp_copyG {o : Oper} {a : Act} {K : Act → World → Prop} {Q : Exit → Act → World → Prop} {W : World} (s x : Operand) (ho : o.op = .call { callee := .builtin .append, args := #[s, x], argTypes := #[24, 24] }) (base L : Nat) (ad : Option Addr) (n cap : Nat) (zs : List Int)
    (hs : a.eval s = .slice (some ⟨L, 0, none⟩) 0 0) (hown : W.ownsRow base 3 1 (.slice (some ⟨L, 0, none⟩) 0 0) 0 []) (hx : a.eval x = .slice ad n cap) (hb : Ints W ad n zs) (h0 : 0 < n) (hn : n ≤ 1048576) (hbase : base ≤ W.heap.size) (hL : base ≤ L)
    (h : ∀ cap' B' W1, Below base W W1 → Touch (fun z => z = L) W W1 → OwnX W1 (some ⟨B', 0, none⟩) B' n zs → (base ≤ B' ∧ (B' = L ∨ W.heap.size ≤ B')) → K (a.put o.dst (.slice (some ⟨B', 0, none⟩) n cap')) W1) : o.wp Tryz.prog a W K Q := by
  obtain ⟨i0, hi, hz0, hz1, hz2⟩ := info_parts Tryz.infoInt
  obtain ⟨B, off, rfl, hcell⟩ := hb.pos h0
  have hl := hb.1
  have hcl : ∀ i, i < n → W.cell? ⟨B, off + i, none⟩ = some (.int .i64 (zs.getD i 0)) := fun i hi => by rw [hcell i hi]
  refine wp_append_lies _ s x 24 ho base 3 i0 (.int .i64 0) 1 8 Tryz.underlying24 hi hz0 hz1 hz2 rfl (by omega) _ 0 [] hs hown ⟨B, off, none⟩ n cap (zs.map (Value.int .i64)) hx (by rw [List.length_map, hl, Nat.mul_one]) (newsI hcl hl) (oneI _) h0 (by unfold maxLen; omega) (by omega) hbase _ rfl ?_
  intro g cp W1 ho1 hg hat hlt
  have hB : Below base W W1 := (Below.refl base W).grown hg hbase (fun z hz => by simp only [Value.ownBlock, Option.some.injEq] at hz; omega)
  simp only [Nat.zero_add]
  have hgb : base ≤ g ∧ (g = L ∨ W.heap.size ≤ g) := by
    rcases hat with e | e
    · simp only [Value.ownBlock, Option.some.injEq] at e; omega
    · omega
  refine h _ g W1 hB ⟨hB.os, hB.tape, hB.output, hB.size, fun C hC hne => ?_⟩ ?_ hgb
  · rw [hg.block C hC (by simp only [Value.ownBlock]; intro e; simp only [Option.some.injEq] at e; exact hne e)]
  · rcases ho1.2 with ⟨hv, _⟩ | ⟨g', cap', cur, hv, hg', hh, hl', _, hs', ht⟩
    · simp at hv
    · simp only [Value.slice.injEq, Option.some.injEq, Addr.mk.injEq, and_true, true_and] at hv
      obtain ⟨rfl, rfl⟩ := hv
      refine ⟨hl, .inr ⟨rfl, cur.toList, by unfold Cel; simpa using hh, fun i hi => ?_⟩⟩
      have h1 : (cur.toList.take ((0 + n) * 1))[i]? = (zs.map (Value.int .i64))[i]? := by rw [ht]; rfl
      rw [List.getElem?_take, if_pos (by omega)] at h1
      rw [h1]
      have hi2 : i < zs.length := by omega
      simp [hi2]
theorem ownx_cell {W : World} {B n i : Nat} {zs : List Int} (h : OwnX W (some ⟨B, 0, none⟩) B n zs) (hi : i < n) : W.cell? ⟨B, i, none⟩ = some (.int .i64 (zs[i]?.getD 0)) ∧ W.frozen? ⟨B, i, none⟩ = false := by
  rcases h.2 with h0 | ⟨_, cur, hc, hv⟩
  · omega
  · exact ⟨(hc.cell i).trans (hv i hi), hc.free i⟩
theorem ownx_put {W : World} {B n i : Nat} {zs : List Int} (h : OwnX W (some ⟨B, 0, none⟩) B n zs) (hi : i < n) (y : Int) : Ints (W.setCell ⟨B, i, none⟩ (.int .i64 y)) (some ⟨B, 0, none⟩) n (zs.set i y) := ints_set h.ints hi y
theorem ownx_own {W : World} {B n i : Nat} {zs : List Int} (h : OwnX W (some ⟨B, 0, none⟩) B n zs) (hi : i < n) (y : Int) : OwnX (W.setCell ⟨B, i, none⟩ (.int .i64 y)) (some ⟨B, 0, none⟩) B n (zs.set i y) := by
  have hl := h.1
  rcases h.2 with h0 | ⟨_, cur, hc, hv⟩
  · omega
  · refine ⟨by rw [List.length_set]; exact hl, .inr ⟨rfl, _, hc.set i (.int .i64 y), fun k hk => ?_⟩⟩
    by_cases e : k = i
    · subst e
      have hk2 : k < cur.length := (List.getElem?_eq_some_iff.1 (hv k hk)).1
      rw [List.getElem?_set_self hk2, List.getElem?_set_self (by omega)]
      rfl
    · rw [List.getElem?_set_ne (fun x => e x.symm), List.getElem?_set_ne (fun x => e x.symm)]
      exact hv k hk
theorem sumT_bnd {B : List Int} {es : List IV} (hB : B.length = 3) (bB : bnd 10000 B) : ∀ k : Nat, (∀ i : Nat, i < k → (es[i]?.getD noI).x.length = 3 ∧ bnd 20000 (es[i]?.getD noI).x) → bnd (10000 + 20000 * (k : Int)) (sumT B es k)
  | 0, _ => fun i => by have := bB i; simp only [sumT]; omega
  | k + 1, h => fun i => by
    have ih := sumT_bnd hB bB k (fun i hi => h i (by omega)) i
    have hl := sumT_len hB k (fun i hi => (h i (by omega)).1)
    have hk := h k (by omega)
    have hx := hk.2 i
    simp only [sumT]
    by_cases hi : i < 3
    · have e : (List.zipWith (· + ·) (sumT B es k) (es[k]?.getD noI).x)[i]?.getD 0 = (sumT B es k)[i]?.getD 0 + (es[k]?.getD noI).x[i]?.getD 0 := by
        rw [List.getElem?_zipWith, List.getElem?_eq_getElem (by omega), List.getElem?_eq_getElem (by omega)]
        rfl
      rw [e]
      omega
    · rw [List.getElem?_eq_none (by rw [zip_len hl hk.1]; omega)]
      simp only [Option.getD_none]
      omega
/-- The first v numbers are those with x; the others are not yet. -/
def mixV (P X : List Int) (v : Nat) : List Int := (List.zipWith (· + ·) P X).take v ++ P.drop v
theorem mix_at {P X : List Int} (hP : P.length = 3) (hX : X.length = 3) : ∀ v, v < 3 → (mixV P X v)[v]?.getD 0 = P[v]?.getD 0 ∧ (mixV P X v).set v (P[v]?.getD 0 + X[v]?.getD 0) = mixV P X (v + 1) := fun v hv => by
  match P, hP, X, hX with
  | [a, b, c], _, [d, e, f], _ =>
    match v, hv with
    | 0, _ => exact ⟨rfl, rfl⟩
    | 1, _ => exact ⟨rfl, rfl⟩
    | 2, _ => exact ⟨rfl, rfl⟩
theorem mix_end {P X : List Int} (hP : P.length = 3) (hX : X.length = 3) : mixV P X 3 = List.zipWith (· + ·) P X := by
  match P, hP, X, hX with
  | [a, b, c], _, [d, e, f], _ => rfl

set_option maxHeartbeats 3200000 in
theorem cosum_any (a : Option Addr) (cap : Nat) (B : List Int) (ad : Option Addr) (N c : Nat) (es : List IV) (w : World) (hB : Ints w a 3 B) (hE : ISG w ad es) (hN : es.length = N) (hN3 : N ≤ 3) (h3 : ∀ i, i < N → (es[i]?.getD noI).n = 3) (bB : bnd 10000 B) (bE : ∀ i, i < N → bnd 20000 (es[i]?.getD noI).x) :
    Calls Tryz.prog 28 #[.slice a 3 cap, .slice ad N c] w fun e w' => ∃ g cg, e = .returned (.slice (some ⟨g, 0, none⟩) 3 cg) ∧ Ints w' (some ⟨g, 0, none⟩) 3 (sumT B es N) ∧ Below w.heap.size w w' := by
  have HN : Hid (es.length = N) := hN
  have H3 : Hid (∀ i, i < N → (es[i]?.getD noI).n = 3) := h3
  have HB : Hid (B.length = 3) := hB.1
  have HX : Hid (∀ i, i < N → (es[i]?.getD noI).x.length = 3 ∧ bnd 20000 (es[i]?.getD noI).x) := fun i hi => ⟨by obtain ⟨_, _, _, _, hI, _⟩ := hE i (by rw [hN]; exact hi); rw [hI.1]; exact h3 i hi, bE i hi⟩
  have HS : Hid (∀ k : Nat, k ≤ N → bnd (10000 + 20000 * (k : Int)) (sumT B es k) ∧ (sumT B es k).length = 3) := fun k hk => ⟨sumT_bnd HB.out bB k (fun i hi => HX.out i (by omega)), sumT_len HB.out k (fun i hi => (HX.out i (by omega)).1)⟩
  clear hN h3 bB bE
  have al := (Below.refl w.heap.size w).alloc (Nat.le_refl _) (.cells #[] 3)
  have o0 := World.ownsRow_lit (base := w.heap.size) (e := 3) (size := 1) w #[] 0 (Nat.le_refl _) (by unfold maxLen; omega) rfl
  have hBa := hB.below al
  go_enter Tryz.func28, Tryz.ntmps28
  go_wp2_with (at_builtin; refine wpList_plain rfl (fun K hK => ?_); refine wp_copyG (.tmp 8) (.tmp 9) rfl w.heap.size w.heap.size a 3 cap B (by rfl) o0 (by rfl) hBa (by omega) (by omega) (by rw [World.size_alloc]; omega) (Nat.le_refl _) ?_)
  intro c8 B8 W1 hBn hTn ox hB8 hor
  refine hK _ _ ?_
  clear hK K
  have b1 := al.trans hBn
  skip
  clear hBn hTn al o0 hBa hor hB
  go_wp2_with fail
  go_loopw [6] (fun i wr => ∃ k : Nat, k ≤ N ∧ i = .int .i64 k ∧ OwnX wr (some ⟨B8, 0, none⟩) B8 3 (sumT B es k) ∧ Below w.heap.size w wr) (fun i _ => N - (intOf i).toNat)
  case atStart => exact ⟨0, by omega, rfl, ox, b1⟩
  case round =>
    clear ox b1
    obtain ⟨k, hk, rfl, ox, b1⟩ := hrel
    by_cases hlt : k < N
    · have hlt' : (k : Int) < (N : Int) := by omega
      obtain ⟨b', o', e', hc0, hI0, _⟩ := hE k (by rw [HN.out]; exact hlt)
      subst e'
      have hn3 := H3.out k hlt
      have hx := HX.out k hlt
      have hs := HS.out k (by omega)
      have hsum : sumT B es (k + 1) = List.zipWith (· + ·) (sumT B es k) (es[k]?.getD noI).x := rfl
      rw [hn3] at hI0
      obtain ⟨y, hy⟩ : ∃ y, y = es[k]?.getD noI := ⟨_, rfl⟩
      rw [← hy] at hc0 hI0 hn3 hx hsum
      obtain ⟨Z, hZ⟩ : ∃ Z, Z = sumT B es k := ⟨_, rfl⟩
      rw [← hZ] at hs hsum ox
      have hc1 : w.cell? ⟨b', o' + k, none⟩ = some (.slice y.a y.n y.cap) := hc0
      rw [hn3] at hc1
      have HSUM : Hid (sumT B es (k + 1) = List.zipWith (· + ·) Z y.x) := hsum
      have HZL : Hid (Z.length = 3 ∧ y.x.length = 3) := ⟨hs.2, hx.1⟩
      have HZB : Hid (bnd (10000 + 20000 * (k : Int)) Z ∧ bnd 20000 y.x) := ⟨hs.1, hx.2⟩
      obtain ⟨b5, o5, e5, hcy⟩ := hI0.pos (by omega)
      have HE5 : Hid (y.a = some ⟨b5, o5, none⟩) := e5
      rw [e5] at hc1
      have ox0 : OwnX wr (some ⟨B8, 0, none⟩) B8 3 (mixV Z y.x 0) := ox
      clear hc0 hsum hs hx hy hZ e5 ox
      go_wp2_with fail
      go_loopw [7] (fun i wx => ∃ v : Nat, v ≤ 3 ∧ i = .int .i64 v ∧ OwnX wx (some ⟨B8, 0, none⟩) B8 3 (mixV Z y.x v) ∧ Below w.heap.size w wx) (fun i _ => 3 - (intOf i).toNat)
      case atStart => exact ⟨0, by omega, rfl, ox0, b1⟩
      case round =>
        clear ox0 b1
        obtain ⟨v, hv, rfl, ox, b1⟩ := hrel
        by_cases hlv : v < 3
        · have hlv' : (v : Int) < 3 := by omega
          obtain ⟨m1, m2⟩ := mix_at HZL.out.1 HZL.out.2 v hlv
          have z1 := HZB.out.1 v
          have z2 := HZB.out.2 v
          have d0 := (ownx_cell ox hlv).1
          have f0 := (ownx_cell ox hlv).2
          rw [m1] at d0
          have d2 : w.cell? ⟨b5, o5 + v, none⟩ = some (.int .i64 (y.x[v]?.getD 0)) := hcy v hlv
          have ox2 := ownx_own ox hlv (Z[v]?.getD 0 + y.x[v]?.getD 0)
          rw [m2] at ox2
          have lq := ox.lt (by omega)
          obtain ⟨p, hp⟩ : ∃ p, p = Z[v]?.getD 0 := ⟨_, rfl⟩
          obtain ⟨t, ht⟩ : ∃ t, t = y.x[v]?.getD 0 := ⟨_, rfl⟩
          rw [← hp] at d0 z1 ox2
          rw [← ht] at d2 z2 ox2
          have hw : IntKind.i64.wrap (p + t) = p + t := wrap_id (by omega) (by omega)
          clear hp ht m1 m2
          have e1 : wr.cell? ⟨b', o' + k, none⟩ = some (.slice (some ⟨b5, o5, none⟩) 3 y.cap) := by rw [b1.cell (p := ⟨b', o' + k, none⟩) (block_lt hc1)]; exact hc1
          have e2 : wr.cell? ⟨b5, o5 + v, none⟩ = some (.int .i64 t) := by rw [b1.cell (p := ⟨b5, o5 + v, none⟩) (block_lt d2)]; exact d2
          go_upto_region 8 with fail
          refine wp_region_ends (fun X => X.cell? ⟨b', o' + k, none⟩ = some (.slice (some ⟨b5, o5, none⟩) 3 y.cap) ∧ X.cell? ⟨b5, o5 + v, none⟩ = some (.int .i64 t)) (fun X => X.cell? ⟨B8, v, none⟩ = some (.int .i64 p)) 15 (by kernel_rfl) ?_
          have dr : Below wr.heap.size wr wr.drew := (Below.refl _ _).drew
          have hSS : (fun X : World => X.cell? ⟨b', o' + k, none⟩ = some (.slice (some ⟨b5, o5, none⟩) 3 y.cap) ∧ X.cell? ⟨b5, o5 + v, none⟩ = some (.int .i64 t)) wr.drew ∧ (fun X : World => X.cell? ⟨B8, v, none⟩ = some (.int .i64 p)) wr.drew := ⟨⟨e1, e2⟩, d0⟩
          have b2 := b1.trans (dr.mono b1.size)
          have ox3 : OwnX (wr.drew.setCell ⟨B8, v, none⟩ (.int .i64 (p + t))) (some ⟨B8, 0, none⟩) B8 3 (mixV Z y.x (v + 1)) := ox2
          have f1 : wr.drew.frozen? ⟨B8, v, none⟩ = false := f0
          have d1 : wr.drew.cell? ⟨B8, v, none⟩ = some (.int .i64 p) := d0
          have l1 : B8 < wr.drew.heap.size := lq
          have b3 := b2.setCell (p := ⟨B8, v, none⟩) (by simp only []; omega) (.int .i64 (p + t))
          have g1 : (wr.drew.setCell ⟨B8, v, none⟩ (.int .i64 (p + t))).cell? ⟨b', o' + k, none⟩ = some (.slice (some ⟨b5, o5, none⟩) 3 y.cap) := by rw [b3.cell (p := ⟨b', o' + k, none⟩) (block_lt hc1)]; exact hc1
          have g2 : (wr.drew.setCell ⟨B8, v, none⟩ (.int .i64 (p + t))).cell? ⟨b5, o5 + v, none⟩ = some (.int .i64 t) := by rw [b3.cell (p := ⟨b5, o5 + v, none⟩) (block_lt d2)]; exact d2
          clear dr e1 e2 d0 f0 lq ox2 ox
          obtain ⟨V, hV⟩ : ∃ V, V = wr.drew := ⟨_, rfl⟩
          rw [← hV]
          rw [← hV] at hSS b2 ox3 f1 d1 l1 b3 g1 g2
          clear hV
          refine tkL (i := 0) rfl hSS ?_
          refine tkL (i := 1) rfl hSS ?_
          refine tkL (i := 2) rfl hSS ?_
          simp only [Act.put, List.setIfInBounds_toArray, List.set_cons_succ, List.set_cons_zero, List.getElem_toArray, List.getElem_cons_succ, List.getElem_cons_zero]
          refine tkL (i := 3) rfl hSS ?_
          refine tkL (i := 4) rfl hSS ?_
          refine tkM (i := 5) rfl rfl hSS ?_
          simp only [Act.put, List.setIfInBounds_toArray, List.set_cons_succ, List.set_cons_zero, List.getElem_toArray, List.getElem_cons_succ, List.getElem_cons_zero]
          refine tkL (i := 6) rfl hSS ?_
          refine tkL (i := 7) rfl hSS ?_
          refine tkL (i := 8) rfl hSS ?_
          simp only [Act.put, List.setIfInBounds_toArray, List.set_cons_succ, List.set_cons_zero, List.getElem_toArray, List.getElem_cons_succ, List.getElem_cons_zero]
          refine tkL (i := 9) rfl hSS ?_
          refine tkL (i := 10) rfl hSS ?_
          refine tkL (i := 11) rfl hSS ?_
          simp only [Act.put, List.setIfInBounds_toArray, List.set_cons_succ, List.set_cons_zero, List.getElem_toArray, List.getElem_cons_succ, List.getElem_cons_zero]
          refine tkL (i := 12) rfl hSS ?_
          refine tkL (i := 13) rfl hSS ?_
          refine wpAnyE_one (i := 14) (by kernel_rfl) rfl (fun Kn hK => ?_)
          go_simp
          refine hK.out _ _ ⟨hSS.1, fun _ => hSS.2⟩ ?_
          clear hK hSS
          refine wpAnyE_one (i := 15) (by kernel_rfl) rfl (fun Kn hK => ?_)
          go_simp
          refine hK.out _ _ ⟨⟨g1, g2⟩, fun h => absurd h (by decide)⟩ ?_
          clear hK d1 f1 l1 g1 g2
          refine wpAnyE_done (by kernel_rfl) ?_ _
          go_wp2
          go_roundw
          case rel => exact ⟨v + 1, by omega, by go_num, ox3, b3⟩
          case measure => simp [intOf]; omega
        · obtain rfl : v = 3 := by omega
          have hlv' : ¬ ((3 : Nat) : Int) < 3 := by omega
          have oxe : OwnX wr (some ⟨B8, 0, none⟩) B8 3 (sumT B es (k + 1)) := by rw [HSUM.out, ← mix_end HZL.out.1 HZL.out.2]; exact ox
          clear ox
          go_wp2
          go_roundw
          case rel => exact ⟨k + 1, by omega, by go_num, oxe, b1⟩
          case measure => simp [intOf]; omega
    · obtain rfl : k = N := by omega
      have hlt' : ¬ (k : Int) < (k : Int) := by omega
      have hf := ox.ints
      clear ox
      go_wp2
      go_ret
      first | exact ⟨B8, c8, rfl, hf, b1⟩ | exact ⟨B8, ⟨c8, rfl⟩, hf, b1⟩ | exact ⟨⟨c8, rfl⟩, hf, b1⟩ | exact ⟨B8, rfl, hf, b1⟩ | exact ⟨B8, hf, b1⟩ | exact ⟨hf, b1⟩

end Go.Proofs.YtkpnhclaidcbdaaGreat
