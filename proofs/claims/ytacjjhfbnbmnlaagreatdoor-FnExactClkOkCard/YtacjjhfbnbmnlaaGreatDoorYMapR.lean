/-
  The keys of the map of places, told by their places, whatever the order of the map (impl's inOrder).
-/
import Derived.Test.YtacjjhfbnbmnlaaGreatDoorYMapQ
namespace Go.Proofs.YtacjjhfbnbmnlaaGreatDoor
open Go.RowKit Go.Deep
set_option linter.unusedVariables false
set_option maxRecDepth 100000

theorem grown_of_touch {W W' : World} {B : Nat} (h : Touch (fun z => z = B) W W') : W.grownBy W' (some B) := ⟨h.os, h.tape, h.output, h.size, fun z hz hn => h.block z hz (fun e => hn (by rw [e]))⟩
theorem Tryz.infoKey : (Tryz.prog.info? KT).map (fun i => (i.zero, i.size, i.bytes)) = some (some (.agg #[.int .i64 0, .int .i64 0, .int .i64 0]), 3, 24) := by kernel_rfl
/-- The places of block L hold parts. -/
def KeyAt (cur : List Value) (j : Nat) (p : List Int) : Prop := cur[j * 3]? = some (.int .i64 (p[0]?.getD 0)) ∧ cur[j * 3 + 1]? = some (.int .i64 (p[1]?.getD 0)) ∧ cur[j * 3 + 2]? = some (.int .i64 (p[2]?.getD 0))
theorem KeyAt.set_same {cur : List Value} {j : Nat} (p : List Int) (h : j * 3 + 2 < cur.length) : KeyAt (((cur.set (j * 3) (.int .i64 (p[0]?.getD 0))).set (j * 3 + 1) (.int .i64 (p[1]?.getD 0))).set (j * 3 + 2) (.int .i64 (p[2]?.getD 0))) j p := by
  refine ⟨?_, ?_, ?_⟩
  · rw [List.getElem?_set_ne (by omega), List.getElem?_set_ne (by omega), List.getElem?_set_self (by omega)]
  · rw [List.getElem?_set_ne (by omega), List.getElem?_set_self (by rw [List.length_set]; omega)]
  · rw [List.getElem?_set_self (by rw [List.length_set, List.length_set]; omega)]
theorem KeyAt.set_other {cur : List Value} {i j : Nat} {q : List Int} (h : KeyAt cur i q) (hne : i ≠ j) (x y z : Value) : KeyAt (((cur.set (j * 3) x).set (j * 3 + 1) y).set (j * 3 + 2) z) i q := by
  refine ⟨?_, ?_, ?_⟩
  · rw [List.getElem?_set_ne (by omega), List.getElem?_set_ne (by omega), List.getElem?_set_ne (by omega)]; exact h.1
  · rw [List.getElem?_set_ne (by omega), List.getElem?_set_ne (by omega), List.getElem?_set_ne (by omega)]; exact h.2.1
  · rw [List.getElem?_set_ne (by omega), List.getElem?_set_ne (by omega), List.getElem?_set_ne (by omega)]; exact h.2.2
theorem MapIs.idx {D : DataW Unit} {ps : List (List Int)} (h : MapIs D ps) {p : List Int} (hp : wfP p) (hh : Maps.has D (kP p) = true) {c : Int} (hc : ∀ z, D.atKey (kP p) z = .lit (.int .i64 c)) : ∃ j, j < ps.length ∧ ps[j]?.getD [] = p ∧ c = j := by
  obtain ⟨j, hj, e⟩ := List.getElem_of_mem ((h.has p hp).1 hh)
  have e' : ps[j]?.getD [] = p := by rw [List.getElem?_eq_getElem hj]; exact e
  have h1 := h.ix j hj (.lit (.int .i64 0))
  rw [e', hc] at h1
  simp only [DataW.lit.injEq, Lit.int.injEq, true_and] at h1
  exact ⟨j, hj, e', h1⟩
theorem MapIs.one {D : DataW Unit} {ps : List (List Int)} (h : MapIs D ps) {i j : Nat} (hi : i < ps.length) (hj : j < ps.length) (e : kP (ps[i]?.getD []) = kP (ps[j]?.getD [])) : i = j := by
  have h1 := h.ix i hi (.lit (.int .i64 0))
  have h2 := h.ix j hj (.lit (.int .i64 0))
  rw [e, h2] at h1
  simp only [DataW.lit.injEq, Lit.int.injEq, true_and] at h1
  omega

set_option maxHeartbeats 3200000 in
theorem iorder_any (B n : Nat) (D : DataW Unit) (ps : List (List Int)) (w : World) (hm : OwnM w B n D) (hD : MapIs D ps) (hl : ps.length ≤ 1048576) :
    Calls Tryz.prog 155 #[.map (some B)] w fun e w' => ∃ L cur, e = .returned (.slice (some ⟨L, 0, none⟩) ps.length ps.length) ∧ Below w.heap.size w w' ∧ w.heap.size ≤ L ∧ Cel w' L cur KT ∧ ∀ j, j < ps.length → KeyAt cur j (ps[j]?.getD []) := by
  have HD : Hid (MapIs D ps) := hD
  have hsz : Maps.size D = ps.length := hD.sz
  have HSZ : Hid (Maps.size D = ps.length) := hsz
  obtain ⟨N, hN⟩ : ∃ N, N = Maps.size D := ⟨_, rfl⟩
  have HN : Hid (N = Maps.size D) := hN
  have hNl : N ≤ 1048576 := by omega
  have lB := hm.lt
  obtain ⟨i0, hi, hz0, hz1, hz2⟩ := info_parts Tryz.infoKey
  obtain ⟨w2, hrun, o2, g2⟩ := run_make_full (P := Tryz.prog) (w := w) w.heap.size 204 KT i0 (.agg #[.int .i64 0, .int .i64 0, .int .i64 0]) 3 Tryz.underlying204 hi hz0 hz1 .i64 .i64 N (by rw [hz2]; omega) (by unfold maxLen; omega) (Nat.le_refl _)
  have hrun' : (Instr.makeSlice 204 (.int .i64 (N : Int)) (.int .i64 (N : Int))).run Tryz.prog w = .ok (.slice (some ⟨w.heap.size, 0, none⟩) N N) w2 := hrun
  have b2 : Below w.heap.size w w2 := (Below.refl _ _).grown g2 (Nat.le_refl _) (by simp)
  obtain ⟨cur, hc2, hl2⟩ : ∃ cur : List Value, Cel w2 w.heap.size cur KT ∧ N * 3 ≤ cur.length := by
    rcases o2.2 with ⟨e, _⟩ | ⟨g, cp, cur, hv, hg, hh, hl, hc, hs, ht⟩
    · cases e
    · cases hv
      exact ⟨cur.toList, by unfold Cel; simpa using hh, by rw [Array.length_toList]; omega⟩
  have m2 : OwnM w2 B n D := OwnM.below hm b2
  have OwnM0 : Hid (OwnM w B n D) := hm
  clear hrun o2 g2 hm hD hsz hN

  go_enter Tryz.func155, Tryz.ntmps155
  go_wp2_with (first | (at_len; refine wpList_len_own _ rfl (.tmp 6) 197 rfl KT ET Tryz.underlying197 (plainElem Tryz.prog ET) B _ D rfl (OwnM0.out) ?_; rw [← HN.out]) | (at_range; refine wpList_range_own _ rfl (.tmp 9) 197 rfl KT ET law3 Tryz.underlying197 (plainElem Tryz.prog ET) B n D rfl m2 ?_; intro w3 hrg3 hg3 hs3))
  go_frame
  have b3 : Below w2.heap.size w2 w3 := (Below.refl _ _).grown hg3 (Nat.le_refl _) (by simp)
  have c3 := hc2.below b3
  have B3 := b2.trans (b3.mono b2.size)
  obtain ⟨L, hL⟩ : ∃ L, L = w.heap.size := ⟨_, rfl⟩
  rw [← hL] at c3 ⊢
  have lL := c3.lt
  have lL0 : w.heap.size ≤ L := by omega
  have s2 := b2.size
  have lr : L < w2.heap.size := by rw [hL]; exact hc2.lt
  obtain ⟨r, hr⟩ : ∃ r, r = w2.heap.size := ⟨_, rfl⟩
  rw [← hr] at hrg3 ⊢
  have lr' : L < r := by omega
  have lB' : B < L := by omega
  clear hrun' hc2 hg3 hs3 m2 b2 b3 hL hr
  go_loopw [4, 5] (fun _ _ wr => ∃ (left : Lit → Bool) (cnt : Nat) (cur : List Value), wr.ranges Tryz.prog KT (plainElem Tryz.prog ET) B r n D left cnt ∧ (∀ kl, left kl = true → Maps.has D kl = true) ∧ Cel wr L cur KT ∧ N * 3 ≤ cur.length ∧ (∀ j, j < ps.length → left (kP (ps[j]?.getD [])) = false → KeyAt cur j (ps[j]?.getD [])) ∧ Below w.heap.size w wr) (fun _ _ wr => wr.rangeLeft B r)
  case atStart =>
    refine ⟨Maps.has D, Maps.size D, cur, hrg3, fun _ h => h, c3, hl2, fun j hj h => ?_, B3⟩
    have hm : ps[j]?.getD [] ∈ ps := by rw [List.getElem?_eq_getElem hj]; exact List.getElem_mem hj
    rw [(HD.out.has _ (HD.out.wf _ hm)).2 hm] at h
    cases h
  case round =>
    clear hrg3 c3 hl2 B3 lL
    clear cur
    obtain ⟨left, cnt, cur, hrg, hsub, hc, hlc, hat, hb⟩ := hrel
    have HSUB : Hid _ := hsub
    have HAT : Hid (∀ j, j < ps.length → left (kP (ps[j]?.getD [])) = false → KeyAt cur j (ps[j]?.getD [])) := hat
    clear hsub hat
    go_wp2_with (at_next; refine wpList_next_ranges (α := Int × Int × Int) (β := Int) _ rfl (.tmp 10) rfl KT law3 (plainElem Tryz.prog ET) (fun x => kV x.1 x.2.1 x.2.2) (fun c => .int .i64 c) (fun key kl h => by obtain ⟨a, b, c, e, _⟩ := inv3 h; exact ⟨(a, b, c), e⟩) (fun v y h => by obtain ⟨c, e, _⟩ := plainElem_int_inv Tryz.underlying3 h; exact ⟨c, e⟩) B r n D left cnt rfl hrg ?_ ?_)
    · intro h0 hl0
      have HE : Hid (∀ j, j < ps.length → KeyAt cur j (ps[j]?.getD [])) := fun j hj => HAT.out j hj (hl0 _)
      have HNP : Hid (N = ps.length) := HN.out.trans HSZ.out
      go_wp2
      go_ret
      exact ⟨L, cur, by rw [← HNP.out]; rfl, hb, lL0, hc, HE.out⟩
    · intro x0 x1 x2 c kl yd yp w4 cnt4 hkey hleft hv hat hrg4 hlt4 hg4 hs4 hen
      (try dsimp only at hkey); (try dsimp only at hv); (try dsimp only at hen)
      obtain ⟨j, hj, hpj, hcj⟩ : ∃ j, j < ps.length ∧ ps[j]?.getD [] = [x0, x1, x2] ∧ c = (j : Int) := by
        obtain ⟨a, b, c', e, ek, wa, wb, wc⟩ := inv3 hkey
        simp only [kV, Value.agg.injEq, Array.mk.injEq, List.cons.injEq, Value.int.injEq, true_and, and_true] at e
        obtain ⟨rfl, rfl, rfl⟩ := e
        have hp : wfP [x0, x1, x2] := ⟨rfl, fun i hi => by
          match i, hi with
          | 0, _ => exact wa
          | 1, _ => exact wb
          | 2, _ => exact wc⟩
        obtain ⟨c2, e2, e3, _⟩ := plainElem_int_inv Tryz.underlying3 hv
        cases e2
        simp only [Prod.mk.injEq] at e3
        subst ek
        exact HD.out.idx hp (HSUB.out _ hleft) (fun z => by rw [show kP [x0, x1, x2] = kL x0 x1 x2 from rfl, hat z, e3.1])
      have HKL : Hid (kl = kP (ps[j]?.getD [])) := by
        show kl = _
        obtain ⟨a, b, c', e, ek, _⟩ := inv3 hkey
        simp only [kV, Value.agg.injEq, Array.mk.injEq, List.cons.injEq, Value.int.injEq, true_and, and_true] at e
        obtain ⟨rfl, rfl, rfl⟩ := e
        rw [hpj]; exact ek
      subst hcj
      have hjN : (j : Int) < N := by have h1 := HN.out; have h2 := HSZ.out; omega
      have hj0 : ¬ ((j : Int) < 0) := by omega
      have c4 : Cel w4 L cur KT := hc.touch (touch_grown hg4) (fun h => by have : L = r := h; omega)
      have B4 : Below w.heap.size w w4 := hb.trans ((touch_grown hg4).below hb.size (fun k hk => by have : k = r := hk; omega))
      have A4 : Below w4.heap.size w4 (w4.alloc (.cells #[.int .i64 x0, .int .i64 x1, .int .i64 x2] KT)) := (Below.refl _ _).alloc (Nat.le_refl _) _
      have rg5 := hrg4.alloc (.cells #[.int .i64 x0, .int .i64 x1, .int .i64 x2] KT)
      have c5 := c4.alloc (.cells #[.int .i64 x0, .int .i64 x1, .int .i64 x2] KT)
      have B5 := B4.trans (A4.mono B4.size)
      have hlj : j * 3 + 2 < cur.length := by have h1 := HN.out; have h2 := HSZ.out; omega
      have hleft' := hrg.left_eq
      have HLE : Hid (wr.rangeLeft B r = cnt) := hleft'
      have kb := Cel.new w4 [.int .i64 x0, .int .i64 x1, .int .i64 x2] KT
      clear hc hb hrg hg4 hs4 hrg4 c4 B4 A4 hleft'
      obtain ⟨q0, q1, q2⟩ : (w4.alloc (.cells #[.int .i64 x0, .int .i64 x1, .int .i64 x2] KT)).cell? ⟨w4.heap.size, 0, none⟩ = some (.int .i64 x0) ∧ (w4.alloc (.cells #[.int .i64 x0, .int .i64 x1, .int .i64 x2] KT)).cell? ⟨w4.heap.size, 1, none⟩ = some (.int .i64 x1) ∧ (w4.alloc (.cells #[.int .i64 x0, .int .i64 x1, .int .i64 x2] KT)).cell? ⟨w4.heap.size, 2, none⟩ = some (.int .i64 x2) := ⟨kb.cell 0, kb.cell 1, kb.cell 2⟩
      have lLw : L < (w4.alloc (.cells #[.int .i64 x0, .int .i64 x1, .int .i64 x2] KT)).heap.size := c5.lt
      obtain ⟨y0, y1, y2⟩ : (∃ v, (w4.alloc (.cells #[.int .i64 x0, .int .i64 x1, .int .i64 x2] KT)).cell? ⟨L, j * 3, none⟩ = some v) ∧ (∃ v, (w4.alloc (.cells #[.int .i64 x0, .int .i64 x1, .int .i64 x2] KT)).cell? ⟨L, j * 3 + 1, none⟩ = some v) ∧ (∃ v, (w4.alloc (.cells #[.int .i64 x0, .int .i64 x1, .int .i64 x2] KT)).cell? ⟨L, j * 3 + 2, none⟩ = some v) := ⟨⟨_, (c5.cell _).trans (List.getElem?_eq_getElem (by omega))⟩, ⟨_, (c5.cell _).trans (List.getElem?_eq_getElem (by omega))⟩, ⟨_, (c5.cell _).trans (List.getElem?_eq_getElem (by omega))⟩⟩
      obtain ⟨v0, y0⟩ := y0
      obtain ⟨v1, y1⟩ := y1
      obtain ⟨v2, y2⟩ := y2
      have z0 := c5.free (j * 3)
      have z1 := c5.free (j * 3 + 1)
      have z2 := c5.free (j * 3 + 2)
      have T6 : Touch (fun z => z = L) (w4.alloc (.cells #[.int .i64 x0, .int .i64 x1, .int .i64 x2] KT)) ((((w4.alloc (.cells #[.int .i64 x0, .int .i64 x1, .int .i64 x2] KT)).setCell ⟨L, j * 3, none⟩ (.int .i64 x0)).setCell ⟨L, j * 3 + 1, none⟩ (.int .i64 x1)).setCell ⟨L, j * 3 + 2, none⟩ (.int .i64 x2)) := Touch.setCell (S := fun z => z = L) (Touch.setCell (S := fun z => z = L) (Touch.setCell (S := fun z => z = L) (Touch.refl _ _) rfl _) rfl _) rfl _
      have c6 := ((c5.set (j * 3) (.int .i64 x0)).set (j * 3 + 1) (.int .i64 x1)).set (j * 3 + 2) (.int .i64 x2)
      have rg6 := rg5.kept (grown_of_touch T6) (by simp; omega) (by simp; omega)
      have B6 := B5.trans (T6.below B5.size (fun k hk => by have : k = L := hk; omega))
      have HAT6 : Hid (∀ i, i < ps.length → (left (kP (ps[i]?.getD [])) && !(kP (ps[i]?.getD [])).sameKey kl) = false → KeyAt (((cur.set (j * 3) (.int .i64 x0)).set (j * 3 + 1) (.int .i64 x1)).set (j * 3 + 2) (.int .i64 x2)) i (ps[i]?.getD [])) := fun i hi hf => by
        by_cases e : i = j
        · subst e
          rw [hpj]
          exact KeyAt.set_same [x0, x1, x2] hlj
        · refine KeyAt.set_other (HAT.out i hi ?_) e _ _ _
          cases hlf : left (kP (ps[i]?.getD [])) with
          | false => rfl
          | true =>
            rw [hlf] at hf
            simp only [Bool.true_and, Bool.not_eq_false'] at hf
            have := WideAt.sameKey_eq hf
            rw [HKL.out] at this
            exact absurd (HD.out.one hi hj this) e
      have HSUB6 : Hid (∀ z, (left z && !z.sameKey kl) = true → Maps.has D z = true) := fun z hz => by
        simp only [Bool.and_eq_true] at hz
        exact HSUB.out z hz.1
      have HLC : Hid (N * 3 ≤ (((cur.set (j * 3) (.int .i64 x0)).set (j * 3 + 1) (.int .i64 x1)).set (j * 3 + 2) (.int .i64 x2)).length) := by show _ ≤ _; simpa using hlc
      clear c5 B5 rg5 T6 HKL hpj
      go_wp2
      go_roundw
      case rel => exact ⟨_, cnt4, _, rg6, HSUB6.out, c6, HLC.out, HAT6.out, B6⟩
      case measure => rw [rg6.left_eq, HLE.out]; omega

end Go.Proofs.YtacjjhfbnbmnlaaGreatDoor
