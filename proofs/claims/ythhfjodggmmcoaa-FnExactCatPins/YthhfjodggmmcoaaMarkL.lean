/-
  A slice of lines that a call has made is marked, line by line; how far the marks go.
-/
import Derived.Test.YthhfjodggmmcoaaLineS
import Derived.Test.YthhfjodggmmcoaaMarks
import Derived.Test.YthhfjodggmmcoaaMade
namespace Go.Proofs.Ythhfjodggmmcoaa
open Go.RowKit
set_option linter.unusedVariables false
set_option maxRecDepth 100000

/-- While they are marked: the block's slices stand; the lists from k on are as they were made. -/
structure MKL (W : World) (B N s k : Nat) (gs : List LV) (p q : Nat → Nat) (wr : World) : Prop where
  c : ∃ cur : List Value, Cel wr B cur 90 ∧ cur.length = N * 6 ∧ ∀ i, i < N → cur[i * 6 + 3]? = some (.slice (gs[i]?.getD noLV).f.a (gs[i]?.getD noLV).f.n (gs[i]?.getD noLV).f.cap) ∧ cur[i * 6 + 4]? = some (.slice (gs[i]?.getD noLV).f.c (gs[i]?.getD noLV).f.m (gs[i]?.getD noLV).f.cap')
  o : ∀ i, k ≤ i → i < N → Blk wr (p i) (gs[i]?.getD noLV).f.C ∧ Blk wr (q i) (gs[i]?.getD noLV).f.D
  t : Touch (fun x => B ≤ x ∧ x < s) W wr

set_option maxHeartbeats 3200000 in
theorem markLS_any (B lo N cap s : Nat) (gs : List LV) (p q : Nat → Nat) (k0 : Int) (W : World) (h : ML W B lo N gs p q) (hN : gs.length = N) (hN1 : N ≤ 1048576) (hk0 : 0 ≤ k0) (hk1 : k0 ≤ 3000000000000000000) (hBs : B < s) (hqs : ∀ i, i < N → q i < s) :
    Calls Try.prog 24 #[.slice (some ⟨B, 0, none⟩) N cap, .int .i64 k0] W fun e w' => ∃ r, e = .returned (.int .i64 r) ∧ 0 ≤ r ∧ r ≤ k0 + N * 2097156 ∧ Touch (fun x => B ≤ x ∧ x < s) W w' := by
  have HQ : Hid _ := hqs
  clear hqs
  have HN : Hid (gs.length = N) := hN
  have hl := h.l
  rw [hN] at hl
  have HL : Hid _ := hl
  have hB := h.b
  have m0 : MKL W B N s 0 gs p q W := by
    obtain ⟨vs, v1, v2, v3⟩ := h.c
    refine ⟨⟨vs, v1, v2, fun i hi => ?_⟩, fun i _ hi => ?_, Touch.refl _ _⟩
    · exact ⟨v3 i (by omega) 3 (by omega), v3 i (by omega) 4 (by omega)⟩
    · obtain ⟨_, _, a4, a5, _⟩ := hl i hi
      exact ⟨a4, a5⟩
  clear hl h hN
  go_enter Try.func24, Try.ntmps24
  go_wp2_with fail
  go_loopw [1, 5] (fun kv i wr => ∃ k : Nat, k ≤ N ∧ i = .int .i64 k ∧ ∃ x : Int, kv = .int .i64 x ∧ 0 ≤ x ∧ x ≤ k0 + k * 2097156 ∧ MKL W B N s k gs p q wr) (fun _ i _ => N - (intOf i).toNat)
  case atStart => exact ⟨0, Nat.zero_le _, rfl, k0, rfl, hk0, by omega, m0⟩
  case round =>
    clear m0
    obtain ⟨k, hk, rfl, x, rfl, hx0, hx1, mk⟩ := hrel
    by_cases hlt : k < N
    · obtain ⟨ea, ec, -, -, lC, lD, n1, m1, hp, hpq, hq, hj⟩ := HL.out k hlt
      have hqk := HQ.out k hlt
      obtain ⟨bC, bD⟩ := mk.o k (Nat.le_refl _) hlt
      obtain ⟨cur, hcur, hsz, hcells⟩ := mk.c
      have hc := hcells k hlt
      have HCS : Hid _ := hcells
      clear hcells
      have HJ : Hid (∀ i, k + 1 ≤ i → i < N → q k < p i ∧ p i < q i) := fun i hi hiN => by
        obtain ⟨_, _, _, _, _, _, _, _, _, h11, _, h13⟩ := HL.out i hiN
        exact ⟨h13 k (by omega), h11⟩
      generalize HG : gs[k]?.getD noLV = g at *
      clear HG
      obtain ⟨gk, gp, gz, ⟨ga, gn, gcap, gc, gm, gcap', gK, gC, gD⟩⟩ := g
      simp only at ea ec lC lD n1 m1 bC bD hc
      subst ea ec
      have hx : ∀ r, r < 6 → ∃ x, wr.cell? ⟨B, k * 6 + r, none⟩ = some x := fun r hr => ⟨_, (hcur.cell (k * 6 + r)).trans (List.getElem?_eq_getElem (by rw [hsz]; omega))⟩
      obtain ⟨x0, y0⟩ := hx 0 (by omega)
      obtain ⟨x1, y1⟩ := hx 1 (by omega)
      obtain ⟨x2, y2⟩ := hx 2 (by omega)
      simp only [Nat.add_zero] at y0
      have f0 := hcur.free (k * 6)
      have f1 := hcur.free (k * 6 + 1)
      have f2 := hcur.free (k * 6 + 2)
      have y3 : wr.cell? ⟨B, k * 6 + 3, none⟩ = some (.slice (some ⟨p k, 0, none⟩) gn gcap) := (hcur.cell _).trans hc.1
      have s1 := mk.t.size
      have hlt3 : (k : Int) < (N : Int) := by omega
      have c3 := ((hcur.set (k * 6) (.int .i64 x)).set (k * 6 + 1) (.int .i64 (x + 1))).set (k * 6 + 2) (.int .i64 (x + 1 + 1))
      have kP : p k ≠ B := by omega
      have kQ : q k ≠ B := by omega
      have bC3 := ((bC.setOther kP (k * 6) (.int .i64 x)).setOther kP (k * 6 + 1) (.int .i64 (x + 1))).setOther kP (k * 6 + 2) (.int .i64 (x + 1 + 1))
      have bD3 := ((bD.setOther kQ (k * 6) (.int .i64 x)).setOther kQ (k * 6 + 1) (.int .i64 (x + 1))).setOther kQ (k * 6 + 2) (.int .i64 (x + 1 + 1))
      have t3 : Touch (fun y => B ≤ y ∧ y < s) W (((wr.setCell ⟨B, k * 6, none⟩ (.int .i64 x)).setCell ⟨B, k * 6 + 1, none⟩ (.int .i64 (x + 1))).setCell ⟨B, k * 6 + 2, none⟩ (.int .i64 (x + 1 + 1))) := ((mk.t.setCell (B := B) ⟨Nat.le_refl _, by omega⟩ _).setCell (B := B) ⟨Nat.le_refl _, by omega⟩ _).setCell (B := B) ⟨Nat.le_refl _, by omega⟩ _
      have o3 : ∀ i, k + 1 ≤ i → i < N → Blk (((wr.setCell ⟨B, k * 6, none⟩ (.int .i64 x)).setCell ⟨B, k * 6 + 1, none⟩ (.int .i64 (x + 1))).setCell ⟨B, k * 6 + 2, none⟩ (.int .i64 (x + 1 + 1))) (p i) (gs[i]?.getD noLV).f.C ∧ Blk (((wr.setCell ⟨B, k * 6, none⟩ (.int .i64 x)).setCell ⟨B, k * 6 + 1, none⟩ (.int .i64 (x + 1))).setCell ⟨B, k * 6 + 2, none⟩ (.int .i64 (x + 1 + 1))) (q i) (gs[i]?.getD noLV).f.D := fun i hi hiN => by
        obtain ⟨o1, o2⟩ := mk.o i (by omega) hiN
        obtain ⟨j1, j2⟩ := HJ.out i hi hiN
        have n1 : p i ≠ B := by omega
        have n2 : q i ≠ B := by omega
        exact ⟨((o1.setOther n1 _ _).setOther n1 _ _).setOther n1 _ _, ((o2.setOther n2 _ _).setOther n2 _ _).setOther n2 _ _⟩
      have O3 : Hid _ := o3
      clear o3 bC bD mk hx
      go_wp2_with fail
      obtain ⟨w0, hw0⟩ : ∃ w0, w0 = (((wr.setCell ⟨B, k * 6, none⟩ (.int .i64 x)).setCell ⟨B, k * 6 + 1, none⟩ (.int .i64 (x + 1))).setCell ⟨B, k * 6 + 2, none⟩ (.int .i64 (x + 1 + 1))) := ⟨_, rfl⟩
      rw [← hw0] at c3 bC3 bD3 t3 O3 ⊢
      clear hw0 y0 y1 y2 y3 f0 f1 f2 hcur
      refine (mark_any _ _ _ (p k) gC _ _ (.inr ⟨rfl, bC3⟩) lC n1 (by omega) (by omega)).mono ?_
      rintro ee w1 ⟨rfl, t1, -⟩
      have c4 := c3.touch t1 (by omega)
      have z3 : ((((cur.set (k * 6) (.int .i64 x)).set (k * 6 + 1) (.int .i64 (x + 1))).set (k * 6 + 2) (.int .i64 (x + 1 + 1)))).length = N * 6 := by simp [hsz]
      have H3 : Hid (∀ i, i < N → ((((cur.set (k * 6) (.int .i64 x)).set (k * 6 + 1) (.int .i64 (x + 1))).set (k * 6 + 2) (.int .i64 (x + 1 + 1))))[i * 6 + 3]? = some (.slice (gs[i]?.getD noLV).f.a (gs[i]?.getD noLV).f.n (gs[i]?.getD noLV).f.cap) ∧ ((((cur.set (k * 6) (.int .i64 x)).set (k * 6 + 1) (.int .i64 (x + 1))).set (k * 6 + 2) (.int .i64 (x + 1 + 1))))[i * 6 + 4]? = some (.slice (gs[i]?.getD noLV).f.c (gs[i]?.getD noLV).f.m (gs[i]?.getD noLV).f.cap')) := fun i hi => by
        rw [List.getElem?_set_ne (by omega), List.getElem?_set_ne (by omega), List.getElem?_set_ne (by omega), List.getElem?_set_ne (by omega), List.getElem?_set_ne (by omega), List.getElem?_set_ne (by omega)]
        exact HCS.out i hi
      have y4 : w1.cell? ⟨B, k * 6 + 4, none⟩ = some (.slice (some ⟨q k, 0, none⟩) gm gcap') := (c4.cell _).trans (by
        rw [List.getElem?_set_ne (by omega), List.getElem?_set_ne (by omega), List.getElem?_set_ne (by omega)]; exact hc.2)
      have bD1 : OwnAt w1 (some ⟨q k, 0, none⟩) (q k) gD := OwnAt.touch (.inr ⟨rfl, bD3⟩) t1 (by omega)
      clear c3 hc HCS
      generalize ((cur.set (k * 6) (.int .i64 x)).set (k * 6 + 1) (.int .i64 (x + 1))).set (k * 6 + 2) (.int .i64 (x + 1 + 1)) = cu at *
      go_wp2_with fail
      refine (mark_any _ _ _ (q k) gD _ _ bD1 lD m1 (by omega) (by omega)).mono ?_
      rintro ee w2 ⟨rfl, t2, -⟩
      have c5 := c4.touch t2 (by omega)
      obtain ⟨v5, hv5⟩ : ∃ v, w2.cell? ⟨B, k * 6 + 5, none⟩ = some v := ⟨_, (c5.cell (k * 6 + 5)).trans (List.getElem?_eq_getElem (by rw [z3]; omega))⟩
      have f5 := c5.free (k * 6 + 5)
      have M2 : MKL W B N s (k + 1) gs p q (w2.setCell ⟨B, k * 6 + 5, none⟩ (.int .i64 (x + 1 + 1 + 1 + gn + gm))) := by
        have T12 : Touch (fun y => B ≤ y ∧ y < s) W w2 := (t3.trans (t1.mono fun y hy => by omega)).trans (t2.mono fun y hy => by omega)
        refine ⟨⟨_, c5.set (k * 6 + 5) _, by simp [z3], fun i hi => ?_⟩, fun i hi hiN => ?_, T12.setCell (B := B) ⟨Nat.le_refl _, by omega⟩ _⟩
        · rw [List.getElem?_set_ne (by omega), List.getElem?_set_ne (by omega)]
          exact H3.out i hi
        · obtain ⟨o1, o2⟩ := O3.out i hi hiN
          obtain ⟨j1, j2⟩ := HJ.out i hi hiN
          have e1 : Blk w2 (p i) (gs[i]?.getD noLV).f.C := by
            unfold Blk at *; rw [t2.block _ (Nat.lt_of_lt_of_le (lt_of_block o1) t1.size) (by omega), t1.block _ (lt_of_block o1) (by omega)]; exact o1
          have e2 : Blk w2 (q i) (gs[i]?.getD noLV).f.D := by
            unfold Blk at *; rw [t2.block _ (Nat.lt_of_lt_of_le (lt_of_block o2) t1.size) (by omega), t1.block _ (lt_of_block o2) (by omega)]; exact o2
          exact ⟨e1.setOther (by omega) _ _, e2.setOther (by omega) _ _⟩
      clear bC3 bD3 bD1 c4 c5 t1 t2 t3 y4 H3 O3
      go_wp2
      go_roundw
      case rel => exact ⟨k + 1, by omega, by go_num, _, rfl, by omega, by omega, M2⟩
      case measure => simp [intOf]; omega
    · go_wp2
      go_ret
      obtain rfl : k = N := by omega
      exact ⟨x, rfl, hx0, hx1, mk.t⟩

end Go.Proofs.Ythhfjodggmmcoaa
