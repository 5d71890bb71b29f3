/-
  Lemmas that the claim's last text rests on: MarkL, MarkP, MarkPb.
-/
import Derived.Test.YtmhhphpihnkfpaaDoorLineS
import Derived.Test.YtmhhphpihnkfpaaDoorMarks
import Derived.Test.YtmhhphpihnkfpaaDoorJExactPlnPrintCardA
import Derived.Test.YtmhhphpihnkfpaaDoorPlan
namespace Go.Proofs.YtmhhphpihnkfpaaDoor
open Go.RowKit
set_option linter.unusedVariables false
set_option maxRecDepth 100000

/-- While they are marked: the block's slices stand; the lists from k on are as they were made. -/
structure MKL (W : World) (B N s k : Nat) (gs : List LV) (p q : Nat → Nat) (wr : World) : Prop where
  c : ∃ cur : List Value, Cel wr B cur 48 ∧ cur.length = N * 6 ∧ ∀ i, i < N → cur[i * 6 + 3]? = some (.slice (gs[i]?.getD noLV).f.a (gs[i]?.getD noLV).f.n (gs[i]?.getD noLV).f.cap) ∧ cur[i * 6 + 4]? = some (.slice (gs[i]?.getD noLV).f.c (gs[i]?.getD noLV).f.m (gs[i]?.getD noLV).f.cap')
  o : ∀ i, k ≤ i → i < N → Blk wr (p i) (gs[i]?.getD noLV).f.C ∧ Blk wr (q i) (gs[i]?.getD noLV).f.D
  t : Touch (fun x => B ≤ x ∧ x < s) W wr

set_option maxHeartbeats 3200000 in
theorem markLS_any (B lo N cap s : Nat) (gs : List LV) (p q : Nat → Nat) (k0 : Int) (W : World) (h : ML W B lo N gs p q) (hN : gs.length = N) (hN1 : N ≤ 1048576) (hk0 : 0 ≤ k0) (hk1 : k0 ≤ 3000000000000000000) (hBs : B < s) (hqs : ∀ i, i < N → q i < s) :
    Calls Tryd.prog 45 #[.slice (some ⟨B, 0, none⟩) N cap, .int .i64 k0] W fun e w' => ∃ r, e = .returned (.int .i64 r) ∧ 0 ≤ r ∧ r ≤ k0 + N * 2097156 ∧ Touch (fun x => B ≤ x ∧ x < s) W w' := by
  have HQ : Hid _ := hqs
  clear hqs
  have HN : Hid (gs.length = N) := hN
  have hl := h.l
  rw [hN] at hl
  have HL : Hid _ := hl
  have hB := h.b
  have m0 : MKL W B N s 0 gs p q W := by
    obtain ⟨vs, v1, v2, v3⟩ := h.c
    refine ⟨⟨vs, v1, v2, fun i hi => ?_⟩, fun i _ hi => ?_, Touch.refl _ _⟩
    · exact ⟨v3 i (by omega) 3 (by omega), v3 i (by omega) 4 (by omega)⟩
    · obtain ⟨_, _, a4, a5, _⟩ := hl i hi
      exact ⟨a4, a5⟩
  clear hl h hN
  go_enter Tryd.func45, Tryd.ntmps45
  go_wp2_with fail
  go_loopw [1, 5] (fun kv i wr => ∃ k : Nat, k ≤ N ∧ i = .int .i64 k ∧ ∃ x : Int, kv = .int .i64 x ∧ 0 ≤ x ∧ x ≤ k0 + k * 2097156 ∧ MKL W B N s k gs p q wr) (fun _ i _ => N - (intOf i).toNat)
  case atStart => exact ⟨0, Nat.zero_le _, rfl, k0, rfl, hk0, by omega, m0⟩
  case round =>
    clear m0
    obtain ⟨k, hk, rfl, x, rfl, hx0, hx1, mk⟩ := hrel
    by_cases hlt : k < N
    · obtain ⟨ea, ec, -, -, lC, lD, n1, m1, hp, hpq, hq, hj⟩ := HL.out k hlt
      have hqk := HQ.out k hlt
      obtain ⟨bC, bD⟩ := mk.o k (Nat.le_refl _) hlt
      obtain ⟨cur, hcur, hsz, hcells⟩ := mk.c
      have hc := hcells k hlt
      have HCS : Hid _ := hcells
      clear hcells
      have HJ : Hid (∀ i, k + 1 ≤ i → i < N → q k < p i ∧ p i < q i) := fun i hi hiN => by
        obtain ⟨_, _, _, _, _, _, _, _, _, h11, _, h13⟩ := HL.out i hiN
        exact ⟨h13 k (by omega), h11⟩
      generalize HG : gs[k]?.getD noLV = g at *
      clear HG
      obtain ⟨gk, gp, gz, ⟨ga, gn, gcap, gc, gm, gcap', gK, gC, gD⟩⟩ := g
      simp only at ea ec lC lD n1 m1 bC bD hc
      subst ea ec
      have hx : ∀ r, r < 6 → ∃ x, wr.cell? ⟨B, k * 6 + r, none⟩ = some x := fun r hr => ⟨_, (hcur.cell (k * 6 + r)).trans (List.getElem?_eq_getElem (by rw [hsz]; omega))⟩
      obtain ⟨x0, y0⟩ := hx 0 (by omega)
      obtain ⟨x1, y1⟩ := hx 1 (by omega)
      obtain ⟨x2, y2⟩ := hx 2 (by omega)
      simp only [Nat.add_zero] at y0
      have f0 := hcur.free (k * 6)
      have f1 := hcur.free (k * 6 + 1)
      have f2 := hcur.free (k * 6 + 2)
      have y3 : wr.cell? ⟨B, k * 6 + 3, none⟩ = some (.slice (some ⟨p k, 0, none⟩) gn gcap) := (hcur.cell _).trans hc.1
      have s1 := mk.t.size
      have hlt3 : (k : Int) < (N : Int) := by omega
      have c3 := ((hcur.set (k * 6) (.int .i64 x)).set (k * 6 + 1) (.int .i64 (x + 1))).set (k * 6 + 2) (.int .i64 (x + 1 + 1))
      have kP : p k ≠ B := by omega
      have kQ : q k ≠ B := by omega
      have bC3 := ((bC.setOther kP (k * 6) (.int .i64 x)).setOther kP (k * 6 + 1) (.int .i64 (x + 1))).setOther kP (k * 6 + 2) (.int .i64 (x + 1 + 1))
      have bD3 := ((bD.setOther kQ (k * 6) (.int .i64 x)).setOther kQ (k * 6 + 1) (.int .i64 (x + 1))).setOther kQ (k * 6 + 2) (.int .i64 (x + 1 + 1))
      have t3 : Touch (fun y => B ≤ y ∧ y < s) W (((wr.setCell ⟨B, k * 6, none⟩ (.int .i64 x)).setCell ⟨B, k * 6 + 1, none⟩ (.int .i64 (x + 1))).setCell ⟨B, k * 6 + 2, none⟩ (.int .i64 (x + 1 + 1))) := ((mk.t.setCell (B := B) ⟨Nat.le_refl _, by omega⟩ _).setCell (B := B) ⟨Nat.le_refl _, by omega⟩ _).setCell (B := B) ⟨Nat.le_refl _, by omega⟩ _
      have o3 : ∀ i, k + 1 ≤ i → i < N → Blk (((wr.setCell ⟨B, k * 6, none⟩ (.int .i64 x)).setCell ⟨B, k * 6 + 1, none⟩ (.int .i64 (x + 1))).setCell ⟨B, k * 6 + 2, none⟩ (.int .i64 (x + 1 + 1))) (p i) (gs[i]?.getD noLV).f.C ∧ Blk (((wr.setCell ⟨B, k * 6, none⟩ (.int .i64 x)).setCell ⟨B, k * 6 + 1, none⟩ (.int .i64 (x + 1))).setCell ⟨B, k * 6 + 2, none⟩ (.int .i64 (x + 1 + 1))) (q i) (gs[i]?.getD noLV).f.D := fun i hi hiN => by
        obtain ⟨o1, o2⟩ := mk.o i (by omega) hiN
        obtain ⟨j1, j2⟩ := HJ.out i hi hiN
        have n1 : p i ≠ B := by omega
        have n2 : q i ≠ B := by omega
        exact ⟨((o1.setOther n1 _ _).setOther n1 _ _).setOther n1 _ _, ((o2.setOther n2 _ _).setOther n2 _ _).setOther n2 _ _⟩
      have O3 : Hid _ := o3
      clear o3 bC bD mk hx
      go_wp2_with fail
      obtain ⟨w0, hw0⟩ : ∃ w0, w0 = (((wr.setCell ⟨B, k * 6, none⟩ (.int .i64 x)).setCell ⟨B, k * 6 + 1, none⟩ (.int .i64 (x + 1))).setCell ⟨B, k * 6 + 2, none⟩ (.int .i64 (x + 1 + 1))) := ⟨_, rfl⟩
      rw [← hw0] at c3 bC3 bD3 t3 O3 ⊢
      clear hw0 y0 y1 y2 y3 f0 f1 f2 hcur
      refine (mark_any _ _ _ (p k) gC _ _ (.inr ⟨rfl, bC3⟩) lC n1 (by omega) (by omega)).mono ?_
      rintro ee w1 ⟨rfl, t1, -⟩
      have c4 := c3.touch t1 (by omega)
      have z3 : ((((cur.set (k * 6) (.int .i64 x)).set (k * 6 + 1) (.int .i64 (x + 1))).set (k * 6 + 2) (.int .i64 (x + 1 + 1)))).length = N * 6 := by simp [hsz]
      have H3 : Hid (∀ i, i < N → ((((cur.set (k * 6) (.int .i64 x)).set (k * 6 + 1) (.int .i64 (x + 1))).set (k * 6 + 2) (.int .i64 (x + 1 + 1))))[i * 6 + 3]? = some (.slice (gs[i]?.getD noLV).f.a (gs[i]?.getD noLV).f.n (gs[i]?.getD noLV).f.cap) ∧ ((((cur.set (k * 6) (.int .i64 x)).set (k * 6 + 1) (.int .i64 (x + 1))).set (k * 6 + 2) (.int .i64 (x + 1 + 1))))[i * 6 + 4]? = some (.slice (gs[i]?.getD noLV).f.c (gs[i]?.getD noLV).f.m (gs[i]?.getD noLV).f.cap')) := fun i hi => by
        rw [List.getElem?_set_ne (by omega), List.getElem?_set_ne (by omega), List.getElem?_set_ne (by omega), List.getElem?_set_ne (by omega), List.getElem?_set_ne (by omega), List.getElem?_set_ne (by omega)]
        exact HCS.out i hi
      have y4 : w1.cell? ⟨B, k * 6 + 4, none⟩ = some (.slice (some ⟨q k, 0, none⟩) gm gcap') := (c4.cell _).trans (by
        rw [List.getElem?_set_ne (by omega), List.getElem?_set_ne (by omega), List.getElem?_set_ne (by omega)]; exact hc.2)
      have bD1 : OwnAt w1 (some ⟨q k, 0, none⟩) (q k) gD := OwnAt.touch (.inr ⟨rfl, bD3⟩) t1 (by omega)
      clear c3 hc HCS
      generalize ((cur.set (k * 6) (.int .i64 x)).set (k * 6 + 1) (.int .i64 (x + 1))).set (k * 6 + 2) (.int .i64 (x + 1 + 1)) = cu at *
      go_wp2_with fail
      refine (mark_any _ _ _ (q k) gD _ _ bD1 lD m1 (by omega) (by omega)).mono ?_
      rintro ee w2 ⟨rfl, t2, -⟩
      have c5 := c4.touch t2 (by omega)
      obtain ⟨v5, hv5⟩ : ∃ v, w2.cell? ⟨B, k * 6 + 5, none⟩ = some v := ⟨_, (c5.cell (k * 6 + 5)).trans (List.getElem?_eq_getElem (by rw [z3]; omega))⟩
      have f5 := c5.free (k * 6 + 5)
      have M2 : MKL W B N s (k + 1) gs p q (w2.setCell ⟨B, k * 6 + 5, none⟩ (.int .i64 (x + 1 + 1 + 1 + gn + gm))) := by
        have T12 : Touch (fun y => B ≤ y ∧ y < s) W w2 := (t3.trans (t1.mono fun y hy => by omega)).trans (t2.mono fun y hy => by omega)
        refine ⟨⟨_, c5.set (k * 6 + 5) _, by simp [z3], fun i hi => ?_⟩, fun i hi hiN => ?_, T12.setCell (B := B) ⟨Nat.le_refl _, by omega⟩ _⟩
        · rw [List.getElem?_set_ne (by omega), List.getElem?_set_ne (by omega)]
          exact H3.out i hi
        · obtain ⟨o1, o2⟩ := O3.out i hi hiN
          obtain ⟨j1, j2⟩ := HJ.out i hi hiN
          have e1 : Blk w2 (p i) (gs[i]?.getD noLV).f.C := by
            unfold Blk at *; rw [t2.block _ (Nat.lt_of_lt_of_le (lt_of_block o1) t1.size) (by omega), t1.block _ (lt_of_block o1) (by omega)]; exact o1
          have e2 : Blk w2 (q i) (gs[i]?.getD noLV).f.D := by
            unfold Blk at *; rw [t2.block _ (Nat.lt_of_lt_of_le (lt_of_block o2) t1.size) (by omega), t1.block _ (lt_of_block o2) (by omega)]; exact o2
          exact ⟨e1.setOther (by omega) _ _, e2.setOther (by omega) _ _⟩
      clear bC3 bD3 bD1 c4 c5 t1 t2 t3 y4 H3 O3
      go_wp2
      go_roundw
      case rel => exact ⟨k + 1, by omega, by go_num, _, rfl, by omega, by omega, M2⟩
      case measure => simp [intOf]; omega
    · go_wp2
      go_ret
      obtain rfl : k = N := by omega
      exact ⟨x, rfl, hx0, hx1, mk.t⟩

end Go.Proofs.YtmhhphpihnkfpaaDoor
namespace Go.Proofs.YtmhhphpihnkfpaaDoor
open Go.RowKit
set_option linter.unusedVariables false
set_option maxRecDepth 100000

theorem LK.from {w : World} {lo lo' hi : Nat} {s : L2V} (h : LK w lo s) (hr : InR lo' hi s) : LK w lo' s := by
  obtain ⟨B, l, p, q, h1, h2, h3⟩ := h
  exact ⟨B, l, p, q, h1, (hr.1 B h1).1, h3⟩

set_option maxHeartbeats 3200000 in
theorem markL2_any (B N cap : Nat) (ts : List L2V) (c : Nat → Nat) (k0 : Int) (W : World) (h : ML2 W B N ts) (hN : ts.length = N) (hN1 : N ≤ 1048576) (c0 : B < c 0) (hc : ∀ i, i < N → c i ≤ c (i + 1) ∧ InR (c i) (c (i + 1)) (ts[i]?.getD noL)) (hk0 : 0 ≤ k0) (hk1 : k0 ≤ 1000) :
    Calls Tryd.prog 26 #[.slice (some ⟨B, 0, none⟩) N cap, .int .i64 k0] W fun e w' => ∃ r, e = .returned (.int .i64 r) ∧ 0 ≤ r ∧ r ≤ k0 + N * 2199027449856 ∧ Touch (fun x => B < x ∧ x < c N) W w' := by
  have HC : Hid _ := hc
  have HN : Hid (ts.length = N) := hN
  have HM : Hid (ML2 W B N ts) := h
  have HL := h.lt
  clear hc hN h
  go_enter Tryd.func26, Tryd.ntmps26
  go_wp2_with fail
  go_loopw [1, 5] (fun kv i wr => ∃ k : Nat, k ≤ N ∧ i = .int .i64 k ∧ ∃ x : Int, kv = .int .i64 x ∧ 0 ≤ x ∧ x ≤ k0 + k * 2199027449856 ∧ B < c k ∧ Touch (fun x => B < x ∧ x < c k) W wr) (fun _ i _ => N - (intOf i).toNat)
  case atStart => exact ⟨0, Nat.zero_le _, rfl, k0, rfl, hk0, by omega, c0, Touch.refl _ _⟩
  case round =>
    obtain ⟨k, hk, rfl, x, rfl, hx0, hx1, hck, t⟩ := hrel
    by_cases hlt : k < N
    · obtain ⟨d1, d2⟩ := HC.out k hlt
      obtain ⟨vs, v1, v2, v3⟩ := HM.out.c
      have hK : LK wr (c k) (ts[k]?.getD noL) := ((HM.out.l k (by rw [HN.out]; exact hlt)).from d2).touch t (fun x hx => hx.2)
      have hv := (v1.touch t (fun hx => Nat.lt_irrefl _ hx.1)).cell k
      rw [v3 k (by rw [HN.out]; exact hlt)] at hv
      generalize HG : ts[k]?.getD noL = g at *
      clear HG v1 v3
      obtain ⟨ga, gn, gcap, gx⟩ := g
      obtain ⟨B', l', p', q', e1, e2, e3, e4, e5⟩ := hK
      simp only at e1 e3 e4 e5
      subst e1
      have hv' : wr.cell? ⟨B, k, none⟩ = some (.slice (some ⟨B', 0, none⟩) gn gcap) := hv
      have hq : ∀ i, i < gn → q' i < c (k + 1) := fun i hi => by
        obtain ⟨_, a3, _⟩ := e3.l i (by omega)
        exact d2.2 i (by show i < gx.length; omega) _ a3
      have hB' := (d2.1 B' rfl).2
      have HQ : Hid _ := hq
      clear hq hv d2
      go_wp2_with fail
      refine (markLS_any B' l' gn gcap (c (k + 1)) gx p' q' x _ e3 e4 e5 hx0 (by omega) hB' HQ.out).mono ?_
      rintro ee w1 ⟨r, rfl, r0, r1, t1⟩
      have t2 : Touch (fun x => B < x ∧ x < c (k + 1)) W w1 := (t.mono fun y hy => by omega).trans (t1.mono fun y hy => by omega)
      clear t t1 e3
      go_wp2
      go_roundw
      case rel => exact ⟨k + 1, by omega, by go_num, _, rfl, r0, by omega, by omega, t2⟩
      case measure => simp [intOf]; omega
    · go_wp2
      go_ret
      obtain rfl : k = N := by omega
      exact ⟨x, rfl, hx0, hx1, t⟩

set_option maxHeartbeats 1600000 in
theorem markP_any (cl : Int) (B1 N cap B2 gn gc B3 sn sc : Nat) (ts : List L2V) (G S : List Int) (c : Nat → Nat) (W : World) (h : ML2 W B1 N ts) (hN : ts.length = N) (hN1 : N ≤ 1048576) (c0 : B1 < c 0) (cN : c N ≤ B2) (hc : ∀ i, i < N → c i ≤ c (i + 1) ∧ InR (c i) (c (i + 1)) (ts[i]?.getD noL)) (hG : Blk W B2 G) (lG : G.length = gn) (zG : gn ≤ 1048576) (hS : Blk W B3 S) (lS : S.length = sn) (zS : sn ≤ 1048576) (h23 : B2 < B3) :
    Calls Tryd.prog 10 #[plV cl (some ⟨B1, 0, none⟩) N cap (some ⟨B2, 0, none⟩) gn gc (some ⟨B3, 0, none⟩) sn sc, .int .i64 1] W fun e w' => ∃ r, e = .returned (.int .i64 r) ∧ 0 ≤ r ∧ Touch (fun x => B1 < x ∧ x ≤ B3) W w' := by
  have HC : Hid _ := hc
  clear hc
  have l2 := hG.lt
  have l3 := hS.lt
  have n0 := Cel.new W [.int .i64 cl, .slice (some ⟨B1, 0, none⟩) N cap, .slice (some ⟨B2, 0, none⟩) gn gc, .slice (some ⟨B3, 0, none⟩) sn sc] 31
  have hcN : c 0 ≤ c N := by
    have : ∀ i, i ≤ N → c 0 ≤ c i := fun i => by
      induction i with
      | zero => intro _; exact Nat.le_refl _
      | succ i ih => intro hi; exact Nat.le_trans (ih (by omega)) (HC.out i (by omega)).1
    exact this N (Nat.le_refl _)
  go_enter Tryd.func10, Tryd.ntmps10
  go_wp2_with fail
  refine (markL2_any B1 N cap ts c 1 _ (h.below ((Below.refl _ _).alloc (Nat.le_refl _) _)) hN hN1 c0 HC.out (by omega) (by omega)).mono ?_
  rintro e w1 ⟨r, rfl, r0, r1, t1⟩
  have T1 : Touch (fun x => B1 < x ∧ x ≤ B3) W w1 := (Touch.of ((Below.refl _ _).alloc (Nat.le_refl _) _)).trans (t1.mono fun y hy => by omega)
  have n1 := n0.touch t1 (fun h => by have := h.2; omega)
  have g1 : OwnAt w1 (some ⟨B2, 0, none⟩) B2 G := OwnAt.touch (.inr ⟨rfl, hG.alloc _⟩) t1 (by omega)
  have s1 : OwnAt w1 (some ⟨B3, 0, none⟩) B3 S := OwnAt.touch (.inr ⟨rfl, hS.alloc _⟩) t1 (by omega)
  clear n0 t1 h
  obtain ⟨a0, a1, a2, a3⟩ := n1.quadP
  go_wp2_with fail
  refine (mark_any _ _ _ B2 G _ _ g1 lG zG r0 (by omega)).mono ?_
  rintro e w2 ⟨rfl, t2, -⟩
  have T2 := T1.trans (t2.mono (T := fun x => B1 < x ∧ x ≤ B3) fun y hy => by omega)
  have n2 := n1.touch t2 (fun h => by have := h.1; omega)
  have s2 : OwnAt w2 (some ⟨B3, 0, none⟩) B3 S := s1.touch t2 (by omega)
  clear n1 t2 g1 s1 T1 a0 a1 a2 a3
  obtain ⟨a0, a1, a2, a3⟩ := n2.quadP
  go_wp2_with fail
  refine (mark_any _ _ _ B3 S _ _ s2 lS zS (by omega) (by omega)).mono ?_
  rintro e w3 ⟨rfl, t3, -⟩
  have T3 := T2.trans (t3.mono (T := fun x => B1 < x ∧ x ≤ B3) fun y hy => by omega)
  clear t3 s2 T2 n2 a0 a1 a2 a3
  go_wp2
  go_ret
  exact ⟨_, rfl, by omega, T3⟩

end Go.Proofs.YtmhhphpihnkfpaaDoor
namespace Go.Proofs.YtmhhphpihnkfpaaDoor
open Go.RowKit
set_option linter.unusedVariables false
set_option maxRecDepth 100000

set_option maxHeartbeats 1600000 in
theorem markPb_any (cl : Int) (B1 N cap B2 gn gc B3 sn sc : Nat) (ts : List L2V) (G S : List Int) (c : Nat → Nat) (W : World) (h : ML2 W B1 N ts) (hN : ts.length = N) (hN1 : N ≤ 1048576) (c0 : B1 < c 0) (cN : c N ≤ B2) (hc : ∀ i, i < N → c i ≤ c (i + 1) ∧ InR (c i) (c (i + 1)) (ts[i]?.getD noL)) (hG : Blk W B2 G) (lG : G.length = gn) (zG : gn ≤ 1048576) (hS : Blk W B3 S) (lS : S.length = sn) (zS : sn ≤ 1048576) (h23 : B2 < B3) :
    Calls Tryd.prog 10 #[plV cl (some ⟨B1, 0, none⟩) N cap (some ⟨B2, 0, none⟩) gn gc (some ⟨B3, 0, none⟩) sn sc, .int .i64 1] W fun e w' => ∃ r, e = .returned (.int .i64 r) ∧ 0 ≤ r ∧ r ≤ 2400000000000000000 ∧ Touch (fun x => B1 < x ∧ x ≤ B3) W w' := by
  have HC : Hid _ := hc
  clear hc
  have l2 := hG.lt
  have l3 := hS.lt
  have n0 := Cel.new W [.int .i64 cl, .slice (some ⟨B1, 0, none⟩) N cap, .slice (some ⟨B2, 0, none⟩) gn gc, .slice (some ⟨B3, 0, none⟩) sn sc] 31
  have hcN : c 0 ≤ c N := by
    have : ∀ i, i ≤ N → c 0 ≤ c i := fun i => by
      induction i with
      | zero => intro _; exact Nat.le_refl _
      | succ i ih => intro hi; exact Nat.le_trans (ih (by omega)) (HC.out i (by omega)).1
    exact this N (Nat.le_refl _)
  go_enter Tryd.func10, Tryd.ntmps10
  go_wp2_with fail
  refine (markL2_any B1 N cap ts c 1 _ (h.below ((Below.refl _ _).alloc (Nat.le_refl _) _)) hN hN1 c0 HC.out (by omega) (by omega)).mono ?_
  rintro e w1 ⟨r, rfl, r0, r1, t1⟩
  have T1 : Touch (fun x => B1 < x ∧ x ≤ B3) W w1 := (Touch.of ((Below.refl _ _).alloc (Nat.le_refl _) _)).trans (t1.mono fun y hy => by omega)
  have n1 := n0.touch t1 (fun h => by have := h.2; omega)
  have g1 : OwnAt w1 (some ⟨B2, 0, none⟩) B2 G := OwnAt.touch (.inr ⟨rfl, hG.alloc _⟩) t1 (by omega)
  have s1 : OwnAt w1 (some ⟨B3, 0, none⟩) B3 S := OwnAt.touch (.inr ⟨rfl, hS.alloc _⟩) t1 (by omega)
  clear n0 t1 h
  obtain ⟨a0, a1, a2, a3⟩ := n1.quadP
  go_wp2_with fail
  refine (mark_any _ _ _ B2 G _ _ g1 lG zG r0 (by omega)).mono ?_
  rintro e w2 ⟨rfl, t2, -⟩
  have T2 := T1.trans (t2.mono (T := fun x => B1 < x ∧ x ≤ B3) fun y hy => by omega)
  have n2 := n1.touch t2 (fun h => by have := h.1; omega)
  have s2 : OwnAt w2 (some ⟨B3, 0, none⟩) B3 S := s1.touch t2 (by omega)
  clear n1 t2 g1 s1 T1 a0 a1 a2 a3
  obtain ⟨a0, a1, a2, a3⟩ := n2.quadP
  go_wp2_with fail
  refine (mark_any _ _ _ B3 S _ _ s2 lS zS (by omega) (by omega)).mono ?_
  rintro e w3 ⟨rfl, t3, -⟩
  have T3 := T2.trans (t3.mono (T := fun x => B1 < x ∧ x ≤ B3) fun y hy => by omega)
  clear t3 s2 T2 n2 a0 a1 a2 a3
  go_wp2
  go_ret
  exact ⟨_, rfl, by omega, by omega, T3⟩

end Go.Proofs.YtmhhphpihnkfpaaDoor
