/-
  A plan that a call has made is marked; how far the marks go. Lengths at most 1048576.
-/
import Derived.Test.YthhfjodggmmcoaaPlan
import Derived.Test.YthhfjodggmmcoaaMarkL
namespace Go.Proofs.Ythhfjodggmmcoaa
open Go.RowKit
set_option linter.unusedVariables false
set_option maxRecDepth 100000

theorem LK.from {w : World} {lo lo' hi : Nat} {s : L2V} (h : LK w lo s) (hr : InR lo' hi s) : LK w lo' s := by
  obtain ⟨B, l, p, q, h1, h2, h3⟩ := h
  exact ⟨B, l, p, q, h1, (hr.1 B h1).1, h3⟩

set_option maxHeartbeats 3200000 in
theorem markL2_any (B N cap : Nat) (ts : List L2V) (c : Nat → Nat) (k0 : Int) (W : World) (h : ML2 W B N ts) (hN : ts.length = N) (hN1 : N ≤ 1048576) (c0 : B < c 0) (hc : ∀ i, i < N → c i ≤ c (i + 1) ∧ InR (c i) (c (i + 1)) (ts[i]?.getD noL)) (hk0 : 0 ≤ k0) (hk1 : k0 ≤ 1000) :
    Calls Try.prog 39 #[.slice (some ⟨B, 0, none⟩) N cap, .int .i64 k0] W fun e w' => ∃ r, e = .returned (.int .i64 r) ∧ 0 ≤ r ∧ r ≤ k0 + N * 2199027449856 ∧ Touch (fun x => B < x ∧ x < c N) W w' := by
  have HC : Hid _ := hc
  have HN : Hid (ts.length = N) := hN
  have HM : Hid (ML2 W B N ts) := h
  have HL := h.lt
  clear hc hN h
  go_enter Try.func39, Try.ntmps39
  go_wp2_with fail
  go_loopw [1, 5] (fun kv i wr => ∃ k : Nat, k ≤ N ∧ i = .int .i64 k ∧ ∃ x : Int, kv = .int .i64 x ∧ 0 ≤ x ∧ x ≤ k0 + k * 2199027449856 ∧ B < c k ∧ Touch (fun x => B < x ∧ x < c k) W wr) (fun _ i _ => N - (intOf i).toNat)
  case atStart => exact ⟨0, Nat.zero_le _, rfl, k0, rfl, hk0, by omega, c0, Touch.refl _ _⟩
  case round =>
    obtain ⟨k, hk, rfl, x, rfl, hx0, hx1, hck, t⟩ := hrel
    by_cases hlt : k < N
    · obtain ⟨d1, d2⟩ := HC.out k hlt
      obtain ⟨vs, v1, v2, v3⟩ := HM.out.c
      have hK : LK wr (c k) (ts[k]?.getD noL) := ((HM.out.l k (by rw [HN.out]; exact hlt)).from d2).touch t (fun x hx => hx.2)
      have hv := (v1.touch t (fun hx => Nat.lt_irrefl _ hx.1)).cell k
      rw [v3 k (by rw [HN.out]; exact hlt)] at hv
      generalize HG : ts[k]?.getD noL = g at *
      clear HG v1 v3
      obtain ⟨ga, gn, gcap, gx⟩ := g
      obtain ⟨B', l', p', q', e1, e2, e3, e4, e5⟩ := hK
      simp only at e1 e3 e4 e5
      subst e1
      have hv' : wr.cell? ⟨B, k, none⟩ = some (.slice (some ⟨B', 0, none⟩) gn gcap) := hv
      have hq : ∀ i, i < gn → q' i < c (k + 1) := fun i hi => by
        obtain ⟨_, a3, _⟩ := e3.l i (by omega)
        exact d2.2 i (by show i < gx.length; omega) _ a3
      have hB' := (d2.1 B' rfl).2
      have HQ : Hid _ := hq
      clear hq hv d2
      go_wp2_with fail
      refine (markLS_any B' l' gn gcap (c (k + 1)) gx p' q' x _ e3 e4 e5 hx0 (by omega) hB' HQ.out).mono ?_
      rintro ee w1 ⟨r, rfl, r0, r1, t1⟩
      have t2 : Touch (fun x => B < x ∧ x < c (k + 1)) W w1 := (t.mono fun y hy => by omega).trans (t1.mono fun y hy => by omega)
      clear t t1 e3
      go_wp2
      go_roundw
      case rel => exact ⟨k + 1, by omega, by go_num, _, rfl, r0, by omega, by omega, t2⟩
      case measure => simp [intOf]; omega
    · go_wp2
      go_ret
      obtain rfl : k = N := by omega
      exact ⟨x, rfl, hx0, hx1, t⟩

set_option maxHeartbeats 1600000 in
theorem markP_any (cl : Int) (B1 N cap B2 gn gc B3 sn sc : Nat) (ts : List L2V) (G S : List Int) (c : Nat → Nat) (W : World) (h : ML2 W B1 N ts) (hN : ts.length = N) (hN1 : N ≤ 1048576) (c0 : B1 < c 0) (cN : c N ≤ B2) (hc : ∀ i, i < N → c i ≤ c (i + 1) ∧ InR (c i) (c (i + 1)) (ts[i]?.getD noL)) (hG : Blk W B2 G) (lG : G.length = gn) (zG : gn ≤ 1048576) (hS : Blk W B3 S) (lS : S.length = sn) (zS : sn ≤ 1048576) (h23 : B2 < B3) :
    Calls Try.prog 15 #[plV cl (some ⟨B1, 0, none⟩) N cap (some ⟨B2, 0, none⟩) gn gc (some ⟨B3, 0, none⟩) sn sc, .int .i64 1] W fun e w' => ∃ r, e = .returned (.int .i64 r) ∧ 0 ≤ r ∧ Touch (fun x => B1 < x ∧ x ≤ B3) W w' := by
  have HC : Hid _ := hc
  clear hc
  have l2 := hG.lt
  have l3 := hS.lt
  have n0 := Cel.new W [.int .i64 cl, .slice (some ⟨B1, 0, none⟩) N cap, .slice (some ⟨B2, 0, none⟩) gn gc, .slice (some ⟨B3, 0, none⟩) sn sc] 35
  have hcN : c 0 ≤ c N := by
    have : ∀ i, i ≤ N → c 0 ≤ c i := fun i => by
      induction i with
      | zero => intro _; exact Nat.le_refl _
      | succ i ih => intro hi; exact Nat.le_trans (ih (by omega)) (HC.out i (by omega)).1
    exact this N (Nat.le_refl _)
  go_enter Try.func15, Try.ntmps15
  go_wp2_with fail
  refine (markL2_any B1 N cap ts c 1 _ (h.below ((Below.refl _ _).alloc (Nat.le_refl _) _)) hN hN1 c0 HC.out (by omega) (by omega)).mono ?_
  rintro e w1 ⟨r, rfl, r0, r1, t1⟩
  have T1 : Touch (fun x => B1 < x ∧ x ≤ B3) W w1 := (Touch.of ((Below.refl _ _).alloc (Nat.le_refl _) _)).trans (t1.mono fun y hy => by omega)
  have n1 := n0.touch t1 (fun h => by have := h.2; omega)
  have g1 : OwnAt w1 (some ⟨B2, 0, none⟩) B2 G := OwnAt.touch (.inr ⟨rfl, hG.alloc _⟩) t1 (by omega)
  have s1 : OwnAt w1 (some ⟨B3, 0, none⟩) B3 S := OwnAt.touch (.inr ⟨rfl, hS.alloc _⟩) t1 (by omega)
  clear n0 t1 h
  obtain ⟨a0, a1, a2, a3⟩ := n1.quadP
  go_wp2_with fail
  refine (mark_any _ _ _ B2 G _ _ g1 lG zG r0 (by omega)).mono ?_
  rintro e w2 ⟨rfl, t2, -⟩
  have T2 := T1.trans (t2.mono (T := fun x => B1 < x ∧ x ≤ B3) fun y hy => by omega)
  have n2 := n1.touch t2 (fun h => by have := h.1; omega)
  have s2 : OwnAt w2 (some ⟨B3, 0, none⟩) B3 S := s1.touch t2 (by omega)
  clear n1 t2 g1 s1 T1 a0 a1 a2 a3
  obtain ⟨a0, a1, a2, a3⟩ := n2.quadP
  go_wp2_with fail
  refine (mark_any _ _ _ B3 S _ _ s2 lS zS (by omega) (by omega)).mono ?_
  rintro e w3 ⟨rfl, t3, -⟩
  have T3 := T2.trans (t3.mono (T := fun x => B1 < x ∧ x ≤ B3) fun y hy => by omega)
  clear t3 s2 T2 n2 a0 a1 a2 a3
  go_wp2
  go_ret
  exact ⟨_, rfl, by omega, T3⟩

end Go.Proofs.Ythhfjodggmmcoaa
