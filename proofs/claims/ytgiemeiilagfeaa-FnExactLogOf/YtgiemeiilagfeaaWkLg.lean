/-
  Slices of calls that were done, as the laws' own copies lie: marked; every list stays a list as long as it was, whatever it holds. At most 1048576 of them.
-/
import Derived.Test.YtgiemeiilagfeaaLogS
import Derived.Test.YtgiemeiilagfeaaWkD
namespace Go.Proofs.Ytgiemeiilagfeaa
open Go.RowKit Go.Deep
set_option linter.unusedVariables false
set_option maxRecDepth 100000

set_option maxHeartbeats 3200000 in
theorem markMLg_any (B N cap lo : Nat) (gs : List LgV) (k0 : Int) (w0 w : World) (h : MLg w0 B N gs) (Bs : Nat → Prop) (lo0 : Nat) (m0 : Mkd Bs lo0 w0 w) (hBs : ¬ Bs B) (hN : gs.length = N) (hN1 : N ≤ 1048576) (hlo : lo ≤ B) (hk0 : 0 ≤ k0) (hk : k0 ≤ 3000000000000000000) :
    Calls Try.prog 10 #[.slice (some ⟨B, 0, none⟩) N cap, .int .i64 k0] w fun e w' => ∃ r, e = .returned (.int .i64 r) ∧ 0 ≤ r ∧ r ≤ k0 + N * 2097156 ∧ Mkd (fun b => b = B) lo w w' ∧ Touch (fun x => B ≤ x ∧ x < w0.heap.size) w w' := by
  have HN : Hid (gs.length = N) := hN
  have H : Hid (MLg w0 B N gs) := h
  have H0 : Hid (Mkd Bs lo0 w0 w) := m0
  clear m0
  clear hN h
  go_enter Try.func10, Try.ntmps10
  go_wp2_with fail
  go_loopw [1, 5] (fun kv i wr => ∃ k : Nat, k ≤ N ∧ i = .int .i64 k ∧ ∃ x : Int, kv = .int .i64 x ∧ 0 ≤ x ∧ x ≤ k0 + k * 2097156 ∧ Mkd (fun b => b = B) lo w wr ∧ Touch (fun x => B ≤ x ∧ x < w0.heap.size) w wr ∧ ∃ vs : List Value, Cel wr B vs 52 ∧ Hid (vs.length = N * 6 ∧ ∀ i, i < N → vs[i * 6 + 3]? = some ((gs[i]?.getD noLg).t.v) ∧ vs[i * 6 + 5]? = some ((gs[i]?.getD noLg).u.v))) (fun _ i _ => N - (intOf i).toNat)
  case atStart =>
    obtain ⟨vs, h1, h2, h3⟩ := H.out.c
    exact ⟨0, Nat.zero_le _, rfl, k0, rfl, hk0, by omega, Mkd.refl _ _ _, Touch.refl _ _, vs, H0.out.cel h1 (by decide) hBs, h2, fun i hi => ⟨by rw [h3 i (by rw [HN.out]; exact hi) 3 (by omega)]; rfl, by rw [h3 i (by rw [HN.out]; exact hi) 5 (by omega)]; rfl⟩⟩
  case round =>
    obtain ⟨k, hk', rfl, x, rfl, hx0, hx1, m, tt, vs, hc, HV⟩ := hrel
    have hBw := H.out.lt
    by_cases hlt : k < N
    · obtain ⟨⟨Bl, hBl, hlB, hblk, hlen, hle⟩, ⟨Bm, hBm, hmB, hblm, hlem, hlf⟩, -⟩ := H.out.l k (by rw [HN.out]; exact hlt)
      obtain ⟨hv1, hv2⟩ := HV.out.2 k hlt
      generalize HG : gs[k]?.getD noLg = g at *
      clear HG
      obtain ⟨gx, gq, gc, ⟨gta, gtn, gtc, gtx⟩, ge, ⟨gua, gun, guc, gux⟩⟩ := g
      obtain rfl : gta = some ⟨Bl, 0, none⟩ := hBl
      obtain rfl : gua = some ⟨Bm, 0, none⟩ := hBm
      have hle : gtn ≤ 1048576 := hle
      have hlf : gun ≤ 1048576 := hlf
      have hBl2 : Bl < w0.heap.size := hblk.lt
      have hBm2 : Bm < w0.heap.size := hblm.lt
      have hu0 : WkI w Bm gun := H0.out.i _ _ ⟨gux, hlem, hblm⟩
      have hw0 : WkI w Bl gtn := H0.out.i _ _ ⟨gtx, hlen, hblk⟩
      have hlt' : (k : Int) < N := by omega
      have f0 := hc.free (k * 6)
      have f1 := hc.free (k * 6 + 1)
      have f2 := hc.free (k * 6 + 2)
      have c0 := hc.cell (k * 6)
      have c1 := hc.cell (k * 6 + 1)
      have c2 := hc.cell (k * 6 + 2)
      have c3 := hc.cell (k * 6 + 3)
      rw [hv1] at c3
      have hvl := HV.out.1
      obtain ⟨v0, e0⟩ : ∃ v, vs[k * 6]? = some v := ⟨vs[k * 6]'(by omega), List.getElem?_eq_getElem _⟩
      obtain ⟨v1, e1⟩ : ∃ v, vs[k * 6 + 1]? = some v := ⟨vs[k * 6 + 1]'(by omega), List.getElem?_eq_getElem _⟩
      obtain ⟨v2, e2⟩ : ∃ v, vs[k * 6 + 2]? = some v := ⟨vs[k * 6 + 2]'(by omega), List.getElem?_eq_getElem _⟩
      obtain ⟨v4, e4⟩ : ∃ v, vs[k * 6 + 4]? = some v := ⟨vs[k * 6 + 4]'(by omega), List.getElem?_eq_getElem _⟩
      rw [e0] at c0
      rw [e1] at c1
      rw [e2] at c2
      have c3' : wr.cell? ⟨B, k * 6 + 3, none⟩ = some (.slice (some ⟨Bl, 0, none⟩) gtn gtc) := c3
      have h1 := ((hc.set (k * 6) (.int .i64 x)).set (k * 6 + 1) (.int .i64 (x + 1))).set (k * 6 + 2) (.int .i64 (x + 1 + 1))
      have m1 := ((m.trans (Mkd.cell (Bs := fun b => b = B) hlo rfl hc (by decide) (k * 6) (.int .i64 x))).trans (Mkd.cell (Bs := fun b => b = B) hlo rfl (hc.set (k * 6) (.int .i64 x)) (by decide) (k * 6 + 1) (.int .i64 (x + 1)))).trans (Mkd.cell (Bs := fun b => b = B) hlo rfl ((hc.set (k * 6) (.int .i64 x)).set (k * 6 + 1) (.int .i64 (x + 1))) (by decide) (k * 6 + 2) (.int .i64 (x + 1 + 1)))
      have tt1 := ((tt.setCell (B := B) (i := k * 6) ⟨Nat.le_refl _, hBw⟩ (.int .i64 x)).setCell (B := B) (i := k * 6 + 1) ⟨Nat.le_refl _, hBw⟩ (.int .i64 (x + 1))).setCell (B := B) (i := k * 6 + 2) ⟨Nat.le_refl _, hBw⟩ (.int .i64 (x + 1 + 1))
      obtain ⟨vs1, hvs1⟩ : ∃ vs1, vs1 = (((vs.set (k * 6) (.int .i64 x)).set (k * 6 + 1) (.int .i64 (x + 1))).set (k * 6 + 2) (.int .i64 (x + 1 + 1))) := ⟨_, rfl⟩
      have HV1 : Hid (vs1.length = N * 6 ∧ vs1[k * 6 + 4]? = some v4 ∧ ∀ i, i < N → vs1[i * 6 + 3]? = some ((gs[i]?.getD noLg).t.v) ∧ vs1[i * 6 + 5]? = some ((gs[i]?.getD noLg).u.v)) := by
        refine ⟨by rw [hvs1, List.length_set, List.length_set, List.length_set]; exact hvl, ?_, fun i hi => ?_⟩
        · rw [hvs1, List.getElem?_set_ne (by omega), List.getElem?_set_ne (by omega), List.getElem?_set_ne (by omega)]; exact e4
        · rw [hvs1]
          constructor
          · rw [List.getElem?_set_ne (by omega), List.getElem?_set_ne (by omega), List.getElem?_set_ne (by omega)]; exact (HV.out.2 i hi).1
          · rw [List.getElem?_set_ne (by omega), List.getElem?_set_ne (by omega), List.getElem?_set_ne (by omega)]; exact (HV.out.2 i hi).2
      have hv5 : Hid (vs1[k * 6 + 5]? = some ((⟨some ⟨Bm, 0, none⟩, gun, guc, gux⟩ : IV).v)) := by
        show _ = _
        rw [hvs1, List.getElem?_set_ne (by omega), List.getElem?_set_ne (by omega), List.getElem?_set_ne (by omega)]; exact hv2
      rw [← hvs1] at h1
      obtain ⟨y, ly, hy⟩ := m1.i _ _ hw0
      have HY : Hid _ := ly
      have HM : Hid _ := m1
      have HC2 : Hid _ := h1
      clear m m1 h1 hc hblk hlen hblm hlem hw0 c3 e0 e1 e2 e4 ly hvs1 hv1 hv2 HV hvl
      go_wp2_with fail
      refine (mark_any _ _ _ Bl y _ _ (.inr ⟨rfl, hy⟩) HY.out hle (by omega) (by omega)).mono ?_
      rintro ee w2 ⟨rfl, t2, o2⟩
      have W2 : WkI w2 Bl gtn := by
        by_cases h0 : 0 < gtn
        · rcases o2 with h | ⟨_, h⟩
          · have := congrArg List.length h
            rw [ramp_len] at this
            simp at this
            omega
          · exact ⟨_, ramp_len _ _, h⟩
        · exact ⟨y, HY.out, by unfold Blk at hy ⊢; rw [t2.block Bl (lt_of_block hy) (fun s => h0 s.2)]; exact hy⟩
      have tt2 := (tt1.trans (t2.mono (T := fun x => B ≤ x ∧ x < w0.heap.size) fun z hz => by have := hz.1; exact ⟨by omega, by omega⟩)).setCell (B := B) (i := k * 6 + 4) ⟨Nat.le_refl _, hBw⟩ (.int .i64 (x + 1 + 1 + 1 + gtn))
      have m3 := HM.out.trans (Mkd.list (lo := lo) (Bs := fun b => b = B) (by omega) ⟨y, HY.out, hy⟩ t2 W2)
      have h3 := Cel.touch HC2.out t2 (fun s => by have := s.1; omega)
      have c4 := h3.cell (k * 6 + 4)
      have c5 := h3.cell (k * 6 + 5)
      have f4 := h3.free (k * 6 + 4)
      rw [HV1.out.2.1] at c4
      rw [hv5.out] at c5
      have c5' : w2.cell? ⟨B, k * 6 + 5, none⟩ = some (.slice (some ⟨Bm, 0, none⟩) gun guc) := c5
      have h3' := h3.set (k * 6 + 4) (.int .i64 (x + 1 + 1 + 1 + gtn))
      have m3' := m3.trans (Mkd.cell (Bs := fun b => b = B) hlo rfl h3 (by decide) (k * 6 + 4) (.int .i64 (x + 1 + 1 + 1 + gtn)))
      obtain ⟨y', ly', hy'⟩ := m3'.i _ _ hu0
      have HY' : Hid _ := ly'
      have HM3 : Hid _ := m3'
      have HC3 : Hid _ := h3'
      clear t2 o2 W2 hy c0 c1 c2 c3' f0 f1 f2 m3 h3 c5 ly' HM HC2 HY m3' h3'
      go_wp2_with fail
      refine (mark_any _ _ _ Bm y' _ _ (.inr ⟨rfl, hy'⟩) HY'.out hlf (by omega) (by omega)).mono ?_
      rintro ee w3 ⟨rfl, t3, o3⟩
      have W3 : WkI w3 Bm gun := by
        by_cases h0 : 0 < gun
        · rcases o3 with h | ⟨_, h⟩
          · have := congrArg List.length h
            rw [ramp_len] at this
            simp at this
            omega
          · exact ⟨_, ramp_len _ _, h⟩
        · exact ⟨y', HY'.out, by unfold Blk at hy' ⊢; rw [t3.block Bm (lt_of_block hy') (fun s => h0 s.2)]; exact hy'⟩
      have tt3 := tt2.trans (t3.mono (T := fun x => B ≤ x ∧ x < w0.heap.size) fun z hz => by have := hz.1; exact ⟨by omega, by omega⟩)
      have m4 := HM3.out.trans (Mkd.list (lo := lo) (Bs := fun b => b = B) (by omega) ⟨y', HY'.out, hy'⟩ t3 W3)
      have h4 := Cel.touch HC3.out t3 (fun s => by have := s.1; omega)
      have HV2 : Hid ((vs1.set (k * 6 + 4) (.int .i64 (x + 1 + 1 + 1 + gtn))).length = N * 6 ∧ ∀ i, i < N → (vs1.set (k * 6 + 4) (.int .i64 (x + 1 + 1 + 1 + gtn)))[i * 6 + 3]? = some ((gs[i]?.getD noLg).t.v) ∧ (vs1.set (k * 6 + 4) (.int .i64 (x + 1 + 1 + 1 + gtn)))[i * 6 + 5]? = some ((gs[i]?.getD noLg).u.v)) :=
        ⟨by rw [List.length_set]; exact HV1.out.1, fun i hi => by rw [List.getElem?_set_ne (by omega), List.getElem?_set_ne (by omega)]; exact HV1.out.2.2 i hi⟩
      clear t3 o3 W3 hy' c4 c5' f4 HM3 HC3
      go_wp2
      go_roundw
      case rel => exact ⟨k + 1, by omega, by go_num, _, rfl, by omega, by omega, m4, tt3, _, h4, HV2⟩
      case measure => simp [intOf]; omega
    · obtain rfl : k = N := by omega
      go_wp2
      go_ret
      exact ⟨x, rfl, hx0, hx1, m, tt⟩

end Go.Proofs.Ytgiemeiilagfeaa
