/-
  Slices of calls that were done, and what came of them: the size, a copy, one held against another, an argument that is one. Lengths at most 1048576 where one is copied.
-/
import Derived.Test.YtpmihhbgjimpmaaGreatDoorLogE
namespace Go.Proofs.YtpmihhbgjimpmaaGreatDoor
open Go.ChangeShapes Go.WideShapes Go.ChangeAt Go.RowKit Go.Joins Go.Deep
set_option linter.unusedVariables false
set_option maxRecDepth 100000

/-- A slice of them that came in. -/
def LgSM (w : World) (ad : Option Addr) (fs : List LgV) : Prop :=
  ∀ i, i < fs.length → ∃ b off, ad = some ⟨b, off, none⟩ ∧ (∀ r, r < 6 → w.cell? ⟨b, off + i * 6 + r, none⟩ = (fs[i]?.getD noLg).cs[r]?) ∧ LgM w (fs[i]?.getD noLg)
theorem LgSM.below {w w' : World} {ad : Option Addr} {fs : List LgV} (h : LgSM w ad fs) (hb : Below w.heap.size w w') : LgSM w' ad fs := fun i hi => by
  obtain ⟨b, off, e, hc, hr⟩ := h i hi
  have hl : b < w.heap.size := block_lt (v := ((fs[i]?.getD noLg).cs[0]?).getD (.bool false)) ((hc 0 (by omega)).trans rfl)
  exact ⟨b, off, e, fun r hr => by rw [hb.cell (p := ⟨b, off + i * 6 + r, none⟩) hl]; exact hc r hr, hr.below hb⟩
/-- One that may be copied. -/
def LgSG (w : World) (ad : Option Addr) (fs : List LgV) : Prop :=
  ∀ i, i < fs.length → ∃ b off, ad = some ⟨b, off, none⟩ ∧ (∀ r, r < 6 → w.cell? ⟨b, off + i * 6 + r, none⟩ = (fs[i]?.getD noLg).cs[r]?) ∧ LgG w (fs[i]?.getD noLg)
theorem LgSG.below {w w' : World} {ad : Option Addr} {fs : List LgV} (h : LgSG w ad fs) (hb : Below w.heap.size w w') : LgSG w' ad fs := fun i hi => by
  obtain ⟨b, off, e, hc, hr⟩ := h i hi
  have hl : b < w.heap.size := block_lt (v := ((fs[i]?.getD noLg).cs[0]?).getD (.bool false)) ((hc 0 (by omega)).trans rfl)
  exact ⟨b, off, e, fun r hr => by rw [hb.cell (p := ⟨b, off + i * 6 + r, none⟩) hl]; exact hc r hr, hr.below hb⟩
theorem LgSM.g {w : World} {ad : Option Addr} {fs : List LgV} (h : LgSM w ad fs) (hs : ∀ i, i < fs.length → LgZ (fs[i]?.getD noLg)) : LgSG w ad fs := fun i hi => by
  obtain ⟨b, off, e, hc, hr⟩ := h i hi
  exact ⟨b, off, e, hc, hr.g (hs i hi)⟩
theorem cellsLg {w : World} {b o : Nat} {f : LgV} (h : ∀ r, r < 6 → w.cell? ⟨b, o + r, none⟩ = f.cs[r]?) : w.cell? ⟨b, o, none⟩ = some (.int .i64 f.x) ∧ w.cell? ⟨b, o + 1, none⟩ = some (.int .i64 f.q) ∧ w.cell? ⟨b, o + 2, none⟩ = some (.int .i64 f.c) ∧ w.cell? ⟨b, o + 3, none⟩ = some (f.t.v) ∧ w.cell? ⟨b, o + 4, none⟩ = some (.int .i64 f.e) ∧ w.cell? ⟨b, o + 5, none⟩ = some (f.u.v) := ⟨h 0 (by omega), h 1 (by omega), h 2 (by omega), h 3 (by omega), h 4 (by omega), h 5 (by omega)⟩

theorem open_LgS {H : Type} {enc : TypeId × Value → H} {W : World} {fuel : Nat} {v : Value} {y : DataW H × List MemPlace}
    (hf : DataW.trod enc Tryz.prog W 0 (fun _ => true) true fuel 66 [v] = some y) :
    ∃ ad N cap fs, v = .slice ad N cap ∧ fs.length = N ∧ LgSM W ad fs ∧ N ≤ maxLen := by
  obtain ⟨ad, N, cap, fs, hv, hl, hN, hall⟩ := open_sliceC noLg LgV.cs (fun f => LgM W f) (c := 6) (by omega) Tryz.underlying66 (by kernel_rfl) (fun _ => rfl) (fun fuel cs x hx => open_LgC hx) hf
  exact ⟨ad, N, cap, fs, hv, hl, hall, hN⟩

set_option maxHeartbeats 1600000 in
theorem szLgS_any (ad : Option Addr) (N cap : Nat) (fs : List LgV) (l : Int) (w : World) (hN : fs.length = N) (hF : LgSM w ad fs) (hN1 : N ≤ maxLen) (h0 : 0 ≤ l) (hl : l ≤ 1048576) :
    Calls Tryz.prog 27 #[.slice ad N cap, .int .i64 l] w fun e w' => ∃ r, e = .returned (.int .i64 r) ∧ -1 ≤ r ∧ r ≤ 1048576 ∧ (0 ≤ r → N ≤ 1048576 ∧ ∀ i, i < fs.length → LgZ (fs[i]?.getD noLg)) ∧ Below w.heap.size w w' := by
  have HN : Hid (fs.length = N) := hN
  clear hN
  unfold maxLen at hN1
  by_cases h : l < N
  · go_enter Tryz.func27, Tryz.ntmps27
    go_wp2
    go_ret
    exact ⟨-1, rfl, by omega, by omega, fun h => by omega, Below.refl _ _⟩
  · have hN2 : N ≤ 1048576 := by omega
    have h' : (N : Int) ≤ l := by omega
    go_enter Tryz.func27, Tryz.ntmps27
    go_wp2_with fail
    go_loopw [1, 5] (fun lv i wr => ∃ k : Nat, k ≤ N ∧ i = .int .i64 k ∧ ∃ x : Int, lv = .int .i64 x ∧ 0 ≤ x ∧ x ≤ 1048576 ∧ Below w.heap.size w wr ∧ ∀ i, i < k → LgZ (fs[i]?.getD noLg)) (fun _ i _ => N - (intOf i).toNat)
    case atStart => exact ⟨0, Nat.zero_le _, rfl, _, rfl, by omega, by omega, Below.refl _ _, fun i hi => by omega⟩
    case round =>
      obtain ⟨k, hk, rfl, x, rfl, hx0, hx1, hb, hall⟩ := hrel
      have HA : Hid _ := hall
      clear hall
      by_cases hlt : k < N
      · obtain ⟨b, off, rfl, hc, hr⟩ := (hF.below hb) k (by rw [HN.out]; exact hlt)
        generalize HG : fs[k]?.getD noLg = g at *
        have HG' : Hid (fs[k]?.getD noLg = g) := HG
        clear HG hF
        obtain ⟨e0, e1, e2, e3, e4, e5⟩ := cellsLg hc
        obtain ⟨gx, gq, gc, ⟨gta, gtn, gtc, gtx⟩, ge, ⟨gua, gun, guc, gux⟩⟩ := g
        have e0' : wr.cell? ⟨b, off + k * 6, none⟩ = some (.int .i64 gx) := e0
        have e1' : wr.cell? ⟨b, off + k * 6 + 1, none⟩ = some (.int .i64 gq) := e1
        have e2' : wr.cell? ⟨b, off + k * 6 + 2, none⟩ = some (.int .i64 gc) := e2
        have e3' : wr.cell? ⟨b, off + k * 6 + 3, none⟩ = some (.slice gta gtn gtc) := e3
        have e4' : wr.cell? ⟨b, off + k * 6 + 4, none⟩ = some (.int .i64 ge) := e4
        have e5' : wr.cell? ⟨b, off + k * 6 + 5, none⟩ = some (.slice gua gun guc) := e5
        clear e0 e1 e2 e3 e4 e5 hc
        go_wp2_with fail
        refine (szLg_ex _ _ _ _ _ _ gtx _ _ _ _ gux _ _ hr hx0 hx1).mono ?_
        rintro e w1 ⟨r, rfl, r0, r1, r2, b1⟩
        by_cases hz : r < 0
        · go_wp2
          go_ret
          exact ⟨-1, rfl, by omega, by omega, fun h => by omega, hb.trans (b1.mono hb.size)⟩
        · have hz0 : 0 ≤ r := by omega
          have HA2 : Hid (∀ i, i < k + 1 → LgZ (fs[i]?.getD noLg)) := fun i hi => by
            by_cases hik : i < k
            · exact HA.out i hik
            · obtain rfl : i = k := by omega
              rw [HG'.out]; exact r2 hz0
          clear r2
          go_wp2
          go_roundw
          case rel => exact ⟨k + 1, by omega, by go_num, _, rfl, hz0, r1, hb.trans (b1.mono hb.size), HA2.out⟩
          case measure => simp [intOf]; omega
      · obtain rfl : k = N := by omega
        go_wp2
        go_ret
        exact ⟨x, rfl, by omega, by omega, fun _ => ⟨hN2, fun i hi => HA.out i (by rw [← HN.out]; exact hi)⟩, hb⟩

/-- So many cells set in a row. -/
def putLg (vs : List Value) (o : Nat) (x0 x1 x2 x3 x4 x5 : Value) : List Value := ((((((vs.set o x0).set (o + 1) x1).set (o + 2) x2).set (o + 3) x3).set (o + 4) x4).set (o + 5) x5)
theorem putLg_len (vs : List Value) (o : Nat) (x0 x1 x2 x3 x4 x5 : Value) : (putLg vs o x0 x1 x2 x3 x4 x5).length = vs.length := by simp [putLg]
theorem putLg_ne (vs : List Value) (o : Nat) (x0 x1 x2 x3 x4 x5 : Value) (j : Nat) (h : j < o ∨ o + 6 ≤ j) : (putLg vs o x0 x1 x2 x3 x4 x5)[j]? = vs[j]? := by
  unfold putLg
  rw [List.getElem?_set_ne (by omega), List.getElem?_set_ne (by omega), List.getElem?_set_ne (by omega), List.getElem?_set_ne (by omega), List.getElem?_set_ne (by omega), List.getElem?_set_ne (by omega)]
theorem putLg_at (vs : List Value) (o : Nat) (x0 x1 x2 x3 x4 x5 : Value) (h : o + 6 ≤ vs.length) (r : Nat) (hr : r < 6) : (putLg vs o x0 x1 x2 x3 x4 x5)[o + r]? = [x0, x1, x2, x3, x4, x5][r]? := by
  have hcase : r = 0 ∨ r = 1 ∨ r = 2 ∨ r = 3 ∨ r = 4 ∨ r = 5 := by omega
  unfold putLg
  rcases hcase with rfl | rfl | rfl | rfl | rfl | rfl
  · simp only [Nat.add_zero]
    rw [List.getElem?_set_ne (by omega), List.getElem?_set_ne (by omega), List.getElem?_set_ne (by omega), List.getElem?_set_ne (by omega), List.getElem?_set_ne (by omega), List.getElem?_set_self (by omega)]; rfl
  · rw [List.getElem?_set_ne (by omega), List.getElem?_set_ne (by omega), List.getElem?_set_ne (by omega), List.getElem?_set_ne (by omega), List.getElem?_set_self (by simp; omega)]; rfl
  · rw [List.getElem?_set_ne (by omega), List.getElem?_set_ne (by omega), List.getElem?_set_ne (by omega), List.getElem?_set_self (by simp; omega)]; rfl
  · rw [List.getElem?_set_ne (by omega), List.getElem?_set_ne (by omega), List.getElem?_set_self (by simp; omega)]; rfl
  · rw [List.getElem?_set_ne (by omega), List.getElem?_set_self (by simp; omega)]; rfl
  · rw [List.getElem?_set_self (by simp; omega)]; rfl

/-- Block B holds N of them, of which those of gs have been laid. -/
structure MLg (W : World) (B N : Nat) (gs : List LgV) : Prop where
  c : ∃ vs : List Value, Cel W B vs 61 ∧ vs.length = N * 6 ∧ ∀ i, i < gs.length → ∀ r, r < 6 → vs[i * 6 + r]? = (gs[i]?.getD noLg).cs[r]?
  l : ∀ i, i < gs.length → LgK W (B + 1) (gs[i]?.getD noLg)
theorem MLg.lt {W : World} {B N : Nat} {gs : List LgV} (h : MLg W B N gs) : B < W.heap.size := by
  obtain ⟨vs, h1, _⟩ := h.c
  exact h1.lt
theorem MLg.below {W W' : World} {B N : Nat} {gs : List LgV} (h : MLg W B N gs) (b : Below W.heap.size W W') : MLg W' B N gs := by
  obtain ⟨vs, h1, h2, h3⟩ := h.c
  exact ⟨⟨vs, h1.below b, h2, h3⟩, fun i hi => (h.l i hi).below b⟩
theorem MLg.g {W : World} {B N : Nat} {gs : List LgV} (h : MLg W B N gs) : LgSG W (some ⟨B, 0, none⟩) gs := fun i hi => by
  obtain ⟨vs, h1, h2, h3⟩ := h.c
  exact ⟨B, 0, rfl, fun r hr => by rw [Nat.zero_add, h1.cell, h3 i hi r hr], (h.l i hi).g⟩
theorem MLg.touch {S : Nat → Prop} {W W' : World} {B N : Nat} {gs : List LgV} (h : MLg W B N gs) (t : Touch S W W') (hs : ∀ k, S k → k < B) : MLg W' B N gs := by
  obtain ⟨vs, h1, h2, h3⟩ := h.c
  exact ⟨⟨vs, h1.touch t (fun hh => by have := hs _ hh; omega), h2, h3⟩, fun i hi => (h.l i hi).touch t (fun k hk => by have := hs _ hk; omega)⟩
theorem MLg.setLow {W : World} {B N : Nat} {gs : List LgV} (h : MLg W B N gs) {X : Nat} (hX : X < B) (i : Nat) (v : Value) : MLg (W.setCell ⟨X, i, none⟩ v) B N gs := h.touch (S := fun x => x = X) (Touch.setCell (S := fun x => x = X) (Touch.refl _ _) rfl _) (fun k hk => by omega)
/-- One more is laid. -/
theorem MLg.step {W W1 : World} {B N k : Nat} {gs : List LgV} {gx : Int} {gq : Int} {gc : Int} {Pt : Option Addr} {gtn : Nat} {Qt : List Int} {ge : Int} {Pu : Option Addr} {gun : Nat} {Qu : List Int} (h : MLg W B N gs) (hk : gs.length = k) (hkN : k < N) (b : Below W.heap.size W W1) (hs : LgK W1 W.heap.size ⟨gx, gq, gc, ⟨Pt, gtn, gtn, Qt⟩, ge, ⟨Pu, gun, gun, Qu⟩⟩) :
    MLg ((((((W1.setCell ⟨B, k * 6, none⟩ (.int .i64 gx)).setCell ⟨B, k * 6 + 1, none⟩ (.int .i64 gq)).setCell ⟨B, k * 6 + 2, none⟩ (.int .i64 gc)).setCell ⟨B, k * 6 + 3, none⟩ (.slice Pt gtn gtn)).setCell ⟨B, k * 6 + 4, none⟩ (.int .i64 ge)).setCell ⟨B, k * 6 + 5, none⟩ (.slice Pu gun gun)) B N (gs ++ [⟨gx, gq, gc, ⟨Pt, gtn, gtn, Qt⟩, ge, ⟨Pu, gun, gun, Qu⟩⟩]) := by
  have hB := h.lt
  obtain ⟨vs, h1, h2, h3⟩ := (h.below b).c
  have T : Touch (fun x => x = B) W1 ((((((W1.setCell ⟨B, k * 6, none⟩ (.int .i64 gx)).setCell ⟨B, k * 6 + 1, none⟩ (.int .i64 gq)).setCell ⟨B, k * 6 + 2, none⟩ (.int .i64 gc)).setCell ⟨B, k * 6 + 3, none⟩ (.slice Pt gtn gtn)).setCell ⟨B, k * 6 + 4, none⟩ (.int .i64 ge)).setCell ⟨B, k * 6 + 5, none⟩ (.slice Pu gun gun)) := ((((((Touch.refl (fun x => x = B) W1).setCell rfl _).setCell rfl _).setCell rfl _).setCell rfl _).setCell rfl _).setCell rfl _
  refine ⟨⟨putLg vs (k * 6) (.int .i64 gx) (.int .i64 gq) (.int .i64 gc) (.slice Pt gtn gtn) (.int .i64 ge) (.slice Pu gun gun), ((((((h1).set _ _).set _ _).set _ _).set _ _).set _ _).set _ _, by rw [putLg_len]; exact h2, fun i hi r hr => ?_⟩, fun i hi => ?_⟩
  · rw [List.length_append, hk] at hi
    simp only [List.length_cons, List.length_nil] at hi
    by_cases e : i = k
    · subst e
      rw [putLg_at _ _ _ _ _ _ _ _ (by rw [h2]; omega) r hr, List.getElem?_append_right (by omega), hk]
      simp [LgV.cs, IV.v]
    · rw [putLg_ne _ _ _ _ _ _ _ _ _ (by omega), List.getElem?_append_left (by omega)]
      exact h3 i (by omega) r hr
  · rw [List.length_append, hk] at hi
    simp only [List.length_cons, List.length_nil] at hi
    by_cases e : i = k
    · subst e
      rw [List.getElem?_append_right (by omega), hk]
      simp only [Nat.sub_self, List.getElem?_cons_zero, Option.getD_some]
      exact (hs.mono (by omega)).touch T (fun x hx => by omega)
    · rw [List.getElem?_append_left (by omega)]
      exact ((h.l i (by omega)).below b).touch T (fun x hx => by omega)

/-- Each holds what the other does. -/
def copiesLgS (fs gs : List LgV) : Prop := ∀ i, i < gs.length → copiesLg (fs[i]?.getD noLg) (gs[i]?.getD noLg)

theorem Tryz.infoLogDone : (Tryz.prog.info? 61).map (fun i => (i.zero, i.size, i.bytes)) = some (some (.agg #[.int .i64 0, .int .i64 0, .int .i64 0, .slice none 0 0, .int .i64 0, .slice none 0 0]), 6, 80) := by kernel_rfl

set_option maxHeartbeats 3200000 in
theorem toLgS_any (ad : Option Addr) (N cap : Nat) (fs : List LgV) (w : World) (hN : fs.length = N) (hF : LgSG w ad fs) (hN1 : N ≤ 1048576) :
    Calls Tryz.prog 29 #[.slice ad N cap] w fun e w' => ∃ gs, e = .returned (.slice (some ⟨w.heap.size, 0, none⟩) N N) ∧ gs.length = N ∧ copiesLgS fs gs ∧ Below w.heap.size w w' ∧ MLg w' w.heap.size N gs := by
  have HN : Hid (fs.length = N) := hN
  clear hN
  obtain ⟨i0, hi, hz0, hz1, hz2⟩ := info_parts Tryz.infoLogDone
  go_enter Tryz.func29, Tryz.ntmps29
  go_wp2_with (at_make; refine wpList_make_full _ rfl (.tmp 6) (.tmp 6) 46 rfl w.heap.size 61 i0 (.agg #[.int .i64 0, .int .i64 0, .int .i64 0, .slice none 0 0, .int .i64 0, .slice none 0 0]) 6 Tryz.underlying46 hi hz0 hz1 .i64 .i64 _ _ N rfl rfl rfl rfl (by rw [hz2]; omega) (by unfold maxLen; omega) (Nat.le_refl _) ?_; intro w1 hown hgrow)
  have hb1 : Below w.heap.size w w1 := (Below.refl _ _).grown hgrow (Nat.le_refl _) (by simp)
  have m0 : MLg w1 w.heap.size N [] := by
    rcases hown.2 with ⟨h', _⟩ | ⟨g', cap', cur, h', _, hg, _, _, hcs, htake⟩
    · simp at h'
    · simp only [Value.slice.injEq, Option.some.injEq, Addr.mk.injEq, and_true, true_and] at h'
      obtain ⟨rfl, rfl⟩ := h'
      exact ⟨⟨cur.toList, by unfold Cel; rw [hg], by simpa using hcs, fun i hi => by simp at hi⟩, fun i hi => by simp at hi⟩
  clear hown hgrow hi hz0 hz1 hz2
  go_loopw [4] (fun i wr => ∃ k : Nat, k ≤ N ∧ i = .int .i64 k ∧ Below w.heap.size w wr ∧ ∃ gs, gs.length = k ∧ copiesLgS fs gs ∧ MLg wr w.heap.size N gs) (fun i _ => N - (intOf i).toNat)
  case atStart => exact ⟨0, Nat.zero_le _, rfl, hb1, [], rfl, fun i hi => by simp at hi, m0⟩
  case round =>
    clear hb1 m0
    obtain ⟨k, hk, rfl, hb, ts, hts, hcp, hm⟩ := hrel
    have HTS : Hid (ts.length = k) := hts
    have HCP : Hid (copiesLgS fs ts) := hcp
    clear hts hcp
    by_cases hlt : k < N
    · obtain ⟨b, off, rfl, hc, hr⟩ := (hF.below hb) k (by rw [HN.out]; exact hlt)
      generalize HG : fs[k]?.getD noLg = g at *
      have HG' : Hid (fs[k]?.getD noLg = g) := HG
      clear HG hF
      obtain ⟨e0, e1, e2, e3, e4, e5⟩ := cellsLg hc
      obtain ⟨gx, gq, gc, ⟨gta, gtn, gtc, gtx⟩, ge, ⟨gua, gun, guc, gux⟩⟩ := g
      have e0' : wr.cell? ⟨b, off + k * 6, none⟩ = some (.int .i64 gx) := e0
      have e1' : wr.cell? ⟨b, off + k * 6 + 1, none⟩ = some (.int .i64 gq) := e1
      have e2' : wr.cell? ⟨b, off + k * 6 + 2, none⟩ = some (.int .i64 gc) := e2
      have e3' : wr.cell? ⟨b, off + k * 6 + 3, none⟩ = some (.slice gta gtn gtc) := e3
      have e4' : wr.cell? ⟨b, off + k * 6 + 4, none⟩ = some (.int .i64 ge) := e4
      have e5' : wr.cell? ⟨b, off + k * 6 + 5, none⟩ = some (.slice gua gun guc) := e5
      clear e0 e1 e2 e3 e4 e5 hc
      go_wp2_with fail
      refine (toLg_ex _ _ _ _ _ _ gtx _ _ _ _ gux _ hr).mono ?_
      rintro ee w2 ⟨Pt, Qt, Pu, Qu, rfl, b2, hK, hcp2⟩
      have ms := hm.step HTS.out hlt b2 hK
      obtain ⟨vs, v1, v2, v3⟩ := (hm.below b2).c
      have hx : ∀ r, r < 6 → ∃ x, w2.cell? ⟨w.heap.size, k * 6 + r, none⟩ = some x := fun r hr => ⟨_, (v1.cell (k * 6 + r)).trans (List.getElem?_eq_getElem (by rw [v2]; omega))⟩
      obtain ⟨x0, y0⟩ := hx 0 (by omega)
      obtain ⟨x1, y1⟩ := hx 1 (by omega)
      obtain ⟨x2, y2⟩ := hx 2 (by omega)
      obtain ⟨x3, y3⟩ := hx 3 (by omega)
      obtain ⟨x4, y4⟩ := hx 4 (by omega)
      obtain ⟨x5, y5⟩ := hx 5 (by omega)
      simp only [Nat.add_zero] at y0
      have f0 := v1.free (k * 6)
      have f1 := v1.free (k * 6 + 1)
      have f2 := v1.free (k * 6 + 2)
      have f3 := v1.free (k * 6 + 3)
      have f4 := v1.free (k * 6 + 4)
      have f5 := v1.free (k * 6 + 5)
      have hb2 := hb.trans (b2.mono hb.size)
      have RB := ((((((hb2.setCell (p := ⟨w.heap.size, k * 6, none⟩) (Nat.le_refl _) (.int .i64 gx)).setCell (p := ⟨w.heap.size, k * 6 + 1, none⟩) (Nat.le_refl _) (.int .i64 gq)).setCell (p := ⟨w.heap.size, k * 6 + 2, none⟩) (Nat.le_refl _) (.int .i64 gc)).setCell (p := ⟨w.heap.size, k * 6 + 3, none⟩) (Nat.le_refl _) (.slice Pt gtn gtn)).setCell (p := ⟨w.heap.size, k * 6 + 4, none⟩) (Nat.le_refl _) (.int .i64 ge)).setCell (p := ⟨w.heap.size, k * 6 + 5, none⟩) (Nat.le_refl _) (.slice Pu gun gun))
      have CP : copiesLgS fs (ts ++ [⟨gx, gq, gc, ⟨Pt, gtn, gtn, Qt⟩, ge, ⟨Pu, gun, gun, Qu⟩⟩]) := fun i hi => by
        rw [List.length_append, HTS.out] at hi
        simp only [List.length_cons, List.length_nil] at hi
        by_cases e : i = k
        · subst e
          rw [List.getElem?_append_right (by rw [HTS.out]; exact Nat.le_refl _), HTS.out, HG'.out]
          simpa using hcp2
        · rw [List.getElem?_append_left (by rw [HTS.out]; omega)]
          exact HCP.out i (by rw [HTS.out]; omega)
      have HCP2 : Hid _ := CP
      clear hm b2 hb hb2 v1 v2 v3 hx CP hr hcp2 hK
      go_wp2
      go_roundw
      case rel => exact ⟨k + 1, by omega, by go_num, RB, _, by rw [List.length_append, HTS.out]; rfl, HCP2.out, ms⟩
      case measure => simp [intOf]; omega
    · obtain rfl : k = N := by omega
      go_wp2
      go_ret
      exact ⟨ts, rfl, HTS.out, HCP.out, hb, hm⟩

set_option maxHeartbeats 1600000 in
/-- Held against a slice that holds the same. -/
theorem eqLgS_same (ad ae : Option Addr) (N cap cap' : Nat) (fs gs : List LgV) (w : World) (hN : fs.length = N) (hM : gs.length = N) (hF : LgSG w ad fs) (hG : LgSG w ae gs) (hN1 : N ≤ 1048576)
    (hsame : ∀ i, i < N → sameLg (fs[i]?.getD noLg) (gs[i]?.getD noLg)) :
    Calls Tryz.prog 33 #[.slice ad N cap, .slice ae N cap'] w fun e w' => e = .returned (.bool true) ∧ Below w.heap.size w w' := by
  have HN : Hid (fs.length = N) := hN
  have HM : Hid (gs.length = N) := hM
  have HS : Hid _ := hsame
  clear hN hM hsame
  go_enter Tryz.func33, Tryz.ntmps33
  go_wp2_with fail
  go_loopw [5] (fun i wr => ∃ k : Nat, k ≤ N ∧ i = .int .i64 k ∧ Below w.heap.size w wr) (fun i _ => N - (intOf i).toNat)
  case atStart => exact ⟨0, Nat.zero_le _, rfl, Below.refl _ _⟩
  case round =>
    obtain ⟨k, hk, rfl, hb⟩ := hrel
    by_cases hlt : k < N
    · obtain ⟨b, off, rfl, hc, hr⟩ := (hF.below hb) k (by rw [HN.out]; exact hlt)
      obtain ⟨b', off', rfl, hc', hr'⟩ := (hG.below hb) k (by rw [HM.out]; exact hlt)
      have hs := HS.out k hlt
      generalize HG1 : fs[k]?.getD noLg = fe at *
      generalize HG2 : gs[k]?.getD noLg = g at *
      clear HG1 HG2 hF hG
      obtain ⟨e0, e1, e2, e3, e4, e5⟩ := cellsLg hc
      obtain ⟨fex, feq, fec, ⟨feta, fetn, fetc, fetx⟩, fee, ⟨feua, feun, feuc, feux⟩⟩ := fe
      have e0' : wr.cell? ⟨b, off + k * 6, none⟩ = some (.int .i64 fex) := e0
      have e1' : wr.cell? ⟨b, off + k * 6 + 1, none⟩ = some (.int .i64 feq) := e1
      have e2' : wr.cell? ⟨b, off + k * 6 + 2, none⟩ = some (.int .i64 fec) := e2
      have e3' : wr.cell? ⟨b, off + k * 6 + 3, none⟩ = some (.slice feta fetn fetc) := e3
      have e4' : wr.cell? ⟨b, off + k * 6 + 4, none⟩ = some (.int .i64 fee) := e4
      have e5' : wr.cell? ⟨b, off + k * 6 + 5, none⟩ = some (.slice feua feun feuc) := e5
      clear e0 e1 e2 e3 e4 e5 hc
      obtain ⟨d0, d1, d2, d3, d4, d5⟩ := cellsLg hc'
      obtain ⟨gx, gq, gc, ⟨gta, gtn, gtc, gtx⟩, ge, ⟨gua, gun, guc, gux⟩⟩ := g
      have d0' : wr.cell? ⟨b', off' + k * 6, none⟩ = some (.int .i64 gx) := d0
      have d1' : wr.cell? ⟨b', off' + k * 6 + 1, none⟩ = some (.int .i64 gq) := d1
      have d2' : wr.cell? ⟨b', off' + k * 6 + 2, none⟩ = some (.int .i64 gc) := d2
      have d3' : wr.cell? ⟨b', off' + k * 6 + 3, none⟩ = some (.slice gta gtn gtc) := d3
      have d4' : wr.cell? ⟨b', off' + k * 6 + 4, none⟩ = some (.int .i64 ge) := d4
      have d5' : wr.cell? ⟨b', off' + k * 6 + 5, none⟩ = some (.slice gua gun guc) := d5
      clear d0 d1 d2 d3 d4 d5 hc'
      have hlt' : (k : Int) < (N : Int) := by omega
      go_wp2_with fail
      go_region_with (first | (go_at_call 81; refine (eqLg_ex _ _ _ _ _ _ fetx _ _ _ _ feux _ _ _ _ _ _ gtx _ _ _ _ gux _ (by exact hr.below (Below.refl _ _).drew) (by exact hr'.below (Below.refl _ _).drew) hs).mono ?_; rintro ee w1 ⟨rfl, b1⟩))
      all_goals
        have b1' := below_of_drew b1
        go_wp2
        go_roundw
        case rel => exact ⟨k + 1, by omega, by go_num, hb.trans (b1'.mono hb.size)⟩
        case measure => simp [intOf]; omega
    · go_wp2
      go_ret
      exact ⟨rfl, hb⟩

end Go.Proofs.YtpmihhbgjimpmaaGreatDoor
