/-
  Slices of what came of acts: the size, a copy, one held against another, an argument that is one. Lengths at most 1048576 where one is copied.
-/
import Derived.Test.YtpmihhbgjimpmaaGreatDoorResE
namespace Go.Proofs.YtpmihhbgjimpmaaGreatDoor
open Go.ChangeShapes Go.WideShapes Go.ChangeAt Go.RowKit Go.Joins Go.Deep
set_option linter.unusedVariables false
set_option maxRecDepth 100000

/-- A slice of them that came in. -/
def RsSM (w : World) (ad : Option Addr) (fs : List RsV) : Prop :=
  ∀ i, i < fs.length → ∃ b off, ad = some ⟨b, off, none⟩ ∧ (∀ r, r < 2 → w.cell? ⟨b, off + i * 2 + r, none⟩ = (fs[i]?.getD noRs).cs[r]?) ∧ RsM w (fs[i]?.getD noRs)
theorem RsSM.below {w w' : World} {ad : Option Addr} {fs : List RsV} (h : RsSM w ad fs) (hb : Below w.heap.size w w') : RsSM w' ad fs := fun i hi => by
  obtain ⟨b, off, e, hc, hr⟩ := h i hi
  have hl : b < w.heap.size := block_lt (v := ((fs[i]?.getD noRs).cs[0]?).getD (.bool false)) ((hc 0 (by omega)).trans rfl)
  exact ⟨b, off, e, fun r hr => by rw [hb.cell (p := ⟨b, off + i * 2 + r, none⟩) hl]; exact hc r hr, hr.below hb⟩
/-- One that may be copied. -/
def RsSG (w : World) (ad : Option Addr) (fs : List RsV) : Prop :=
  ∀ i, i < fs.length → ∃ b off, ad = some ⟨b, off, none⟩ ∧ (∀ r, r < 2 → w.cell? ⟨b, off + i * 2 + r, none⟩ = (fs[i]?.getD noRs).cs[r]?) ∧ RsG w (fs[i]?.getD noRs)
theorem RsSG.below {w w' : World} {ad : Option Addr} {fs : List RsV} (h : RsSG w ad fs) (hb : Below w.heap.size w w') : RsSG w' ad fs := fun i hi => by
  obtain ⟨b, off, e, hc, hr⟩ := h i hi
  have hl : b < w.heap.size := block_lt (v := ((fs[i]?.getD noRs).cs[0]?).getD (.bool false)) ((hc 0 (by omega)).trans rfl)
  exact ⟨b, off, e, fun r hr => by rw [hb.cell (p := ⟨b, off + i * 2 + r, none⟩) hl]; exact hc r hr, hr.below hb⟩
theorem RsSM.g {w : World} {ad : Option Addr} {fs : List RsV} (h : RsSM w ad fs) (hs : ∀ i, i < fs.length → RsZ (fs[i]?.getD noRs)) : RsSG w ad fs := fun i hi => by
  obtain ⟨b, off, e, hc, hr⟩ := h i hi
  exact ⟨b, off, e, hc, hr.g (hs i hi)⟩
theorem cellsRs {w : World} {b o : Nat} {f : RsV} (h : ∀ r, r < 2 → w.cell? ⟨b, o + r, none⟩ = f.cs[r]?) : w.cell? ⟨b, o, none⟩ = some (.int .i64 f.c) ∧ w.cell? ⟨b, o + 1, none⟩ = some (f.t.v) := ⟨h 0 (by omega), h 1 (by omega)⟩

/-- So many cells set in a row. -/
def putRs (vs : List Value) (o : Nat) (x0 x1 : Value) : List Value := ((vs.set o x0).set (o + 1) x1)
theorem putRs_len (vs : List Value) (o : Nat) (x0 x1 : Value) : (putRs vs o x0 x1).length = vs.length := by simp [putRs]
theorem putRs_ne (vs : List Value) (o : Nat) (x0 x1 : Value) (j : Nat) (h : j < o ∨ o + 2 ≤ j) : (putRs vs o x0 x1)[j]? = vs[j]? := by
  unfold putRs
  rw [List.getElem?_set_ne (by omega), List.getElem?_set_ne (by omega)]
theorem putRs_at (vs : List Value) (o : Nat) (x0 x1 : Value) (h : o + 2 ≤ vs.length) (r : Nat) (hr : r < 2) : (putRs vs o x0 x1)[o + r]? = [x0, x1][r]? := by
  have hcase : r = 0 ∨ r = 1 := by omega
  unfold putRs
  rcases hcase with rfl | rfl
  · simp only [Nat.add_zero]
    rw [List.getElem?_set_ne (by omega), List.getElem?_set_self (by omega)]; rfl
  · rw [List.getElem?_set_self (by simp; omega)]; rfl

/-- Block B holds N of them, of which those of gs have been laid. -/
structure MRs (W : World) (B N : Nat) (gs : List RsV) : Prop where
  c : ∃ vs : List Value, Cel W B vs 54 ∧ vs.length = N * 2 ∧ ∀ i, i < gs.length → ∀ r, r < 2 → vs[i * 2 + r]? = (gs[i]?.getD noRs).cs[r]?
  l : ∀ i, i < gs.length → RsK W (B + 1) (gs[i]?.getD noRs)
theorem MRs.lt {W : World} {B N : Nat} {gs : List RsV} (h : MRs W B N gs) : B < W.heap.size := by
  obtain ⟨vs, h1, _⟩ := h.c
  exact h1.lt
theorem MRs.below {W W' : World} {B N : Nat} {gs : List RsV} (h : MRs W B N gs) (b : Below W.heap.size W W') : MRs W' B N gs := by
  obtain ⟨vs, h1, h2, h3⟩ := h.c
  exact ⟨⟨vs, h1.below b, h2, h3⟩, fun i hi => (h.l i hi).below b⟩
theorem MRs.g {W : World} {B N : Nat} {gs : List RsV} (h : MRs W B N gs) : RsSG W (some ⟨B, 0, none⟩) gs := fun i hi => by
  obtain ⟨vs, h1, h2, h3⟩ := h.c
  exact ⟨B, 0, rfl, fun r hr => by rw [Nat.zero_add, h1.cell, h3 i hi r hr], (h.l i hi).g⟩
theorem MRs.touch {S : Nat → Prop} {W W' : World} {B N : Nat} {gs : List RsV} (h : MRs W B N gs) (t : Touch S W W') (hs : ∀ k, S k → k < B) : MRs W' B N gs := by
  obtain ⟨vs, h1, h2, h3⟩ := h.c
  exact ⟨⟨vs, h1.touch t (fun hh => by have := hs _ hh; omega), h2, h3⟩, fun i hi => (h.l i hi).touch t (fun k hk => by have := hs _ hk; omega)⟩
theorem MRs.setLow {W : World} {B N : Nat} {gs : List RsV} (h : MRs W B N gs) {X : Nat} (hX : X < B) (i : Nat) (v : Value) : MRs (W.setCell ⟨X, i, none⟩ v) B N gs := h.touch (S := fun x => x = X) (Touch.setCell (S := fun x => x = X) (Touch.refl _ _) rfl _) (fun k hk => by omega)
/-- One more is laid. -/
theorem MRs.step {W W1 : World} {B N k : Nat} {gs : List RsV} {gc : Int} {Pt : Option Addr} {gtn : Nat} {Qt : List Int} (h : MRs W B N gs) (hk : gs.length = k) (hkN : k < N) (b : Below W.heap.size W W1) (hs : RsK W1 W.heap.size ⟨gc, ⟨Pt, gtn, gtn, Qt⟩⟩) :
    MRs ((W1.setCell ⟨B, k * 2, none⟩ (.int .i64 gc)).setCell ⟨B, k * 2 + 1, none⟩ (.slice Pt gtn gtn)) B N (gs ++ [⟨gc, ⟨Pt, gtn, gtn, Qt⟩⟩]) := by
  have hB := h.lt
  obtain ⟨vs, h1, h2, h3⟩ := (h.below b).c
  have T : Touch (fun x => x = B) W1 ((W1.setCell ⟨B, k * 2, none⟩ (.int .i64 gc)).setCell ⟨B, k * 2 + 1, none⟩ (.slice Pt gtn gtn)) := ((Touch.refl (fun x => x = B) W1).setCell rfl _).setCell rfl _
  refine ⟨⟨putRs vs (k * 2) (.int .i64 gc) (.slice Pt gtn gtn), ((h1).set _ _).set _ _, by rw [putRs_len]; exact h2, fun i hi r hr => ?_⟩, fun i hi => ?_⟩
  · rw [List.length_append, hk] at hi
    simp only [List.length_cons, List.length_nil] at hi
    by_cases e : i = k
    · subst e
      rw [putRs_at _ _ _ _ (by rw [h2]; omega) r hr, List.getElem?_append_right (by omega), hk]
      simp [RsV.cs, IV.v]
    · rw [putRs_ne _ _ _ _ _ (by omega), List.getElem?_append_left (by omega)]
      exact h3 i (by omega) r hr
  · rw [List.length_append, hk] at hi
    simp only [List.length_cons, List.length_nil] at hi
    by_cases e : i = k
    · subst e
      rw [List.getElem?_append_right (by omega), hk]
      simp only [Nat.sub_self, List.getElem?_cons_zero, Option.getD_some]
      exact (hs.mono (by omega)).touch T (fun x hx => by omega)
    · rw [List.getElem?_append_left (by omega)]
      exact ((h.l i (by omega)).below b).touch T (fun x hx => by omega)

/-- Each holds what the other does. -/
def copiesRsS (fs gs : List RsV) : Prop := ∀ i, i < gs.length → copiesRs (fs[i]?.getD noRs) (gs[i]?.getD noRs)

theorem Tryz.infoResResult : (Tryz.prog.info? 54).map (fun i => (i.zero, i.size, i.bytes)) = some (some (.agg #[.int .i64 0, .slice none 0 0]), 2, 32) := by kernel_rfl

set_option maxHeartbeats 1600000 in
/-- Held against a slice that holds the same. -/
theorem eqRsS_same (ad ae : Option Addr) (N cap cap' : Nat) (fs gs : List RsV) (w : World) (hN : fs.length = N) (hM : gs.length = N) (hF : RsSG w ad fs) (hG : RsSG w ae gs) (hN1 : N ≤ 1048576)
    (hsame : ∀ i, i < N → sameRs (fs[i]?.getD noRs) (gs[i]?.getD noRs)) :
    Calls Tryz.prog 30 #[.slice ad N cap, .slice ae N cap'] w fun e w' => e = .returned (.bool true) ∧ Below w.heap.size w w' := by
  have HN : Hid (fs.length = N) := hN
  have HM : Hid (gs.length = N) := hM
  have HS : Hid _ := hsame
  clear hN hM hsame
  go_enter Tryz.func30, Tryz.ntmps30
  go_wp2_with fail
  go_loopw [5] (fun i wr => ∃ k : Nat, k ≤ N ∧ i = .int .i64 k ∧ Below w.heap.size w wr) (fun i _ => N - (intOf i).toNat)
  case atStart => exact ⟨0, Nat.zero_le _, rfl, Below.refl _ _⟩
  case round =>
    obtain ⟨k, hk, rfl, hb⟩ := hrel
    by_cases hlt : k < N
    · obtain ⟨b, off, rfl, hc, hr⟩ := (hF.below hb) k (by rw [HN.out]; exact hlt)
      obtain ⟨b', off', rfl, hc', hr'⟩ := (hG.below hb) k (by rw [HM.out]; exact hlt)
      have hs := HS.out k hlt
      generalize HG1 : fs[k]?.getD noRs = fe at *
      generalize HG2 : gs[k]?.getD noRs = g at *
      clear HG1 HG2 hF hG
      obtain ⟨e0, e1⟩ := cellsRs hc
      obtain ⟨fec, ⟨feta, fetn, fetc, fetx⟩⟩ := fe
      have e0' : wr.cell? ⟨b, off + k * 2, none⟩ = some (.int .i64 fec) := e0
      have e1' : wr.cell? ⟨b, off + k * 2 + 1, none⟩ = some (.slice feta fetn fetc) := e1
      clear e0 e1 hc
      obtain ⟨d0, d1⟩ := cellsRs hc'
      obtain ⟨gc, ⟨gta, gtn, gtc, gtx⟩⟩ := g
      have d0' : wr.cell? ⟨b', off' + k * 2, none⟩ = some (.int .i64 gc) := d0
      have d1' : wr.cell? ⟨b', off' + k * 2 + 1, none⟩ = some (.slice gta gtn gtc) := d1
      clear d0 d1 hc'
      have hlt' : (k : Int) < (N : Int) := by omega
      go_wp2_with fail
      go_region_with (first | (go_at_call 79; refine (eqRs_ex _ _ _ _ fetx _ _ _ _ gtx _ (by exact hr.below (Below.refl _ _).drew) (by exact hr'.below (Below.refl _ _).drew) hs).mono ?_; rintro ee w1 ⟨rfl, b1⟩))
      all_goals
        have b1' := below_of_drew b1
        go_wp2
        go_roundw
        case rel => exact ⟨k + 1, by omega, by go_num, hb.trans (b1'.mono hb.size)⟩
        case measure => simp [intOf]; omega
    · go_wp2
      go_ret
      exact ⟨rfl, hb⟩

end Go.Proofs.YtpmihhbgjimpmaaGreatDoor
