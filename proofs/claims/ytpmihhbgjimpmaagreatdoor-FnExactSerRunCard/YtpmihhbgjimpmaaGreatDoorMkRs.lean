/-
  Slices of what came of acts in memory of their own: marked, and found again. At most 1048576 of them.
-/
import Derived.Test.YtpmihhbgjimpmaaGreatDoorResS
import Derived.Test.YtpmihhbgjimpmaaGreatDoorOwn0
import Derived.Test.YtpmihhbgjimpmaaGreatDoorMarks
namespace Go.Proofs.YtpmihhbgjimpmaaGreatDoor
open Go.RowKit Go.Deep
set_option linter.unusedVariables false
set_option maxRecDepth 100000

/-- The first n of block G, free to be written; each list in a block of its own. -/
structure RsL (W : World) (a : Option Addr) (G n : Nat) (f : Nat → RsV) (bs : Nat → Nat) : Prop where
  g : 0 < n → a = some ⟨G, 0, none⟩ ∧ ∃ cur : List Value, Cel W G cur 54 ∧ ∀ j, j < n → ∀ r, r < 2 → cur[j * 2 + r]? = (f j).cs[r]?
  l : ∀ j, j < n → OwnX W (f j).t.a (bs j) (f j).t.n (f j).t.x ∧ (0 < (f j).t.n → bs j ≠ G) ∧ (f j).t.n ≤ 1048576
  d : ∀ i j, i < n → j < n → i ≠ j → 0 < (f i).t.n → 0 < (f j).t.n → bs i ≠ bs j
theorem RsL.zero (W : World) (a : Option Addr) (G : Nat) (f : Nat → RsV) (bs : Nat → Nat) : RsL W a G 0 f bs := ⟨fun h => by omega, fun j hj => by omega, fun i j hi => by omega⟩
theorem RsL.lt {W : World} {a : Option Addr} {G n : Nat} {f : Nat → RsV} {bs : Nat → Nat} (h : RsL W a G n f bs) (hn : 0 < n) : G < W.heap.size := by
  obtain ⟨_, cur, hc, _⟩ := h.g hn
  exact hc.lt
theorem RsL.touch {S : Nat → Prop} {W W' : World} {a : Option Addr} {G n : Nat} {f : Nat → RsV} {bs : Nat → Nat} (h : RsL W a G n f bs) (t : Touch S W W') (hG : 0 < n → ¬ S G) (hb : ∀ j, j < n → 0 < (f j).t.n → ¬ S (bs j)) : RsL W' a G n f bs :=
  ⟨fun hn => by
    obtain ⟨e, cur, hc, hv⟩ := h.g hn
    exact ⟨e, cur, hc.touch t (hG hn), hv⟩, fun j hj => by
    obtain ⟨h1, h2, h3⟩ := h.l j hj
    exact ⟨h1.touch t (hb j hj), h2, h3⟩, h.d⟩
theorem RsL.below {W W' : World} {a : Option Addr} {G n : Nat} {f : Nat → RsV} {bs : Nat → Nat} (h : RsL W a G n f bs) (b : Below W.heap.size W W') : RsL W' a G n f bs := h.touch (S := fun _ => False) (Touch.of b) (fun _ h => h) (fun _ _ _ h => h)
theorem RsL.ext {W : World} {a : Option Addr} {G n : Nat} {f g : Nat → RsV} {bs : Nat → Nat} (h : RsL W a G n f bs) (e : ∀ i, i < n → f i = g i) : RsL W a G n g bs :=
  ⟨fun hn => by
    obtain ⟨e1, cur, hc, hv⟩ := h.g hn
    exact ⟨e1, cur, hc, fun j hj r hr => by rw [← e j hj]; exact hv j hj r hr⟩, fun j hj => by rw [← e j hj]; exact h.l j hj, fun i j hi hj hne h1 h2 => h.d i j hi hj hne (by rw [e i hi]; exact h1) (by rw [e j hj]; exact h2)⟩
theorem RsL.sg {W : World} {a : Option Addr} {G n : Nat} {fs : List RsV} {bs : Nat → Nat} (h : RsL W a G n (fun i => fs[i]?.getD noRs) bs) (hn : fs.length = n) : RsSG W a fs := fun i hi => by
  obtain ⟨e1, cur, hc, hv⟩ := h.g (by omega)
  obtain ⟨o, _, z⟩ := h.l i (by omega)
  exact ⟨G, 0, e1, fun r hr => by rw [Nat.zero_add, hc.cell]; exact hv i (by omega) r hr, ⟨o.ints, z⟩, trivial⟩
theorem RsL.at {W : World} {a : Option Addr} {G n : Nat} {f : Nat → RsV} {bs : Nat → Nat} (h : RsL W a G n f bs) {k : Nat} (hk : k < n) : a = some ⟨G, 0, none⟩ ∧ (∀ r, r < 2 → W.cell? ⟨G, k * 2 + r, none⟩ = (f k).cs[r]?) ∧ ∀ i, W.frozen? ⟨G, i, none⟩ = false := by
  obtain ⟨e1, cur, hc, hv⟩ := h.g (by omega)
  exact ⟨e1, fun r hr => (hc.cell _).trans (hv k hk r hr), fun i => hc.free i⟩
theorem RsL.put {W : World} {a : Option Addr} {G n : Nat} {f : Nat → RsV} {bs : Nat → Nat} (h : RsL W a G n f bs) {k : Nat} (hk : k < n) (y0 : Int) : RsL (W.setCell ⟨G, k * 2, none⟩ (.int .i64 y0)) a G n (fun i => if i = k then ⟨y0, (f k).t⟩ else f i) bs := by
  obtain ⟨e1, cur, hc, hv⟩ := h.g (by omega)
  have T : Touch (fun x => x = G) W (W.setCell ⟨G, k * 2, none⟩ (.int .i64 y0)) := (Touch.refl (fun x => x = G) W).setCell rfl _
  have hlen : k * 2 + 1 < cur.length := by
    have h2 := hv k hk 1 (by omega)
    have e : (f k).cs[1]? = some (f k).t.v := rfl
    rw [e] at h2
    exact (List.getElem?_eq_some_iff.1 h2).1
  refine ⟨fun _ => ⟨e1, _, (hc.set (k * 2) _), fun j hj r hr => ?_⟩, fun j hj => ?_, fun i j hi hj hne h1 h2 => ?_⟩
  · (try dsimp only)
    by_cases e : j = k
    · subst e
      rw [if_pos rfl]
      have hcase : r = 0 ∨ r = 1 := by omega
      rcases hcase with rfl | rfl
      · simp only [Nat.add_zero]
        rw [List.getElem?_set_self (by omega)]; rfl
      · rw [List.getElem?_set_ne (by omega)]; exact hv j hj 1 (by omega)
    · rw [if_neg e]
      have hr' : j * 2 + r < k * 2 ∨ k * 2 + 2 ≤ j * 2 + r := by
        rcases Nat.lt_or_gt_of_ne e with h | h
        · left; omega
        · right; omega
      rw [List.getElem?_set_ne (by omega)]
      exact hv j hj r hr
  · obtain ⟨h1, h2, h3⟩ := h.l j hj
    have hh := h1.touch T (fun h0 e => h2 h0 e)
    (try dsimp only)
    by_cases e : j = k
    · subst e; rw [if_pos rfl]; exact ⟨hh, h2, h3⟩
    · rw [if_neg e]; exact ⟨hh, h2, h3⟩
  · have e : ∀ i, (if i = k then (⟨y0, (f k).t⟩ : RsV) else f i).t = (f i).t := fun i => by
      by_cases e : i = k
      · subst e; rw [if_pos rfl]
      · rw [if_neg e]
    (try dsimp only at h1 h2)
    rw [e] at h1 h2
    exact h.d i j hi hj hne h1 h2

/-- How many marks lie ahead of one. -/
def offRs (f : Nat → RsV) : Nat → Nat
  | 0 => 0
  | j + 1 => offRs f j + (1 + (f j).t.n)
def mkRs (k0 : Int) (f : Nat → RsV) (i : Nat) : RsV := ⟨k0 + offRs f i, ⟨(f i).t.a, (f i).t.n, (f i).t.cap, ramp (k0 + offRs f i + 1) (f i).t.n⟩⟩
theorem offRs_mono (f : Nat → RsV) {i j : Nat} (h : i ≤ j) : offRs f i ≤ offRs f j := by
  induction h with
  | refl => exact Nat.le_refl _
  | step _ ih => simp only [offRs]; omega
theorem offRs_mk (k0 : Int) (f : Nat → RsV) (j : Nat) : offRs (mkRs k0 f) j = offRs f j := by
  induction j with
  | zero => rfl
  | succ j ih => simp only [offRs, ih, mkRs]

set_option maxHeartbeats 3200000 in
theorem markRsL_any (a : Option Addr) (G n cap : Nat) (f : Nat → RsV) (bs : Nat → Nat) (k0 : Int) (w : World) (h : RsL w a G n f bs) (hn : n ≤ 1048576) (hk0 : 0 ≤ k0) (hk : k0 + offRs f n ≤ 100000000000000) :
    Calls Tryz.prog 36 #[.slice a n cap, .int .i64 k0] w fun e w' => e = .returned (.int .i64 (k0 + offRs f n)) ∧ Touch (fun x => (0 < n ∧ x = G) ∨ ∃ j, j < n ∧ 0 < (f j).t.n ∧ x = bs j) w w' ∧ RsL w' a G n (mkRs k0 f) bs := by
  have H : Hid (RsL w a G n f bs) := h
  have HO : Hid (∀ i j, i ≤ j → offRs f i ≤ offRs f j) := fun i j h => offRs_mono f h
  have HK : Hid (k0 + offRs f n ≤ 100000000000000) := hk
  clear h hk
  go_enter Tryz.func36, Tryz.ntmps36
  go_wp2_with fail
  go_loopw [1, 5] (fun kv i wr => ∃ k : Nat, k ≤ n ∧ i = .int .i64 k ∧ kv = .int .i64 (k0 + offRs f k) ∧ Touch (fun x => (0 < n ∧ x = G) ∨ ∃ j, j < n ∧ 0 < (f j).t.n ∧ x = bs j) w wr ∧ RsL wr a G n (fun i => if i < k then mkRs k0 f i else f i) bs) (fun _ i _ => n - (intOf i).toNat)
  case atStart => exact ⟨0, Nat.zero_le _, rfl, by simp [offRs], Touch.refl _ _, H.out.ext (fun i _ => by simp)⟩
  case round =>
    obtain ⟨k, hk', rfl, rfl, t, d⟩ := hrel
    by_cases hlt : k < n
    · obtain ⟨ea, hcs, fz⟩ := d.at hlt
      have hl := (d.l k hlt)
      have efk : (if k < k then mkRs k0 f k else f k) = f k := if_neg (by omega)
      rw [efk] at hcs hl
      obtain ⟨o, hne, hz⟩ := hl
      subst ea
      obtain ⟨e0, e1⟩ := cellsRs hcs
      have b1 := HO.out (k + 1) n (by omega)
      have b2 : offRs f (k + 1) = offRs f k + (1 + (f k).t.n) := rfl
      have b3 := HK.out
      obtain ⟨kk, hkk⟩ : ∃ kk : Int, kk = k0 + offRs f k := ⟨_, rfl⟩
      have HKK : Hid _ := hkk
      have hkb : 0 ≤ kk ∧ kk ≤ 100000000000000 := by omega
      rw [← hkk]
      have dp := d.put hlt (kk)
      have T2 : Touch (fun x => (0 < n ∧ x = G) ∨ ∃ j, j < n ∧ 0 < (f j).t.n ∧ x = bs j) w (wr.setCell ⟨G, k * 2, none⟩ (.int .i64 (kk))) := (t.setCell (B := G) (Or.inl ⟨by omega, rfl⟩) _)
      have TG : Touch (fun x => x = G) wr (wr.setCell ⟨G, k * 2, none⟩ (.int .i64 (kk))) := (Touch.refl (fun x => x = G) wr).setCell rfl _
      have o' := o.touch TG (fun h0 e => hne h0 e)
      generalize hft : (f k).t = ft at *
      have HFT : Hid ((f k).t = ft) := hft
      obtain ⟨fa, fn, fc, fx⟩ := ft
      have e1' : wr.cell? ⟨G, k * 2 + 1, none⟩ = some (.slice fa fn fc) := e1
      have o2 : OwnX (wr.setCell ⟨G, k * 2, none⟩ (.int .i64 (kk))) fa (bs k) fn fx := o'
      have hz' : fn ≤ 1048576 := hz
      have hne' : 0 < fn → bs k ≠ G := hne
      have f0 := fz (k * 2)
      have hlt' : (k : Int) < (n : Int) := by omega
      obtain ⟨hkb1, hkb2⟩ := hkb
      clear o o' hz hne hft efk hcs fz b1 b2 b3 hkk e1
      go_wp2_with fail
      refine (markX_any _ _ _ (bs k) fx _ _ o2 hz' (by omega) (by omega)).mono ?_
      rintro ee w2 ⟨rfl, t2, o3⟩
      have T3 := T2.trans (t2.mono (T := fun x => (0 < n ∧ x = G) ∨ ∃ j, j < n ∧ 0 < (f j).t.n ∧ x = bs j) fun y hy => Or.inr ⟨k, hlt, by rw [HFT.out]; exact hy.2, hy.1⟩)
      have D3 : RsL w2 (some ⟨G, 0, none⟩) G n (fun i => if i < k + 1 then mkRs k0 f i else f i) bs := by
        refine ⟨fun hn0 => ?_, fun j hj => ?_, fun i j hi hj hij h1 h2 => ?_⟩
        · obtain ⟨e1, cur, hc, hv⟩ := dp.g hn0
          refine ⟨e1, cur, hc.touch t2 (fun hh => hne' hh.2 hh.1.symm), fun j hj r hr => ?_⟩
          have h1 := hv j hj r hr
          (try dsimp only at h1 ⊢)
          rw [h1]
          by_cases e : j = k
          · subst e
            have hk1 : (if j < j then mkRs k0 f j else f j) = f j := if_neg (by omega)
            have hk2 : (if j < j + 1 then mkRs k0 f j else f j) = mkRs k0 f j := if_pos (by omega)
            rw [hk1, hk2, if_pos (rfl : j = j), mkRs, ← HKK.out]
            simp only [RsV.cs, IV.v]
          · rw [if_neg e]
            by_cases e2 : j < k
            · rw [if_pos e2, if_pos (by omega)]
            · rw [if_neg e2, if_neg (by omega)]
        · have h1 := dp.l j hj
          (try dsimp only at h1 ⊢)
          by_cases e : j = k
          · subst e
            rw [if_pos (by omega)]
            refine ⟨?_, ?_, ?_⟩
            · show OwnX w2 (mkRs k0 f j).t.a (bs j) (mkRs k0 f j).t.n (mkRs k0 f j).t.x
              simp only [mkRs]
              rw [HFT.out, ← HKK.out]
              exact o3
            · simp only [mkRs]; rw [HFT.out]; exact hne'
            · simp only [mkRs]; rw [HFT.out]; exact hz'
          · rw [if_neg e] at h1
            have hx : (if j < k + 1 then mkRs k0 f j else f j) = (if j < k then mkRs k0 f j else f j) := by
              by_cases e2 : j < k
              · rw [if_pos e2, if_pos (by omega)]
              · rw [if_neg e2, if_neg (by omega)]
            rw [hx]
            refine ⟨h1.1.touch t2 (fun h0 hh => ?_), h1.2⟩
            have hd := d.d j k hj hlt e (by simpa using h0) (by
              have : (if k < k then mkRs k0 f k else f k) = f k := if_neg (by omega)
              rw [this, HFT.out]; exact hh.2)
            exact hd hh.1
        · have e : ∀ i, (if i < k + 1 then mkRs k0 f i else f i).t.n = (f i).t.n := fun i => by
            by_cases e : i < k + 1
            · rw [if_pos e]; rfl
            · rw [if_neg e]
          have e' : ∀ i, (if i < k then mkRs k0 f i else f i).t.n = (f i).t.n := fun i => by
            by_cases e : i < k
            · rw [if_pos e]; rfl
            · rw [if_neg e]
          (try dsimp only at h1 h2)
          rw [e] at h1 h2
          exact d.d i j hi hj hij (by rw [e']; exact h1) (by rw [e']; exact h2)
      have HE : Hid (k0 + (offRs f (k + 1) : Nat) = kk + 1 + fn) := by
        show _ = _
        have h1 : offRs f (k + 1) = offRs f k + (1 + (f k).t.n) := rfl
        have h2 : (f k).t.n = fn := by rw [HFT.out]
        rw [HKK.out, h1, h2]
        omega
      clear d dp t T2 TG t2 o3
      go_wp2
      go_roundw
      case rel => exact ⟨k + 1, by omega, by go_num, by rw [HE.out], T3, D3⟩
      case measure => simp [intOf]; omega
    · obtain rfl : k = n := by omega
      go_wp2
      go_ret
      exact ⟨rfl, t, d.ext (fun i hi => by rw [if_pos hi])⟩

set_option maxHeartbeats 3200000 in
theorem heldRsL_any (a : Option Addr) (G n cap : Nat) (f : Nat → RsV) (bs : Nat → Nat) (k0 : Int) (w : World) (h : RsL w a G n (mkRs k0 f) bs) (hn : n ≤ 1048576) (hk0 : 0 ≤ k0) (hk : k0 + offRs f n ≤ 100000000000000) :
    Calls Tryz.prog 38 #[.slice a n cap, .int .i64 k0] w fun e w' => e = .returned (.int .i64 (k0 + offRs f n)) ∧ w' = w := by
  have H : Hid (RsL w a G n (mkRs k0 f) bs) := h
  have HO : Hid (∀ i j, i ≤ j → offRs f i ≤ offRs f j) := fun i j h => offRs_mono f h
  have HK : Hid (k0 + offRs f n ≤ 100000000000000) := hk
  clear h hk
  go_enter Tryz.func38, Tryz.ntmps38
  go_wp2_with fail
  go_loopw [1, 5] (fun kv i wr => ∃ k : Nat, k ≤ n ∧ i = .int .i64 k ∧ kv = .int .i64 (k0 + offRs f k) ∧ wr = w) (fun _ i _ => n - (intOf i).toNat)
  case atStart => exact ⟨0, Nat.zero_le _, rfl, by simp [offRs], rfl⟩
  case round =>
    obtain ⟨k, hk', rfl, rfl, rfl⟩ := hrel
    by_cases hlt : k < n
    · obtain ⟨ea, hcs, -⟩ := H.out.at hlt
      obtain ⟨o, -, hz⟩ := H.out.l k hlt
      subst ea
      obtain ⟨e0, e1⟩ := cellsRs hcs
      have b1 := HO.out (k + 1) n (by omega)
      have b2 : offRs f (k + 1) = offRs f k + (1 + (f k).t.n) := rfl
      have b3 := HK.out
      simp only [mkRs] at e0 e1 o hz
      obtain ⟨kk, hkk⟩ : ∃ kk : Int, kk = k0 + offRs f k := ⟨_, rfl⟩
      have HKK : Hid _ := hkk
      have hkb : 0 ≤ kk ∧ kk ≤ 100000000000000 := by omega
      have hkn : 0 ≤ kk + 1 + (f k).t.n := by omega
      rw [← hkk] at e0 e1 o ⊢
      generalize hft : (f k).t = ft at *
      have HFT : Hid ((f k).t = ft) := hft
      obtain ⟨fa, fn, fc, fx⟩ := ft
      simp only [IV.v] at e1 o hz hkn
      have hi3 := o.ints
      have hlt' : (k : Int) < (n : Int) := by omega
      obtain ⟨hkb1, hkb2⟩ := hkb
      have HE : Hid (k0 + (offRs f (k + 1) : Nat) = kk + 1 + fn) := by
        show _ = _
        have h1 : offRs f (k + 1) = offRs f k + (1 + (f k).t.n) := rfl
        have h2 : (f k).t.n = fn := by rw [HFT.out]
        rw [HKK.out, h1, h2]
        omega
      clear hcs o hft b1 b2 b3 hkk
      go_wp2_with fail
      refine (held_any _ _ _ _ _ hi3 hz (by omega) (by omega)).mono ?_
      rintro ee w2 ⟨rfl, rfl⟩
      go_wp2
      go_roundw
      case rel => exact ⟨k + 1, by omega, by go_num, by rw [HE.out], trivial⟩
      case measure => simp [intOf]; omega
    · obtain rfl : k = n := by omega
      go_wp2
      go_ret
      exact ⟨rfl, rfl⟩

end Go.Proofs.YtpmihhbgjimpmaaGreatDoor
