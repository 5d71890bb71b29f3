/-
  Slices of slices of lines: the size, a copy, one held against another. Lengths at most 1048576 where one is copied.
-/
import Derived.Test.YtmhhphpihnkfpaaDoorAct
import Derived.Test.YtmhhphpihnkfpaaDoorOpenS
namespace Go.Proofs.YtmhhphpihnkfpaaDoor
open Go.ChangeShapes Go.WideShapes Go.ChangeAt Go.RowKit Go.Joins Go.Deep
set_option linter.unusedVariables false
set_option maxRecDepth 100000

/-- A slice, and what it holds. -/
structure L2V where
  a : Option Addr
  n : Nat
  cap : Nat
  x : List LV
def noL : L2V := ⟨none, 0, 0, []⟩
def L2V.v (s : L2V) : Value := .slice s.a s.n s.cap

theorem trod_lenL {H : Type} {enc : TypeId × Value → H} {W : World} {fuel : Nat} {t e : TypeId} {cs : List Value} {x : DataW H × List MemPlace} (hS : Tryd.prog.underlying t = some (.slice e)) (hf : DataW.trod enc Tryd.prog W 0 (fun _ => true) true fuel t cs = some x) : cs.length = 1 := by
  rcases open_slice hS hf with ⟨h, _⟩ | ⟨a, len, cap, m, n, D, Pl, h, _⟩ <;> rw [h] <;> rfl

def LM (w : World) (s : L2V) : Prop := s.x.length = s.n ∧ LinesM w s.a s.x ∧ s.n ≤ maxLen
def LG (w : World) (s : L2V) : Prop := s.x.length = s.n ∧ LinesG w s.a s.x ∧ s.n ≤ 1048576
def LS (s : L2V) : Prop := s.n ≤ 1048576 ∧ ∀ i, i < s.x.length → (s.x[i]?.getD noLV).f.n ≤ 1048576 ∧ (s.x[i]?.getD noLV).f.m ≤ 1048576
def LK (w : World) (lo : Nat) (s : L2V) : Prop := ∃ B l p q, s.a = some ⟨B, 0, none⟩ ∧ lo ≤ B ∧ ML w B l s.n s.x p q ∧ s.x.length = s.n ∧ s.n ≤ 1048576
def copiesL2 (s t : L2V) : Prop := t.n = s.n ∧ t.x.length = s.x.length ∧ copiesL s.x t.x
def sameL2 (s t : L2V) : Prop := s.n = t.n ∧ ∀ i, i < s.n → sameL (s.x[i]?.getD noLV) (t.x[i]?.getD noLV)
theorem LM.below {w w' : World} {s : L2V} (h : LM w s) (hb : Below w.heap.size w w') : LM w' s := ⟨h.1, h.2.1.below hb, h.2.2⟩
theorem LG.below {w w' : World} {s : L2V} (h : LG w s) (hb : Below w.heap.size w w') : LG w' s := ⟨h.1, h.2.1.below hb, h.2.2⟩
theorem LM.g {w : World} {s : L2V} (h : LM w s) (hs : LS s) : LG w s := ⟨h.1, h.2.1.g hs.2, hs.1⟩
theorem ML.touch {S : Nat → Prop} {W W' : World} {B lo N : Nat} {gs : List LV} {p q : Nat → Nat} (h : ML W B lo N gs p q) (t : Touch S W W') (hs : ∀ k, S k → k < B) : ML W' B lo N gs p q := by
  obtain ⟨vs, h1, h2, h3⟩ := h.c
  have hb := h.b
  refine ⟨⟨vs, by rw [t.block B (lt_of_block h1) (fun hh => by have := hs _ hh; omega)]; exact h1, h2, h3⟩, fun i hi => ?_, h.b, Nat.le_trans h.s t.size⟩
  obtain ⟨a2, a3, a4, a5, a6, a7, a8, a9, a10, a11, a12, a13⟩ := h.l i hi
  have k1 : Blk W' (p i) (gs[i]?.getD noLV).f.C := by unfold Blk at *; rw [t.block _ (lt_of_block a4) (fun hh => by have := hs _ hh; omega)]; exact a4
  have k2 : Blk W' (q i) (gs[i]?.getD noLV).f.D := by unfold Blk at *; rw [t.block _ (lt_of_block a5) (fun hh => by have := hs _ hh; omega)]; exact a5
  exact ⟨a2, a3, k1, k2, a6, a7, a8, a9, a10, a11, Nat.lt_of_lt_of_le a12 t.size, a13⟩
theorem LK.below {w w' : World} {lo : Nat} {s : L2V} (h : LK w lo s) (hb : Below w.heap.size w w') : LK w' lo s := by
  obtain ⟨B, l, p, q, h1, h2, h3, h4⟩ := h
  exact ⟨B, l, p, q, h1, h2, h3.below hb, h4⟩
theorem LK.touch {S : Nat → Prop} {w w' : World} {lo : Nat} {s : L2V} (h : LK w lo s) (t : Touch S w w') (hs : ∀ k, S k → k < lo) : LK w' lo s := by
  obtain ⟨B, l, p, q, h1, h2, h3, h4⟩ := h
  exact ⟨B, l, p, q, h1, h2, h3.touch t (fun k hk => by have := hs k hk; omega), h4⟩
theorem LK.mono {w : World} {lo lo' : Nat} {s : L2V} (h : LK w lo s) (hl : lo' ≤ lo) : LK w lo' s := by
  obtain ⟨B, l, p, q, h1, h2, h3⟩ := h
  exact ⟨B, l, p, q, h1, by omega, h3⟩
theorem LK.g {w : World} {lo : Nat} {s : L2V} (h : LK w lo s) : LG w s := by
  obtain ⟨B, l, p, q, h1, h2, h3, h4, h5⟩ := h
  refine ⟨h4, ?_, h5⟩
  rw [h1]; exact h3.g
theorem open_L1 {H : Type} {enc : TypeId × Value → H} {W : World} {fuel : Nat} {v : Value} {y : DataW H × List MemPlace}
    (hf : DataW.trod enc Tryd.prog W 0 (fun _ => true) true fuel 56 [v] = some y) : ∃ s : L2V, v = s.v ∧ LM W s := by
  obtain ⟨a, n, cap, zs, rfl, h1, h2, h3⟩ := open_linesC hf
  exact ⟨⟨a, n, cap, zs⟩, rfl, h1, h2, h3⟩
theorem szL_ex (a : Option Addr) (n cap : Nat) (x : List LV) (l : Int) (w : World) (h : LM w ⟨a, n, cap, x⟩) (h0 : 0 ≤ l) (hl : l ≤ 1048576) :
    Calls Tryd.prog 29 #[.slice a n cap, .int .i64 l] w fun e w' => ∃ r, e = .returned (.int .i64 r) ∧ -1 ≤ r ∧ r ≤ 1048576 ∧ (0 ≤ r → LS ⟨a, n, cap, x⟩) ∧ Below w.heap.size w w' :=
  szLS_any a n cap x l w h.1 h.2.1 h.2.2 h0 hl
theorem toL_ex (a : Option Addr) (n cap : Nat) (x : List LV) (w : World) (h : LG w ⟨a, n, cap, x⟩) :
    Calls Tryd.prog 36 #[.slice a n cap] w fun e w' => ∃ a2 x2, e = .returned (.slice a2 n n) ∧ Below w.heap.size w w' ∧ LK w' w.heap.size ⟨a2, n, n, x2⟩ ∧ copiesL2 ⟨a, n, cap, x⟩ ⟨a2, n, n, x2⟩ := by
  refine (toLS_any a n cap x w h.1 h.2.1 h.2.2).mono ?_
  rintro e w' ⟨gs, p, q, rfl, h1, h2, b, m⟩
  exact ⟨_, gs, rfl, b, ⟨_, _, p, q, rfl, Nat.le_refl _, m, h1, h.2.2⟩, rfl, by rw [h1]; exact h.1.symm, h2⟩
theorem eqL_ex (a : Option Addr) (n cap : Nat) (x : List LV) (c : Option Addr) (m cap' : Nat) (y : List LV) (w : World) (h : LG w ⟨a, n, cap, x⟩) (h' : LG w ⟨c, m, cap', y⟩) (hs : sameL2 ⟨a, n, cap, x⟩ ⟨c, m, cap', y⟩) :
    Calls Tryd.prog 44 #[.slice a n cap, .slice c m cap'] w fun e w' => e = .returned (.bool true) ∧ Below w.heap.size w w' := by
  obtain ⟨h1, h2⟩ := hs
  have h1' : n = m := h1
  subst h1'
  exact eqLS_same a c n cap cap' x y w h.1 h'.1 h.2.1 h'.2.1 h.2.2 h2

/-- A slice of slices that came in. -/
def LSM (w : World) (ad : Option Addr) (ss : List L2V) : Prop :=
  ∀ i, i < ss.length → ∃ b off, ad = some ⟨b, off, none⟩ ∧ w.cell? ⟨b, off + i, none⟩ = some (ss[i]?.getD noL).v ∧ LM w (ss[i]?.getD noL)
/-- One that may be copied. -/
def LSG (w : World) (ad : Option Addr) (ss : List L2V) : Prop :=
  ∀ i, i < ss.length → ∃ b off, ad = some ⟨b, off, none⟩ ∧ w.cell? ⟨b, off + i, none⟩ = some (ss[i]?.getD noL).v ∧ LG w (ss[i]?.getD noL)
theorem LSM.below {w w' : World} {ad : Option Addr} {ss : List L2V} (h : LSM w ad ss) (hb : Below w.heap.size w w') : LSM w' ad ss := fun i hi => by
  obtain ⟨b, off, e, hc, hr⟩ := h i hi
  exact ⟨b, off, e, by rw [hb.cell (p := ⟨b, off + i, none⟩) (block_lt hc)]; exact hc, hr.below hb⟩
theorem LSG.below {w w' : World} {ad : Option Addr} {ss : List L2V} (h : LSG w ad ss) (hb : Below w.heap.size w w') : LSG w' ad ss := fun i hi => by
  obtain ⟨b, off, e, hc, hr⟩ := h i hi
  exact ⟨b, off, e, by rw [hb.cell (p := ⟨b, off + i, none⟩) (block_lt hc)]; exact hc, hr.below hb⟩
theorem LSM.g {w : World} {ad : Option Addr} {ss : List L2V} (h : LSM w ad ss) (hs : ∀ i, i < ss.length → LS (ss[i]?.getD noL)) : LSG w ad ss := fun i hi => by
  obtain ⟨b, off, e, hc, hr⟩ := h i hi
  exact ⟨b, off, e, hc, hr.g (hs i hi)⟩

theorem open_LS {H : Type} {enc : TypeId × Value → H} {W : World} {r : Reach} {b0 : Nat} {v : Value} {d : DataW H} {p : List MemPlace}
    (hv : Value.okWide Tryd.prog W r b0 22 v) (h : DataW.Trod enc Tryd.prog W 0 (fun _ => true) true 22 v d p) :
    ∃ ad N cap ss, v = .slice ad N cap ∧ ss.length = N ∧ LSM W ad ss ∧ N ≤ maxLen := by
  obtain ⟨ad, N, cap, ss, hv, hl, hN, hall⟩ := open_sliceT noL (fun s => [L2V.v s]) (fun s => LM W s) (c := 1) (by omega) Tryd.underlying22 (by kernel_rfl) (fun _ => rfl) (fun fuel cs x hx => by
    have hl : cs.length = 1 := (trod_lenL Tryd.underlying56 hx)
    match cs, hl with
    | [c], _ =>
      obtain ⟨s, hs, hr⟩ := open_L1 hx
      exact ⟨s, by rw [hs], hr⟩) hv h
  refine ⟨ad, N, cap, ss, hv, hl, fun i hi => ?_, hN⟩
  obtain ⟨b, off, e, hc, hr⟩ := hall i hi
  have h0 := hc 0 (by omega)
  simp only [Nat.mul_one, Nat.add_zero, List.getElem?_cons_zero] at h0
  exact ⟨b, off, e, h0, hr⟩

set_option maxHeartbeats 800000 in
theorem szL2S_any (ad : Option Addr) (N cap : Nat) (ss : List L2V) (l : Int) (w : World) (hN : ss.length = N) (hF : LSM w ad ss) (hN1 : N ≤ maxLen) (h0 : 0 ≤ l) (hl : l ≤ 1048576) :
    Calls Tryd.prog 13 #[.slice ad N cap, .int .i64 l] w fun e w' => ∃ r, e = .returned (.int .i64 r) ∧ -1 ≤ r ∧ r ≤ 1048576 ∧ (0 ≤ r → N ≤ 1048576 ∧ ∀ i, i < ss.length → LS (ss[i]?.getD noL)) ∧ Below w.heap.size w w' := by
  have HN : Hid (ss.length = N) := hN
  clear hN
  unfold maxLen at hN1
  by_cases h : l < N
  · go_enter Tryd.func13, Tryd.ntmps13
    go_wp2
    go_ret
    exact ⟨-1, rfl, by omega, by omega, fun h => by omega, Below.refl _ _⟩
  · have hN2 : N ≤ 1048576 := by omega
    have h' : (N : Int) ≤ l := by omega
    go_enter Tryd.func13, Tryd.ntmps13
    go_wp2_with fail
    go_loopw [1, 5] (fun lv i wr => ∃ k : Nat, k ≤ N ∧ i = .int .i64 k ∧ ∃ x : Int, lv = .int .i64 x ∧ 0 ≤ x ∧ x ≤ 1048576 ∧ Below w.heap.size w wr ∧ ∀ i, i < k → LS (ss[i]?.getD noL)) (fun _ i _ => N - (intOf i).toNat)
    case atStart => exact ⟨0, Nat.zero_le _, rfl, _, rfl, by omega, by omega, Below.refl _ _, fun i hi => by omega⟩
    case round =>
      obtain ⟨k, hk, rfl, x, rfl, hx0, hx1, hb, hall⟩ := hrel
      have HA : Hid _ := hall
      clear hall
      by_cases hlt : k < N
      · obtain ⟨b, off, rfl, hc, hr⟩ := (hF.below hb) k (by rw [HN.out]; exact hlt)
        generalize HG : ss[k]?.getD noL = g at *
        have HG' : Hid (ss[k]?.getD noL = g) := HG
        clear HG hF
        obtain ⟨ga, gn, gcap, gx⟩ := g
        have hc' : wr.cell? ⟨b, off + k, none⟩ = some (.slice ga gn gcap) := hc
        clear hc
        go_wp2_with fail
        refine (szL_ex _ _ _ gx _ _ hr hx0 hx1).mono ?_
        rintro e w1 ⟨r, rfl, r0, r1, r2, b1⟩
        by_cases hz : r < 0
        · go_wp2
          go_ret
          exact ⟨-1, rfl, by omega, by omega, fun h => by omega, hb.trans (b1.mono hb.size)⟩
        · have hz0 : 0 ≤ r := by omega
          have HA2 : Hid (∀ i, i < k + 1 → LS (ss[i]?.getD noL)) := fun i hi => by
            by_cases hik : i < k
            · exact HA.out i hik
            · obtain rfl : i = k := by omega
              rw [HG'.out]; exact r2 hz0
          clear r2
          go_wp2
          go_roundw
          case rel => exact ⟨k + 1, by omega, by go_num, _, rfl, hz0, r1, hb.trans (b1.mono hb.size), HA2.out⟩
          case measure => simp [intOf]; omega
      · obtain rfl : k = N := by omega
        go_wp2
        go_ret
        exact ⟨x, rfl, by omega, by omega, fun _ => ⟨hN2, fun i hi => HA.out i (by rw [← HN.out]; exact hi)⟩, hb⟩

/-- Each holds what the other does. -/
def copiesL2S (ss ts : List L2V) : Prop := ∀ i, i < ts.length → copiesL2 (ss[i]?.getD noL) (ts[i]?.getD noL)

/-- All that a slice of lines holds lies in blocks from lo on, and below hi. -/
def InR (lo hi : Nat) (s : L2V) : Prop := (∀ b, s.a = some ⟨b, 0, none⟩ → lo ≤ b ∧ b < hi) ∧ ∀ k, k < s.x.length → ∀ b, (s.x[k]?.getD noLV).f.c = some ⟨b, 0, none⟩ → b < hi
theorem LK.inR {w : World} {lo : Nat} {s : L2V} (h : LK w lo s) : InR lo w.heap.size s := by
  obtain ⟨B, l, p, q, h1, h2, h3, h4, h5⟩ := h
  refine ⟨fun b e => ?_, fun k hk b e => ?_⟩
  · rw [h1] at e
    simp only [Option.some.injEq, Addr.mk.injEq, and_true] at e
    have := h3.lt
    omega
  · obtain ⟨a2, a3, a4, a5, a6, a7, a8, a9, a10, a11, a12, a13⟩ := h3.l k hk
    rw [a3] at e
    simp only [Option.some.injEq, Addr.mk.injEq, and_true] at e
    omega

/-- Block B holds N slices, of which those of ts have been laid. -/
structure ML2 (W : World) (B N : Nat) (ts : List L2V) : Prop where
  c : ∃ vs : List Value, Cel W B vs 43 ∧ vs.length = N ∧ ∀ i, i < ts.length → vs[i]? = some (ts[i]?.getD noL).v
  l : ∀ i, i < ts.length → LK W (B + 1) (ts[i]?.getD noL)
  d : ∃ c : Nat → Nat, B < c 0 ∧ c ts.length ≤ W.heap.size ∧ ∀ i, i < ts.length → c i ≤ c (i + 1) ∧ InR (c i) (c (i + 1)) (ts[i]?.getD noL)
theorem ML2.lt {W : World} {B N : Nat} {ts : List L2V} (h : ML2 W B N ts) : B < W.heap.size := by
  obtain ⟨vs, h1, _⟩ := h.c
  exact h1.lt
theorem ML2.below {W W' : World} {B N : Nat} {ts : List L2V} (h : ML2 W B N ts) (b : Below W.heap.size W W') : ML2 W' B N ts := by
  obtain ⟨vs, h1, h2, h3⟩ := h.c
  obtain ⟨c, c1, c2, c3⟩ := h.d
  exact ⟨⟨vs, h1.below b, h2, h3⟩, fun i hi => (h.l i hi).below b, c, c1, Nat.le_trans c2 b.size, c3⟩
theorem ML2.g {W : World} {B N : Nat} {ts : List L2V} (h : ML2 W B N ts) : LSG W (some ⟨B, 0, none⟩) ts := fun i hi => by
  obtain ⟨vs, h1, h2, h3⟩ := h.c
  exact ⟨B, 0, rfl, by rw [Nat.zero_add, h1.cell i, h3 i hi], (h.l i hi).g⟩
theorem ML2.step {W W1 : World} {B N k : Nat} {ts : List L2V} {s : L2V} (h : ML2 W B N ts) (hk : ts.length = k) (hkN : k < N) (b : Below W.heap.size W W1) (hs : LK W1 W.heap.size s) : ML2 (W1.setCell ⟨B, k, none⟩ s.v) B N (ts ++ [s]) := by
  have hB := h.lt
  obtain ⟨vs, h1, h2, h3⟩ := (h.below b).c
  have T : Touch (fun x => x = B) W1 (W1.setCell ⟨B, k, none⟩ s.v) := Touch.setCell (S := fun x => x = B) (Touch.refl _ _) rfl _
  refine ⟨⟨vs.set k s.v, h1.set _ _, by rw [List.length_set]; exact h2, fun i hi => ?_⟩, fun i hi => ?_, ?_⟩
  · rw [List.length_append, hk] at hi
    simp only [List.length_cons, List.length_nil] at hi
    by_cases e : i = k
    · subst e
      rw [List.getElem?_set_self (by omega), List.getElem?_append_right (by omega), hk]; simp
    · rw [List.getElem?_set_ne (by omega), List.getElem?_append_left (by omega)]
      exact h3 i (by omega)
  · rw [List.length_append, hk] at hi
    simp only [List.length_cons, List.length_nil] at hi
    by_cases e : i = k
    · subst e
      rw [List.getElem?_append_right (by omega), hk]
      simp only [Nat.sub_self, List.getElem?_cons_zero, Option.getD_some]
      exact (hs.mono (by omega)).touch T (fun x hx => by omega)
    · rw [List.getElem?_append_left (by omega)]
      exact (((h.l i (by omega)).below b)).touch T (fun x hx => by omega)
  · obtain ⟨c, c1, c2, c3⟩ := h.d
    have hb := b.size
    rw [hk] at c2 c3
    refine ⟨fun i => if i ≤ k then (if i = k then W.heap.size else c i) else W1.heap.size, ?_, ?_, fun i hi => ?_⟩
    · simp only [Nat.zero_le, if_true]
      split
      · exact hB
      · exact c1
    · rw [List.length_append, hk, size_setCell]
      simp only [List.length_cons, List.length_nil]
      rw [if_neg (by omega)]
      exact Nat.le_refl _
    · rw [List.length_append, hk] at hi
      simp only [List.length_cons, List.length_nil] at hi
      dsimp only
      by_cases e : i = k
      · subst e
        rw [if_pos (Nat.le_refl _), if_pos rfl, if_neg (by omega), List.getElem?_append_right (by omega), hk]
        simp only [Nat.sub_self, List.getElem?_cons_zero, Option.getD_some]
        exact ⟨hb, hs.inR⟩
      · obtain ⟨d1, d2⟩ := c3 i (by omega)
        rw [if_pos (by omega), if_neg e, if_pos (by omega), List.getElem?_append_left (by omega)]
        by_cases e2 : i + 1 = k
        · rw [if_pos e2]
          rw [e2] at d1 d2
          exact ⟨Nat.le_trans d1 c2, ⟨fun b hb => ⟨(d2.1 b hb).1, Nat.lt_of_lt_of_le (d2.1 b hb).2 c2⟩, fun j hj b hb => Nat.lt_of_lt_of_le (d2.2 j hj b hb) c2⟩⟩
        · rw [if_neg e2]
          exact ⟨d1, d2⟩

theorem Tryd.infoL2 : (Tryd.prog.info? 43).map (fun i => (i.zero, i.size, i.bytes)) = some (some (.slice none 0 0), 1, 24) := by kernel_rfl

set_option maxHeartbeats 1600000 in
theorem toL2S_any (ad : Option Addr) (N cap : Nat) (ss : List L2V) (w : World) (hN : ss.length = N) (hF : LSG w ad ss) (hN1 : N ≤ 1048576) :
    Calls Tryd.prog 19 #[.slice ad N cap] w fun e w' => ∃ ts, e = .returned (.slice (some ⟨w.heap.size, 0, none⟩) N N) ∧ ts.length = N ∧ copiesL2S ss ts ∧ Below w.heap.size w w' ∧ ML2 w' w.heap.size N ts := by
  have HN : Hid (ss.length = N) := hN
  clear hN
  obtain ⟨i0, hi, hz0, hz1, hz2⟩ := info_parts Tryd.infoL2
  go_enter Tryd.func19, Tryd.ntmps19
  go_wp2_with (at_make; refine wpList_make_full _ rfl (.tmp 6) (.tmp 6) 29 rfl w.heap.size 43 i0 (.slice none 0 0) 1 Tryd.underlying29 hi hz0 hz1 .i64 .i64 _ _ N rfl rfl rfl rfl (by rw [hz2]; omega) (by unfold maxLen; omega) (Nat.le_refl _) ?_; intro w1 hown hgrow)
  have hb1 : Below w.heap.size w w1 := (Below.refl _ _).grown hgrow (Nat.le_refl _) (by simp)
  have m0 : ML2 w1 w.heap.size N [] := by
    rcases hown.2 with ⟨h', _⟩ | ⟨g', cap', cur, h', _, hg, _, _, hcs, htake⟩
    · simp at h'
    · simp only [Value.slice.injEq, Option.some.injEq, Addr.mk.injEq, and_true, true_and] at h'
      obtain ⟨rfl, rfl⟩ := h'
      exact ⟨⟨cur.toList, by unfold Cel; rw [hg], by simpa using hcs, fun i hi => by simp at hi⟩, fun i hi => by simp at hi, fun _ => w.heap.size + 1, Nat.lt_succ_self _, lt_of_block hg, fun i hi => by simp at hi⟩
  clear hown hgrow hi hz0 hz1 hz2
  go_loopw [4] (fun i wr => ∃ k : Nat, k ≤ N ∧ i = .int .i64 k ∧ Below w.heap.size w wr ∧ ∃ ts, ts.length = k ∧ copiesL2S ss ts ∧ ML2 wr w.heap.size N ts) (fun i _ => N - (intOf i).toNat)
  case atStart => exact ⟨0, Nat.zero_le _, rfl, hb1, [], rfl, fun i hi => by simp at hi, m0⟩
  case round =>
    clear hb1 m0
    obtain ⟨k, hk, rfl, hb, ts, hts, hcp, hm⟩ := hrel
    have HTS : Hid (ts.length = k) := hts
    have HCP : Hid (copiesL2S ss ts) := hcp
    clear hts hcp
    by_cases hlt : k < N
    · obtain ⟨b, off, rfl, hc, hr⟩ := (hF.below hb) k (by rw [HN.out]; exact hlt)
      generalize HG : ss[k]?.getD noL = g at *
      have HG' : Hid (ss[k]?.getD noL = g) := HG
      clear HG hF
      obtain ⟨ga, gn, gcap, gx⟩ := g
      have hc' : wr.cell? ⟨b, off + k, none⟩ = some (.slice ga gn gcap) := hc
      clear hc
      go_wp2_with fail
      refine (toL_ex _ _ _ gx _ hr).mono ?_
      rintro ee w2 ⟨a2, x2, rfl, b2, hK, hcp2⟩
      have ms := hm.step HTS.out hlt b2 hK
      obtain ⟨vs, v1, v2, v3⟩ := (hm.below b2).c
      obtain ⟨y, hy⟩ : ∃ y, w2.cell? ⟨w.heap.size, k, none⟩ = some y := ⟨_, (v1.cell k).trans (List.getElem?_eq_getElem (by rw [v2]; exact hlt))⟩
      have hfy := v1.free k
      have hb2 := hb.trans (b2.mono hb.size)
      have RB := hb2.setCell (p := ⟨w.heap.size, k, none⟩) (Nat.le_refl _) (.slice a2 gn gn)
      have CP : copiesL2S ss (ts ++ [⟨a2, gn, gn, x2⟩]) := fun i hi => by
        rw [List.length_append, HTS.out] at hi
        simp only [List.length_cons, List.length_nil] at hi
        by_cases e : i = k
        · subst e
          rw [List.getElem?_append_right (by rw [HTS.out]; exact Nat.le_refl _), HTS.out, HG'.out]
          simpa using hcp2
        · rw [List.getElem?_append_left (by rw [HTS.out]; omega)]
          exact HCP.out i (by rw [HTS.out]; omega)
      have HCP2 : Hid _ := CP
      have ms' : ML2 (w2.setCell ⟨w.heap.size, k, none⟩ (.slice a2 gn gn)) w.heap.size N (ts ++ [⟨a2, gn, gn, x2⟩]) := ms
      clear hm b2 hb hb2 v1 v2 v3 CP hr hcp2 hK ms
      go_wp2
      go_roundw
      case rel => exact ⟨k + 1, by omega, by go_num, RB, _, by rw [List.length_append, HTS.out]; rfl, HCP2.out, ms'⟩
      case measure => simp [intOf]; omega
    · obtain rfl : k = N := by omega
      go_wp2
      go_ret
      exact ⟨ts, rfl, HTS.out, HCP.out, hb, hm⟩

set_option maxHeartbeats 1600000 in
/-- Held against a slice that holds the same. -/
theorem eqL2S_same (ad ae : Option Addr) (N cap cap' : Nat) (fs gs : List L2V) (w : World) (hN : fs.length = N) (hM : gs.length = N) (hF : LSG w ad fs) (hG : LSG w ae gs) (hN1 : N ≤ 1048576)
    (hsame : ∀ i, i < N → sameL2 (fs[i]?.getD noL) (gs[i]?.getD noL)) :
    Calls Tryd.prog 24 #[.slice ad N cap, .slice ae N cap'] w fun e w' => e = .returned (.bool true) ∧ Below w.heap.size w w' := by
  have HN : Hid (fs.length = N) := hN
  have HM : Hid (gs.length = N) := hM
  have HS : Hid _ := hsame
  clear hN hM hsame
  go_enter Tryd.func24, Tryd.ntmps24
  go_wp2_with fail
  go_loopw [5] (fun i wr => ∃ k : Nat, k ≤ N ∧ i = .int .i64 k ∧ Below w.heap.size w wr) (fun i _ => N - (intOf i).toNat)
  case atStart => exact ⟨0, Nat.zero_le _, rfl, Below.refl _ _⟩
  case round =>
    obtain ⟨k, hk, rfl, hb⟩ := hrel
    by_cases hlt : k < N
    · obtain ⟨b, off, rfl, hc, hr⟩ := (hF.below hb) k (by rw [HN.out]; exact hlt)
      obtain ⟨b', off', rfl, hc', hr'⟩ := (hG.below hb) k (by rw [HM.out]; exact hlt)
      have hs := HS.out k hlt
      generalize HG1 : fs[k]?.getD noL = f at *
      generalize HG2 : gs[k]?.getD noL = g at *
      clear HG1 HG2 hF hG
      obtain ⟨fa, fn, fcap, fx⟩ := f
      obtain ⟨ga, gn, gcap, gx⟩ := g
      have d1 : wr.cell? ⟨b, off + k, none⟩ = some (.slice fa fn fcap) := hc
      have d2 : wr.cell? ⟨b', off' + k, none⟩ = some (.slice ga gn gcap) := hc'
      clear hc hc'
      have hlt' : (k : Int) < (N : Int) := by omega
      go_wp2_with fail
      go_region_with (first | (go_at_call 44; refine (eqL_ex _ _ _ fx _ _ _ gx _ (by exact hr.below (Below.refl _ _).drew) (by exact hr'.below (Below.refl _ _).drew) hs).mono ?_; rintro ee w1 ⟨rfl, b1⟩))
      all_goals
        have b1' := below_of_drew b1
        go_wp2
        go_roundw
        case rel => exact ⟨k + 1, by omega, by go_num, hb.trans (b1'.mono hb.size)⟩
        case measure => simp [intOf]; omega
    · go_wp2
      go_ret
      exact ⟨rfl, hb⟩

end Go.Proofs.YtmhhphpihnkfpaaDoor
