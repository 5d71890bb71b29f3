/-
  Texts that the claim's last one rests on, behind one another: LineSS, Cat, BothA, Both, WayR, WayD.
-/
import Derived.Test.YtacjjhfbnbmnlaaGreatDoorPackD
import Derived.Test.YtacjjhfbnbmnlaaGreatDoorPackC
import Derived.Test.YtacjjhfbnbmnlaaGreatDoorPackF
import Derived.Deep.AppendLies
namespace Go.Proofs.YtacjjhfbnbmnlaaGreatDoor
open Go.ChangeShapes Go.WideShapes Go.ChangeAt Go.RowKit Go.Joins Go.Deep
set_option linter.unusedVariables false
set_option maxRecDepth 100000

/-- A slice, and what it holds. -/
structure L2V where
  a : Option Addr
  n : Nat
  cap : Nat
  x : List LV
def noL : L2V := ⟨none, 0, 0, []⟩
def L2V.v (s : L2V) : Value := .slice s.a s.n s.cap

theorem trod_lenL {H : Type} {enc : TypeId × Value → H} {W : World} {fuel : Nat} {t e : TypeId} {cs : List Value} {x : DataW H × List MemPlace} (hS : Tryz.prog.underlying t = some (.slice e)) (hf : DataW.trod enc Tryz.prog W 0 (fun _ => true) true fuel t cs = some x) : cs.length = 1 := by
  rcases open_slice hS hf with ⟨h, _⟩ | ⟨a, len, cap, m, n, D, Pl, h, _⟩ <;> rw [h] <;> rfl

def LM (w : World) (s : L2V) : Prop := s.x.length = s.n ∧ LinesM w s.a s.x ∧ s.n ≤ maxLen
def LG (w : World) (s : L2V) : Prop := s.x.length = s.n ∧ LinesG w s.a s.x ∧ s.n ≤ 1048576
def LS (s : L2V) : Prop := s.n ≤ 1048576 ∧ ∀ i, i < s.x.length → (s.x[i]?.getD noLV).f.n ≤ 1048576 ∧ (s.x[i]?.getD noLV).f.m ≤ 1048576
def LK (w : World) (lo : Nat) (s : L2V) : Prop := ∃ B l p q, s.a = some ⟨B, 0, none⟩ ∧ lo ≤ B ∧ ML w B l s.n s.x p q ∧ s.x.length = s.n ∧ s.n ≤ 1048576
def copiesL2 (s t : L2V) : Prop := t.n = s.n ∧ t.x.length = s.x.length ∧ copiesL s.x t.x
def sameL2 (s t : L2V) : Prop := s.n = t.n ∧ ∀ i, i < s.n → sameL (s.x[i]?.getD noLV) (t.x[i]?.getD noLV)
theorem LM.below {w w' : World} {s : L2V} (h : LM w s) (hb : Below w.heap.size w w') : LM w' s := ⟨h.1, h.2.1.below hb, h.2.2⟩
theorem LG.below {w w' : World} {s : L2V} (h : LG w s) (hb : Below w.heap.size w w') : LG w' s := ⟨h.1, h.2.1.below hb, h.2.2⟩
theorem LM.g {w : World} {s : L2V} (h : LM w s) (hs : LS s) : LG w s := ⟨h.1, h.2.1.g hs.2, hs.1⟩
theorem ML.touch {S : Nat → Prop} {W W' : World} {B lo N : Nat} {gs : List LV} {p q : Nat → Nat} (h : ML W B lo N gs p q) (t : Touch S W W') (hs : ∀ k, S k → k < B) : ML W' B lo N gs p q := by
  obtain ⟨vs, h1, h2, h3⟩ := h.c
  have hb := h.b
  refine ⟨⟨vs, by rw [t.block B (lt_of_block h1) (fun hh => by have := hs _ hh; omega)]; exact h1, h2, h3⟩, fun i hi => ?_, h.b, Nat.le_trans h.s t.size⟩
  obtain ⟨a2, a3, a4, a5, a6, a7, a8, a9, a10, a11, a12, a13⟩ := h.l i hi
  have k1 : Blk W' (p i) (gs[i]?.getD noLV).f.C := by unfold Blk at *; rw [t.block _ (lt_of_block a4) (fun hh => by have := hs _ hh; omega)]; exact a4
  have k2 : Blk W' (q i) (gs[i]?.getD noLV).f.D := by unfold Blk at *; rw [t.block _ (lt_of_block a5) (fun hh => by have := hs _ hh; omega)]; exact a5
  exact ⟨a2, a3, k1, k2, a6, a7, a8, a9, a10, a11, Nat.lt_of_lt_of_le a12 t.size, a13⟩
theorem LK.below {w w' : World} {lo : Nat} {s : L2V} (h : LK w lo s) (hb : Below w.heap.size w w') : LK w' lo s := by
  obtain ⟨B, l, p, q, h1, h2, h3, h4⟩ := h
  exact ⟨B, l, p, q, h1, h2, h3.below hb, h4⟩
theorem LK.touch {S : Nat → Prop} {w w' : World} {lo : Nat} {s : L2V} (h : LK w lo s) (t : Touch S w w') (hs : ∀ k, S k → k < lo) : LK w' lo s := by
  obtain ⟨B, l, p, q, h1, h2, h3, h4⟩ := h
  exact ⟨B, l, p, q, h1, h2, h3.touch t (fun k hk => by have := hs k hk; omega), h4⟩
theorem LK.mono {w : World} {lo lo' : Nat} {s : L2V} (h : LK w lo s) (hl : lo' ≤ lo) : LK w lo' s := by
  obtain ⟨B, l, p, q, h1, h2, h3⟩ := h
  exact ⟨B, l, p, q, h1, by omega, h3⟩
theorem LK.g {w : World} {lo : Nat} {s : L2V} (h : LK w lo s) : LG w s := by
  obtain ⟨B, l, p, q, h1, h2, h3, h4, h5⟩ := h
  refine ⟨h4, ?_, h5⟩
  rw [h1]; exact h3.g
theorem open_L1 {H : Type} {enc : TypeId × Value → H} {W : World} {fuel : Nat} {v : Value} {y : DataW H × List MemPlace}
    (hf : DataW.trod enc Tryz.prog W 0 (fun _ => true) true fuel 116 [v] = some y) : ∃ s : L2V, v = s.v ∧ LM W s := by
  obtain ⟨a, n, cap, zs, rfl, h1, h2, h3⟩ := open_linesC hf
  exact ⟨⟨a, n, cap, zs⟩, rfl, h1, h2, h3⟩
theorem szL_ex (a : Option Addr) (n cap : Nat) (x : List LV) (l : Int) (w : World) (h : LM w ⟨a, n, cap, x⟩) (h0 : 0 ≤ l) (hl : l ≤ 1048576) :
    Calls Tryz.prog 86 #[.slice a n cap, .int .i64 l] w fun e w' => ∃ r, e = .returned (.int .i64 r) ∧ -1 ≤ r ∧ r ≤ 1048576 ∧ (0 ≤ r → LS ⟨a, n, cap, x⟩) ∧ Below w.heap.size w w' :=
  szLS_any a n cap x l w h.1 h.2.1 h.2.2 h0 hl
theorem toL_ex (a : Option Addr) (n cap : Nat) (x : List LV) (w : World) (h : LG w ⟨a, n, cap, x⟩) :
    Calls Tryz.prog 103 #[.slice a n cap] w fun e w' => ∃ a2 x2, e = .returned (.slice a2 n n) ∧ Below w.heap.size w w' ∧ LK w' w.heap.size ⟨a2, n, n, x2⟩ ∧ copiesL2 ⟨a, n, cap, x⟩ ⟨a2, n, n, x2⟩ := by
  refine (toLS_any a n cap x w h.1 h.2.1 h.2.2).mono ?_
  rintro e w' ⟨gs, p, q, rfl, h1, h2, b, m⟩
  exact ⟨_, gs, rfl, b, ⟨_, _, p, q, rfl, Nat.le_refl _, m, h1, h.2.2⟩, rfl, by rw [h1]; exact h.1.symm, h2⟩
theorem eqL_ex (a : Option Addr) (n cap : Nat) (x : List LV) (c : Option Addr) (m cap' : Nat) (y : List LV) (w : World) (h : LG w ⟨a, n, cap, x⟩) (h' : LG w ⟨c, m, cap', y⟩) (hs : sameL2 ⟨a, n, cap, x⟩ ⟨c, m, cap', y⟩) :
    Calls Tryz.prog 114 #[.slice a n cap, .slice c m cap'] w fun e w' => e = .returned (.bool true) ∧ Below w.heap.size w w' := by
  obtain ⟨h1, h2⟩ := hs
  have h1' : n = m := h1
  subst h1'
  exact eqLS_same a c n cap cap' x y w h.1 h'.1 h.2.1 h'.2.1 h.2.2 h2

/-- A slice of slices that came in. -/
def LSM (w : World) (ad : Option Addr) (ss : List L2V) : Prop :=
  ∀ i, i < ss.length → ∃ b off, ad = some ⟨b, off, none⟩ ∧ w.cell? ⟨b, off + i, none⟩ = some (ss[i]?.getD noL).v ∧ LM w (ss[i]?.getD noL)
/-- One that may be copied. -/
def LSG (w : World) (ad : Option Addr) (ss : List L2V) : Prop :=
  ∀ i, i < ss.length → ∃ b off, ad = some ⟨b, off, none⟩ ∧ w.cell? ⟨b, off + i, none⟩ = some (ss[i]?.getD noL).v ∧ LG w (ss[i]?.getD noL)
theorem LSM.below {w w' : World} {ad : Option Addr} {ss : List L2V} (h : LSM w ad ss) (hb : Below w.heap.size w w') : LSM w' ad ss := fun i hi => by
  obtain ⟨b, off, e, hc, hr⟩ := h i hi
  exact ⟨b, off, e, by rw [hb.cell (p := ⟨b, off + i, none⟩) (block_lt hc)]; exact hc, hr.below hb⟩
theorem LSG.below {w w' : World} {ad : Option Addr} {ss : List L2V} (h : LSG w ad ss) (hb : Below w.heap.size w w') : LSG w' ad ss := fun i hi => by
  obtain ⟨b, off, e, hc, hr⟩ := h i hi
  exact ⟨b, off, e, by rw [hb.cell (p := ⟨b, off + i, none⟩) (block_lt hc)]; exact hc, hr.below hb⟩
theorem LSM.g {w : World} {ad : Option Addr} {ss : List L2V} (h : LSM w ad ss) (hs : ∀ i, i < ss.length → LS (ss[i]?.getD noL)) : LSG w ad ss := fun i hi => by
  obtain ⟨b, off, e, hc, hr⟩ := h i hi
  exact ⟨b, off, e, hc, hr.g (hs i hi)⟩

theorem open_LS {H : Type} {enc : TypeId × Value → H} {W : World} {r : Reach} {b0 : Nat} {v : Value} {d : DataW H} {p : List MemPlace}
    (hv : Value.okWide Tryz.prog W r b0 22 v) (h : DataW.Trod enc Tryz.prog W 0 (fun _ => true) true 22 v d p) :
    ∃ ad N cap ss, v = .slice ad N cap ∧ ss.length = N ∧ LSM W ad ss ∧ N ≤ maxLen := by
  obtain ⟨ad, N, cap, ss, hv, hl, hN, hall⟩ := open_sliceT noL (fun s => [L2V.v s]) (fun s => LM W s) (c := 1) (by omega) Tryz.underlying22 (by kernel_rfl) (fun _ => rfl) (fun fuel cs x hx => by
    have hl : cs.length = 1 := (trod_lenL Tryz.underlying116 hx)
    match cs, hl with
    | [c], _ =>
      obtain ⟨s, hs, hr⟩ := open_L1 hx
      exact ⟨s, by rw [hs], hr⟩) hv h
  refine ⟨ad, N, cap, ss, hv, hl, fun i hi => ?_, hN⟩
  obtain ⟨b, off, e, hc, hr⟩ := hall i hi
  have h0 := hc 0 (by omega)
  simp only [Nat.mul_one, Nat.add_zero, List.getElem?_cons_zero] at h0
  exact ⟨b, off, e, h0, hr⟩

set_option maxHeartbeats 800000 in
theorem szL2S_any (ad : Option Addr) (N cap : Nat) (ss : List L2V) (l : Int) (w : World) (hN : ss.length = N) (hF : LSM w ad ss) (hN1 : N ≤ maxLen) (h0 : 0 ≤ l) (hl : l ≤ 1048576) :
    Calls Tryz.prog 38 #[.slice ad N cap, .int .i64 l] w fun e w' => ∃ r, e = .returned (.int .i64 r) ∧ -1 ≤ r ∧ r ≤ 1048576 ∧ (0 ≤ r → N ≤ 1048576 ∧ ∀ i, i < ss.length → LS (ss[i]?.getD noL)) ∧ Below w.heap.size w w' := by
  have HN : Hid (ss.length = N) := hN
  clear hN
  unfold maxLen at hN1
  by_cases h : l < N
  · go_enter Tryz.func38, Tryz.ntmps38
    go_wp2
    go_ret
    exact ⟨-1, rfl, by omega, by omega, fun h => by omega, Below.refl _ _⟩
  · have hN2 : N ≤ 1048576 := by omega
    have h' : (N : Int) ≤ l := by omega
    go_enter Tryz.func38, Tryz.ntmps38
    go_wp2_with fail
    go_loopw [1, 5] (fun lv i wr => ∃ k : Nat, k ≤ N ∧ i = .int .i64 k ∧ ∃ x : Int, lv = .int .i64 x ∧ 0 ≤ x ∧ x ≤ 1048576 ∧ Below w.heap.size w wr ∧ ∀ i, i < k → LS (ss[i]?.getD noL)) (fun _ i _ => N - (intOf i).toNat)
    case atStart => exact ⟨0, Nat.zero_le _, rfl, _, rfl, by omega, by omega, Below.refl _ _, fun i hi => by omega⟩
    case round =>
      obtain ⟨k, hk, rfl, x, rfl, hx0, hx1, hb, hall⟩ := hrel
      have HA : Hid _ := hall
      clear hall
      by_cases hlt : k < N
      · obtain ⟨b, off, rfl, hc, hr⟩ := (hF.below hb) k (by rw [HN.out]; exact hlt)
        generalize HG : ss[k]?.getD noL = g at *
        have HG' : Hid (ss[k]?.getD noL = g) := HG
        clear HG hF
        obtain ⟨ga, gn, gcap, gx⟩ := g
        have hc' : wr.cell? ⟨b, off + k, none⟩ = some (.slice ga gn gcap) := hc
        clear hc
        go_wp2_with fail
        refine (szL_ex _ _ _ gx _ _ hr hx0 hx1).mono ?_
        rintro e w1 ⟨r, rfl, r0, r1, r2, b1⟩
        by_cases hz : r < 0
        · go_wp2
          go_ret
          exact ⟨-1, rfl, by omega, by omega, fun h => by omega, hb.trans (b1.mono hb.size)⟩
        · have hz0 : 0 ≤ r := by omega
          have HA2 : Hid (∀ i, i < k + 1 → LS (ss[i]?.getD noL)) := fun i hi => by
            by_cases hik : i < k
            · exact HA.out i hik
            · obtain rfl : i = k := by omega
              rw [HG'.out]; exact r2 hz0
          clear r2
          go_wp2
          go_roundw
          case rel => exact ⟨k + 1, by omega, by go_num, _, rfl, hz0, r1, hb.trans (b1.mono hb.size), HA2.out⟩
          case measure => simp [intOf]; omega
      · obtain rfl : k = N := by omega
        go_wp2
        go_ret
        exact ⟨x, rfl, by omega, by omega, fun _ => ⟨hN2, fun i hi => HA.out i (by rw [← HN.out]; exact hi)⟩, hb⟩

/-- Each holds what the other does. -/
def copiesL2S (ss ts : List L2V) : Prop := ∀ i, i < ts.length → copiesL2 (ss[i]?.getD noL) (ts[i]?.getD noL)

/-- All that a slice of lines holds lies in blocks from lo on, and below hi. -/
def InR (lo hi : Nat) (s : L2V) : Prop := (∀ b, s.a = some ⟨b, 0, none⟩ → lo ≤ b ∧ b < hi) ∧ ∀ k, k < s.x.length → ∀ b, (s.x[k]?.getD noLV).f.c = some ⟨b, 0, none⟩ → b < hi
theorem LK.inR {w : World} {lo : Nat} {s : L2V} (h : LK w lo s) : InR lo w.heap.size s := by
  obtain ⟨B, l, p, q, h1, h2, h3, h4, h5⟩ := h
  refine ⟨fun b e => ?_, fun k hk b e => ?_⟩
  · rw [h1] at e
    simp only [Option.some.injEq, Addr.mk.injEq, and_true] at e
    have := h3.lt
    omega
  · obtain ⟨a2, a3, a4, a5, a6, a7, a8, a9, a10, a11, a12, a13⟩ := h3.l k hk
    rw [a3] at e
    simp only [Option.some.injEq, Addr.mk.injEq, and_true] at e
    omega

/-- Block B holds N slices, of which those of ts have been laid. -/
structure ML2 (W : World) (B N : Nat) (ts : List L2V) : Prop where
  c : ∃ vs : List Value, Cel W B vs 131 ∧ vs.length = N ∧ ∀ i, i < ts.length → vs[i]? = some (ts[i]?.getD noL).v
  l : ∀ i, i < ts.length → LK W (B + 1) (ts[i]?.getD noL)
  d : ∃ c : Nat → Nat, B < c 0 ∧ c ts.length ≤ W.heap.size ∧ ∀ i, i < ts.length → c i ≤ c (i + 1) ∧ InR (c i) (c (i + 1)) (ts[i]?.getD noL)
theorem ML2.lt {W : World} {B N : Nat} {ts : List L2V} (h : ML2 W B N ts) : B < W.heap.size := by
  obtain ⟨vs, h1, _⟩ := h.c
  exact h1.lt
theorem ML2.below {W W' : World} {B N : Nat} {ts : List L2V} (h : ML2 W B N ts) (b : Below W.heap.size W W') : ML2 W' B N ts := by
  obtain ⟨vs, h1, h2, h3⟩ := h.c
  obtain ⟨c, c1, c2, c3⟩ := h.d
  exact ⟨⟨vs, h1.below b, h2, h3⟩, fun i hi => (h.l i hi).below b, c, c1, Nat.le_trans c2 b.size, c3⟩
theorem ML2.g {W : World} {B N : Nat} {ts : List L2V} (h : ML2 W B N ts) : LSG W (some ⟨B, 0, none⟩) ts := fun i hi => by
  obtain ⟨vs, h1, h2, h3⟩ := h.c
  exact ⟨B, 0, rfl, by rw [Nat.zero_add, h1.cell i, h3 i hi], (h.l i hi).g⟩
theorem ML2.step {W W1 : World} {B N k : Nat} {ts : List L2V} {s : L2V} (h : ML2 W B N ts) (hk : ts.length = k) (hkN : k < N) (b : Below W.heap.size W W1) (hs : LK W1 W.heap.size s) : ML2 (W1.setCell ⟨B, k, none⟩ s.v) B N (ts ++ [s]) := by
  have hB := h.lt
  obtain ⟨vs, h1, h2, h3⟩ := (h.below b).c
  have T : Touch (fun x => x = B) W1 (W1.setCell ⟨B, k, none⟩ s.v) := Touch.setCell (S := fun x => x = B) (Touch.refl _ _) rfl _
  refine ⟨⟨vs.set k s.v, h1.set _ _, by rw [List.length_set]; exact h2, fun i hi => ?_⟩, fun i hi => ?_, ?_⟩
  · rw [List.length_append, hk] at hi
    simp only [List.length_cons, List.length_nil] at hi
    by_cases e : i = k
    · subst e
      rw [List.getElem?_set_self (by omega), List.getElem?_append_right (by omega), hk]; simp
    · rw [List.getElem?_set_ne (by omega), List.getElem?_append_left (by omega)]
      exact h3 i (by omega)
  · rw [List.length_append, hk] at hi
    simp only [List.length_cons, List.length_nil] at hi
    by_cases e : i = k
    · subst e
      rw [List.getElem?_append_right (by omega), hk]
      simp only [Nat.sub_self, List.getElem?_cons_zero, Option.getD_some]
      exact (hs.mono (by omega)).touch T (fun x hx => by omega)
    · rw [List.getElem?_append_left (by omega)]
      exact (((h.l i (by omega)).below b)).touch T (fun x hx => by omega)
  · obtain ⟨c, c1, c2, c3⟩ := h.d
    have hb := b.size
    rw [hk] at c2 c3
    refine ⟨fun i => if i ≤ k then (if i = k then W.heap.size else c i) else W1.heap.size, ?_, ?_, fun i hi => ?_⟩
    · simp only [Nat.zero_le, if_true]
      split
      · exact hB
      · exact c1
    · rw [List.length_append, hk, size_setCell]
      simp only [List.length_cons, List.length_nil]
      rw [if_neg (by omega)]
      exact Nat.le_refl _
    · rw [List.length_append, hk] at hi
      simp only [List.length_cons, List.length_nil] at hi
      dsimp only
      by_cases e : i = k
      · subst e
        rw [if_pos (Nat.le_refl _), if_pos rfl, if_neg (by omega), List.getElem?_append_right (by omega), hk]
        simp only [Nat.sub_self, List.getElem?_cons_zero, Option.getD_some]
        exact ⟨hb, hs.inR⟩
      · obtain ⟨d1, d2⟩ := c3 i (by omega)
        rw [if_pos (by omega), if_neg e, if_pos (by omega), List.getElem?_append_left (by omega)]
        by_cases e2 : i + 1 = k
        · rw [if_pos e2]
          rw [e2] at d1 d2
          exact ⟨Nat.le_trans d1 c2, ⟨fun b hb => ⟨(d2.1 b hb).1, Nat.lt_of_lt_of_le (d2.1 b hb).2 c2⟩, fun j hj b hb => Nat.lt_of_lt_of_le (d2.2 j hj b hb) c2⟩⟩
        · rw [if_neg e2]
          exact ⟨d1, d2⟩

theorem Tryz.infoL2 : (Tryz.prog.info? 131).map (fun i => (i.zero, i.size, i.bytes)) = some (some (.slice none 0 0), 1, 24) := by kernel_rfl

set_option maxHeartbeats 1600000 in
theorem toL2S_any (ad : Option Addr) (N cap : Nat) (ss : List L2V) (w : World) (hN : ss.length = N) (hF : LSG w ad ss) (hN1 : N ≤ 1048576) :
    Calls Tryz.prog 45 #[.slice ad N cap] w fun e w' => ∃ ts, e = .returned (.slice (some ⟨w.heap.size, 0, none⟩) N N) ∧ ts.length = N ∧ copiesL2S ss ts ∧ Below w.heap.size w w' ∧ ML2 w' w.heap.size N ts := by
  have HN : Hid (ss.length = N) := hN
  clear hN
  obtain ⟨i0, hi, hz0, hz1, hz2⟩ := info_parts Tryz.infoL2
  go_enter Tryz.func45, Tryz.ntmps45
  go_wp2_with (at_make; refine wpList_make_full _ rfl (.tmp 6) (.tmp 6) 32 rfl w.heap.size 131 i0 (.slice none 0 0) 1 Tryz.underlying32 hi hz0 hz1 .i64 .i64 _ _ N rfl rfl rfl rfl (by rw [hz2]; omega) (by unfold maxLen; omega) (Nat.le_refl _) ?_; intro w1 hown hgrow)
  have hb1 : Below w.heap.size w w1 := (Below.refl _ _).grown hgrow (Nat.le_refl _) (by simp)
  have m0 : ML2 w1 w.heap.size N [] := by
    rcases hown.2 with ⟨h', _⟩ | ⟨g', cap', cur, h', _, hg, _, _, hcs, htake⟩
    · simp at h'
    · simp only [Value.slice.injEq, Option.some.injEq, Addr.mk.injEq, and_true, true_and] at h'
      obtain ⟨rfl, rfl⟩ := h'
      exact ⟨⟨cur.toList, by unfold Cel; rw [hg], by simpa using hcs, fun i hi => by simp at hi⟩, fun i hi => by simp at hi, fun _ => w.heap.size + 1, Nat.lt_succ_self _, lt_of_block hg, fun i hi => by simp at hi⟩
  clear hown hgrow hi hz0 hz1 hz2
  go_loopw [4] (fun i wr => ∃ k : Nat, k ≤ N ∧ i = .int .i64 k ∧ Below w.heap.size w wr ∧ ∃ ts, ts.length = k ∧ copiesL2S ss ts ∧ ML2 wr w.heap.size N ts) (fun i _ => N - (intOf i).toNat)
  case atStart => exact ⟨0, Nat.zero_le _, rfl, hb1, [], rfl, fun i hi => by simp at hi, m0⟩
  case round =>
    clear hb1 m0
    obtain ⟨k, hk, rfl, hb, ts, hts, hcp, hm⟩ := hrel
    have HTS : Hid (ts.length = k) := hts
    have HCP : Hid (copiesL2S ss ts) := hcp
    clear hts hcp
    by_cases hlt : k < N
    · obtain ⟨b, off, rfl, hc, hr⟩ := (hF.below hb) k (by rw [HN.out]; exact hlt)
      generalize HG : ss[k]?.getD noL = g at *
      have HG' : Hid (ss[k]?.getD noL = g) := HG
      clear HG hF
      obtain ⟨ga, gn, gcap, gx⟩ := g
      have hc' : wr.cell? ⟨b, off + k, none⟩ = some (.slice ga gn gcap) := hc
      clear hc
      go_wp2_with fail
      refine (toL_ex _ _ _ gx _ hr).mono ?_
      rintro ee w2 ⟨a2, x2, rfl, b2, hK, hcp2⟩
      have ms := hm.step HTS.out hlt b2 hK
      obtain ⟨vs, v1, v2, v3⟩ := (hm.below b2).c
      obtain ⟨y, hy⟩ : ∃ y, w2.cell? ⟨w.heap.size, k, none⟩ = some y := ⟨_, (v1.cell k).trans (List.getElem?_eq_getElem (by rw [v2]; exact hlt))⟩
      have hfy := v1.free k
      have hb2 := hb.trans (b2.mono hb.size)
      have RB := hb2.setCell (p := ⟨w.heap.size, k, none⟩) (Nat.le_refl _) (.slice a2 gn gn)
      have CP : copiesL2S ss (ts ++ [⟨a2, gn, gn, x2⟩]) := fun i hi => by
        rw [List.length_append, HTS.out] at hi
        simp only [List.length_cons, List.length_nil] at hi
        by_cases e : i = k
        · subst e
          rw [List.getElem?_append_right (by rw [HTS.out]; exact Nat.le_refl _), HTS.out, HG'.out]
          simpa using hcp2
        · rw [List.getElem?_append_left (by rw [HTS.out]; omega)]
          exact HCP.out i (by rw [HTS.out]; omega)
      have HCP2 : Hid _ := CP
      have ms' : ML2 (w2.setCell ⟨w.heap.size, k, none⟩ (.slice a2 gn gn)) w.heap.size N (ts ++ [⟨a2, gn, gn, x2⟩]) := ms
      clear hm b2 hb hb2 v1 v2 v3 CP hr hcp2 hK ms
      go_wp2
      go_roundw
      case rel => exact ⟨k + 1, by omega, by go_num, RB, _, by rw [List.length_append, HTS.out]; rfl, HCP2.out, ms'⟩
      case measure => simp [intOf]; omega
    · obtain rfl : k = N := by omega
      go_wp2
      go_ret
      exact ⟨ts, rfl, HTS.out, HCP.out, hb, hm⟩

set_option maxHeartbeats 1600000 in
/-- Held against a slice that holds the same. -/
theorem eqL2S_same (ad ae : Option Addr) (N cap cap' : Nat) (fs gs : List L2V) (w : World) (hN : fs.length = N) (hM : gs.length = N) (hF : LSG w ad fs) (hG : LSG w ae gs) (hN1 : N ≤ 1048576)
    (hsame : ∀ i, i < N → sameL2 (fs[i]?.getD noL) (gs[i]?.getD noL)) :
    Calls Tryz.prog 52 #[.slice ad N cap, .slice ae N cap'] w fun e w' => e = .returned (.bool true) ∧ Below w.heap.size w w' := by
  have HN : Hid (fs.length = N) := hN
  have HM : Hid (gs.length = N) := hM
  have HS : Hid _ := hsame
  clear hN hM hsame
  go_enter Tryz.func52, Tryz.ntmps52
  go_wp2_with fail
  go_loopw [5] (fun i wr => ∃ k : Nat, k ≤ N ∧ i = .int .i64 k ∧ Below w.heap.size w wr) (fun i _ => N - (intOf i).toNat)
  case atStart => exact ⟨0, Nat.zero_le _, rfl, Below.refl _ _⟩
  case round =>
    obtain ⟨k, hk, rfl, hb⟩ := hrel
    by_cases hlt : k < N
    · obtain ⟨b, off, rfl, hc, hr⟩ := (hF.below hb) k (by rw [HN.out]; exact hlt)
      obtain ⟨b', off', rfl, hc', hr'⟩ := (hG.below hb) k (by rw [HM.out]; exact hlt)
      have hs := HS.out k hlt
      generalize HG1 : fs[k]?.getD noL = f at *
      generalize HG2 : gs[k]?.getD noL = g at *
      clear HG1 HG2 hF hG
      obtain ⟨fa, fn, fcap, fx⟩ := f
      obtain ⟨ga, gn, gcap, gx⟩ := g
      have d1 : wr.cell? ⟨b, off + k, none⟩ = some (.slice fa fn fcap) := hc
      have d2 : wr.cell? ⟨b', off' + k, none⟩ = some (.slice ga gn gcap) := hc'
      clear hc hc'
      have hlt' : (k : Int) < (N : Int) := by omega
      go_wp2_with fail
      go_region_with (first | (go_at_call 114; refine (eqL_ex _ _ _ fx _ _ _ gx _ (by exact hr.below (Below.refl _ _).drew) (by exact hr'.below (Below.refl _ _).drew) hs).mono ?_; rintro ee w1 ⟨rfl, b1⟩))
      all_goals
        have b1' := below_of_drew b1
        go_wp2
        go_roundw
        case rel => exact ⟨k + 1, by omega, by go_num, hb.trans (b1'.mono hb.size)⟩
        case measure => simp [intOf]; omega
    · go_wp2
      go_ret
      exact ⟨rfl, hb⟩

end Go.Proofs.YtacjjhfbnbmnlaaGreatDoor

namespace Go.Proofs.YtacjjhfbnbmnlaaGreatDoor
open Go.RowKit
set_option linter.unusedVariables false
set_option maxRecDepth 100000

theorem copiesL_same {fs gs hs : List LV} {N : Nat} (hg : gs.length = N) (hh : hs.length = N) (h1 : copiesL fs gs) (h2 : copiesL fs hs) : ∀ i, i < N → sameL (gs[i]?.getD noLV) (hs[i]?.getD noLV) := fun i hi => by
  obtain ⟨a1, a2, a3, a4, a5, a6, _⟩ := h1 i (by omega)
  obtain ⟨b1, b2, b3, b4, b5, b6, _⟩ := h2 i (by omega)
  refine ⟨by rw [a1, b1], by rw [a2, b2], by rw [a3, b3], ?_⟩
  rw [a4, a5, a6, b4, b5, b6]
  exact eqF_refl _ _ _
theorem copiesL_map {α : Type} (P : LV → α) (hP : ∀ f g : LV, f.kind = g.kind → f.pot = g.pot → f.skip = g.skip → f.f.C = g.f.C → f.f.D = g.f.D → f.f.K = g.f.K → f.f.n = g.f.n → f.f.m = g.f.m → P f = P g) {fs gs : List LV} (hl : gs.length = fs.length) (h : copiesL fs gs) : gs.map P = fs.map P := by
  apply List.ext_getElem?
  intro i
  by_cases hi : i < gs.length
  · obtain ⟨a1, a2, a3, a4, a5, a6, a7, a8⟩ := h i hi
    have := hP _ _ a1 a2 a3 a4 a5 a6 a7 a8
    rw [List.getElem?_eq_getElem hi, List.getElem?_eq_getElem (by omega)] at this
    simp only [Option.getD_some] at this
    rw [List.getElem?_map, List.getElem?_map, List.getElem?_eq_getElem hi, List.getElem?_eq_getElem (by omega)]
    simp [this]
  · rw [List.getElem?_eq_none (by simp; omega), List.getElem?_eq_none (by simp; omega)]
theorem copiesL_act {fs gs : List LV} {N : Nat} (hl : gs.length = fs.length) (h : copiesL fs gs) : actB N gs = actB N fs := by
  have h1 := copiesL_map LV.ok (fun f g a1 a2 a3 a4 a5 a6 a7 a8 => by simp only [LV.ok, a1, a2, a3, a4, a5, a6, a7, a8]) hl h
  have h2 := copiesL_map LV.tst (fun f g a1 a2 a3 a4 a5 a6 a7 a8 => by simp only [LV.tst, a1]) hl h
  have e1 : ∀ xs : List LV, xs.all LV.ok = (xs.map LV.ok).all id := fun xs => by simp [List.all_map]
  have e2 : ∀ xs : List LV, tests xs = (xs.map LV.tst).countP id := fun xs => by simp [tests, List.countP_map]
  rw [actB, actB, e1, e1, e2, e2, h1, h2]

def L2V.ok (s : L2V) : Bool := actB s.n s.x
/-- Whether acts are ok. -/
def catB (N : Nat) (ss : List L2V) : Bool := inB N 1 4 && ss.all L2V.ok
theorem allC_take_succ {ls : List L2V} {k : Nat} (h : k < ls.length) (h1 : (ls.take k).all L2V.ok = true) (h2 : (ls[k]?.getD noL).ok = true) : (ls.take (k + 1)).all L2V.ok = true := by
  rw [List.take_succ_eq_append_getElem h, List.all_append, h1]
  rw [List.getElem?_eq_getElem h] at h2
  simpa using h2
theorem allC_no {ls : List L2V} {k : Nat} (h : k < ls.length) (h2 : (ls[k]?.getD noL).ok = false) : ls.all L2V.ok = false := by
  rw [List.all_eq_false]
  rw [List.getElem?_eq_getElem h] at h2
  exact ⟨ls[k], List.getElem_mem h, by simpa using h2⟩

set_option maxHeartbeats 1600000 in
theorem scat_any (ad : Option Addr) (N cap : Nat) (ss : List L2V) (w : World) (hN : ss.length = N) (hF : LSG w ad ss) (hN1 : N ≤ 1048576) :
    Calls Tryz.prog 88 #[.slice ad N cap] w fun e w' => e = .returned (.bool (catB N ss)) ∧ Below w.heap.size w w' := by
  have HN : Hid (ss.length = N) := hN
  clear hN
  cases hib : inB N 1 4
  · go_enter Tryz.func88, Tryz.ntmps88
    go_wp2_with fail
    refine (in_any _ _ _ _).mono ?_
    rintro e w1 ⟨rfl, rfl⟩
    rw [hib]
    go_wp2
    go_ret
    exact ⟨ret_bool (by rw [catB, hib]; rfl), Below.refl _ _⟩
  go_enter Tryz.func88, Tryz.ntmps88
  go_wp2_with fail
  refine (in_any _ _ _ _).mono ?_
  rintro e w1 ⟨rfl, hw1⟩
  rw [hib, hw1]
  clear hw1
  go_wp2_with fail
  have HCB : Hid (catB N ss = ss.all L2V.ok) := by show catB N ss = _; rw [catB, hib]; rfl
  go_loopw [3] (fun  i wr => ∃ k : Nat, k ≤ N ∧ i = .int .i64 k ∧ Below w.heap.size w wr ∧ (ss.take k).all L2V.ok = true) (fun i _ => N - (intOf i).toNat)
  case atStart => exact ⟨0, Nat.zero_le _, rfl, Below.refl _ _, by simp⟩
  case round =>
    obtain ⟨k, hk, rfl, hb, hall⟩ := hrel
    have HA : Hid ((ss.take k).all L2V.ok = true) := hall
    clear hall
    by_cases hlt : k < N
    · obtain ⟨b, off, rfl, hc, hr⟩ := (hF.below hb) k (by rw [HN.out]; exact hlt)
      generalize HG : ss[k]?.getD noL = g at *
      have HG' : Hid (ss[k]?.getD noL = g) := HG
      clear HG hF
      obtain ⟨ga, gn, gcap, gx⟩ := g
      have hc' : wr.cell? ⟨b, off + k, none⟩ = some (.slice ga gn gcap) := hc
      clear hc
      cases hf : actB gn gx
      · go_wp2_with fail
        refine (sact_any _ _ _ gx _ hr.1 hr.2.1 hr.2.2).mono ?_
        rintro e w1 ⟨rfl, b1⟩
        rw [hf]
        go_wp2
        go_ret
        exact ⟨ret_bool (by rw [HCB.out, allC_no (k := k) (by rw [HN.out]; exact hlt) (by rw [HG'.out]; exact hf)]), hb.trans (b1.mono hb.size)⟩
      · go_wp2_with fail
        refine (sact_any _ _ _ gx _ hr.1 hr.2.1 hr.2.2).mono ?_
        rintro e w1 ⟨rfl, b1⟩
        rw [hf]
        go_wp2
        go_roundw
        case rel => exact ⟨k + 1, by omega, by go_num, hb.trans (b1.mono hb.size), allC_take_succ (by rw [HN.out]; exact hlt) HA.out (by rw [HG'.out]; exact hf)⟩
        case measure => simp [intOf]; omega
    · go_wp2
      go_ret
      exact ⟨ret_bool (by rw [HCB.out]; have := HA.out; rw [List.take_of_length_le (by rw [HN.out]; omega)] at this; exact this.symm), hb⟩

set_option maxHeartbeats 1600000 in
theorem icat_any (ad : Option Addr) (N cap : Nat) (ss : List L2V) (w : World) (hN : ss.length = N) (hF : LSG w ad ss) (hN1 : N ≤ 1048576) :
    Calls Tryz.prog 106 #[.slice ad N cap] w fun e w' => e = .returned (.bool (catB N ss)) ∧ Below w.heap.size w w' := by
  have HN : Hid (ss.length = N) := hN
  clear hN
  by_cases h1 : N < 1
  · have hib : inB N 1 4 = false := inB_not.2 (by omega)
    go_enter Tryz.func106, Tryz.ntmps106
    go_wp2
    go_ret
    exact ⟨ret_bool (by rw [catB, hib]; rfl), Below.refl _ _⟩
  by_cases h4 : 4 < N
  · have hib : inB N 1 4 = false := inB_not.2 (by omega)
    go_enter Tryz.func106, Tryz.ntmps106
    go_wp2
    go_ret
    exact ⟨ret_bool (by rw [catB, hib]; rfl), Below.refl _ _⟩
  have hib : inB N 1 4 = true := inB_iff.2 (by omega)
  go_enter Tryz.func106, Tryz.ntmps106
  go_wp2_with fail
  have HCB : Hid (catB N ss = ss.all L2V.ok) := by show catB N ss = _; rw [catB, hib]; rfl
  go_loopw [4, 15] (fun _ i wr => ∃ k : Nat, k ≤ N ∧ i = .int .i64 k ∧ Below w.heap.size w wr ∧ (ss.take k).all L2V.ok = true) (fun _ i _ => N - (intOf i).toNat)
  case atStart => exact ⟨0, Nat.zero_le _, rfl, Below.refl _ _, by simp⟩
  case round =>
    obtain ⟨k, hk, rfl, hb, hall⟩ := hrel
    have HA : Hid ((ss.take k).all L2V.ok = true) := hall
    clear hall
    by_cases hlt : k < N
    · obtain ⟨b, off, rfl, hc, hr⟩ := (hF.below hb) k (by rw [HN.out]; exact hlt)
      generalize HG : ss[k]?.getD noL = g at *
      have HG' : Hid (ss[k]?.getD noL = g) := HG
      clear HG hF
      obtain ⟨ga, gn, gcap, gx⟩ := g
      have hc' : wr.cell? ⟨b, off + k, none⟩ = some (.slice ga gn gcap) := hc
      clear hc
      cases hf : actB gn gx
      · go_wp2_with fail
        refine (iact_any _ _ _ gx _ hr.1 hr.2.1 hr.2.2).mono ?_
        rintro e w1 ⟨rfl, b1⟩
        rw [hf]
        go_wp2
        go_ret
        exact ⟨ret_bool (by rw [HCB.out, allC_no (k := k) (by rw [HN.out]; exact hlt) (by rw [HG'.out]; exact hf)]), hb.trans (b1.mono hb.size)⟩
      · go_wp2_with fail
        refine (iact_any _ _ _ gx _ hr.1 hr.2.1 hr.2.2).mono ?_
        rintro e w1 ⟨rfl, b1⟩
        rw [hf]
        go_wp2
        go_roundw
        case rel => exact ⟨k + 1, by omega, by go_num, hb.trans (b1.mono hb.size), allC_take_succ (by rw [HN.out]; exact hlt) HA.out (by rw [HG'.out]; exact hf)⟩
        case measure => simp [intOf]; omega
    · go_wp2
      go_ret
      exact ⟨ret_bool (by rw [HCB.out]; have := HA.out; rw [List.take_of_length_le (by rw [HN.out]; omega)] at this; exact this.symm), hb⟩

end Go.Proofs.YtacjjhfbnbmnlaaGreatDoor

namespace Go.Proofs.YtacjjhfbnbmnlaaGreatDoor
open Go.RowKit Go.Deep
set_option linter.unusedVariables false
set_option maxRecDepth 100000

/-- A part is put behind the others, if it is not there, and not 0. -/
def addP (ps : List (List Int)) (p : List Int) : List (List Int) := if p ∈ ps ∨ p = [0, 0, 0] then ps else ps ++ [p]
def guardsP (ps : List (List Int)) (fs : List Frm) : List (List Int) := fs.foldl (fun ps f => addP ps (partL f.1)) ps
def rowsP (ps : List (List Int)) (rs : List RowM) : List (List Int) := rs.foldl (fun ps r => guardsP ps r.guards) ps
def actsP (ps : List (List Int)) (ss : List L2V) : List (List Int) := ss.foldl (fun ps s => rowsP ps (rowsL s.x)) ps
def pots3 : List (List Int) := [[1, 0, 0], [0, 1, 0], [0, 0, 1]]
/-- The parts of acts. -/
def catP (ss : List L2V) : List (List Int) := actsP pots3 ss
/-- Some act tells of a pot, or adds by it. -/
def pinsA (ss : List L2V) (v : Nat) : Bool := ss.any fun s => readsR (rowsL s.x) v
theorem foldl_take {α β : Type} (f : β → α → β) (b : β) (xs : List α) (k : Nat) (d : α) (h : k < xs.length) : (xs.take (k + 1)).foldl f b = f ((xs.take k).foldl f b) (xs[k]?.getD d) := by
  rw [List.take_succ_eq_append_getElem h, List.foldl_append, List.getElem?_eq_getElem h]; rfl
theorem guardsP_snoc (ps : List (List Int)) (fs : List Frm) (k : Nat) (h : k < fs.length) : guardsP ps (fs.take (k + 1)) = addP (guardsP ps (fs.take k)) (partL (fs[k]?.getD ([], [], 0)).1) := foldl_take _ _ _ _ _ h
theorem rowsP_snoc (ps : List (List Int)) (rs : List RowM) (k : Nat) (h : k < rs.length) : rowsP ps (rs.take (k + 1)) = guardsP (rowsP ps (rs.take k)) (rs[k]?.getD noR).guards := foldl_take _ _ _ _ _ h
theorem actsP_snoc (ps : List (List Int)) (ss : List L2V) (k : Nat) (h : k < ss.length) : actsP ps (ss.take (k + 1)) = rowsP (actsP ps (ss.take k)) (rowsL (ss[k]?.getD noL).x) := foldl_take _ _ _ _ _ h
theorem pinsA_snoc (ss : List L2V) (k : Nat) (h : k < ss.length) (v : Nat) : pinsA (ss.take (k + 1)) v = (pinsA (ss.take k) v || readsR (rowsL (ss[k]?.getD noL).x) v) := by
  rw [pinsA, List.take_succ_eq_append_getElem h, List.any_append, List.getElem?_eq_getElem h]
  simp [pinsA]
theorem has_mem (p : List Int) : ∀ (ps : List (List Int)) (k : Nat), (hasFrom p k ps < 0 ↔ p ∉ ps)
  | [], k => by simp [hasFrom]
  | q :: ps, k => by
    rw [hasFrom]
    by_cases e : q = p
    · subst e; simp [eqB]
    · have h1 : eqB q p = false := by simp [eqB, e]
      rw [h1]
      have := has_mem p ps (k + 1)
      simp only [Bool.false_eq_true, if_false, this, List.mem_cons, not_or]
      exact ⟨fun h => ⟨fun h2 => e h2.symm, h⟩, fun h => h.2⟩
theorem addP_has {ps : List (List Int)} {p : List Int} (h : ¬ hasFrom p 0 ps < 0) : addP ps p = ps := by
  rw [has_mem] at h
  rw [addP, if_pos (.inl (Classical.not_not.1 h))]
theorem addP_zero {ps : List (List Int)} {p : List Int} (h : p = [0, 0, 0]) : addP ps p = ps := by rw [addP, if_pos (.inr h)]
theorem addP_new {ps : List (List Int)} {p : List Int} (h : hasFrom p 0 ps < 0) (h2 : p ≠ [0, 0, 0]) : addP ps p = ps ++ [p] := by
  rw [has_mem] at h
  rw [addP, if_neg (by rintro (h' | h'); exact h h'; exact h2 h')]

theorem Ints.blk {w : World} {b off n : Nat} {zs : List Int} (h : Ints w (some ⟨b, off, none⟩) n zs) (hn : 0 < n) : b < w.heap.size := by
  obtain ⟨b', o', e, hc⟩ := h.2 0 hn
  simp only [Option.some.injEq, Addr.mk.injEq, and_true] at e
  obtain ⟨rfl, rfl⟩ := e
  exact block_lt hc
/-- A slice of parts, in memory made since w: no part lies in its block. -/
structure JP (w : World) (G cap : Nat) (ts : List IV) (W : World) : Prop where
  b : Below w.heap.size w W
  o : W.ownsRow w.heap.size 23 1 (.slice (some ⟨G, 0, none⟩) ts.length cap) ts.length (ts.map IV.v)
  k : ∀ j, j < ts.length → (ts[j]?.getD noI).n = 3 ∧ Ints W (ts[j]?.getD noI).a 3 (ts[j]?.getD noI).x ∧ ∀ b o, (ts[j]?.getD noI).a = some ⟨b, o, none⟩ → b ≠ G
theorem JP.nil (w W : World) (hb : Below w.heap.size w W) : JP w W.heap.size 0 [] (W.alloc (.cells #[] 23)) :=
  ⟨hb.alloc hb.size _, World.ownsRow_lit W #[] 0 hb.size (by unfold maxLen; omega) rfl, fun j hj => by simp at hj⟩
theorem JP.below {w W W' : World} {G cap : Nat} {ts : List IV} (j : JP w G cap ts W) (h : Below W.heap.size W W') : JP w G cap ts W' :=
  ⟨j.b.trans (h.mono j.b.size), own_below j.o h, fun i hi => by obtain ⟨a, b, c⟩ := j.k i hi; exact ⟨a, b.below h, c⟩⟩
theorem JP.lt {w W : World} {G cap : Nat} {ts : List IV} (j : JP w G cap ts W) : w.heap.size ≤ G ∧ G < W.heap.size := by
  rcases j.o.2 with ⟨h, _⟩ | ⟨g, cap', cur, h, hg, hh, _⟩
  · cases h
  · simp only [Value.slice.injEq, Option.some.injEq, Addr.mk.injEq, and_true, true_and] at h
    obtain ⟨rfl, _⟩ := h
    exact ⟨hg, lt_of_block hh⟩
theorem JP.g {w W : World} {G cap : Nat} {ts : List IV} (j : JP w G cap ts W) : ISG W (some ⟨G, 0, none⟩) ts := fun i hi => by
  obtain ⟨h1, h2, h3⟩ := j.k i hi
  refine ⟨G, 0, rfl, ?_, ?_, by omega⟩
  · rw [Nat.zero_add, own_cell j.o i (by omega), List.getElem?_map, List.getElem?_eq_getElem hi]; rfl
  · rw [h1]; exact h2
theorem JP.app {w W W' : World} {G cap g cp k : Nat} {ts : List IV} {s : IV} {o : Obj} (j : JP w G cap ts W) (hk : ts.length = k) (hs : s.n = 3) (hI : Ints W s.a 3 s.x) (hb : ∀ b o, s.a = some ⟨b, o, none⟩ → b ≠ G)
    (hown : W'.ownsRow w.heap.size 23 1 (.slice (some ⟨g, 0, none⟩) (k + 1) cp) (k + 1) (ts.map IV.v ++ [s.v])) (hg : (W.alloc o).grownBy W' (some G)) (hat : g = G ∨ W.heap.size ≤ g) : JP w g cp (ts ++ [s]) W' := by
  subst hk
  have A : Below W.heap.size W (W.alloc o) := (Below.refl _ _).alloc (Nat.le_refl _) _
  have ja := j.below A
  have T : Touch (fun y => y = G) (W.alloc o) W' := ⟨hg.os, hg.tape, hg.output, hg.size, fun z hz hn => hg.block z hz (fun e => hn (by simpa using e))⟩
  have key : ∀ (a : Option Addr) (x : List Int), Ints W a 3 x → (∀ b o, a = some ⟨b, o, none⟩ → b ≠ G) → Ints W' a 3 x ∧ ∀ b o, a = some ⟨b, o, none⟩ → b ≠ g := fun a x h1 h2 => by
    refine ⟨(h1.below A).off (fun b o e => h2 b o e) T, fun b o e => ?_⟩
    have h3 := h2 b o e
    subst e
    have := h1.blk (by omega)
    omega
  refine ⟨ja.b.grown hg ja.b.size (fun z hz => ?_), ?_, fun i hi => ?_⟩
  · have := j.lt
    simp only [Option.some.injEq] at hz
    omega
  · rw [List.length_append, List.map_append]; exact hown
  · by_cases h : i < ts.length
    · rw [List.getElem?_append_left h]
      obtain ⟨a, b, c⟩ := j.k i h
      exact ⟨a, key _ _ b c⟩
    · rw [List.length_append, List.length_singleton] at hi
      obtain rfl : i = ts.length := by omega
      rw [List.getElem?_append_right (Nat.le_refl _), Nat.sub_self]
      exact ⟨hs, key _ _ hI hb⟩

end Go.Proofs.YtacjjhfbnbmnlaaGreatDoor

namespace Go.Proofs.YtacjjhfbnbmnlaaGreatDoor
open Go.RowKit Go.Deep
set_option linter.unusedVariables false
set_option maxRecDepth 100000

theorem oneSl {a : Option Addr} {n c : Nat} : ∀ u ∈ [Value.slice a n c], u.oneCell' = true := fun u hu => by
  simp at hu; subst hu; rfl
theorem field_C (a : Option Addr) (n ca : Nat) (c : Option Addr) (m cc : Nat) (K : Int) (W : World) : (Instr.field 127 (formV a n ca c m cc K) 0).run Tryz.prog W = .ok (.slice a n ca) W := by kernel_rfl
theorem OwnB.grown {W W' : World} {Gp G : Nat} {f : Nat → Bool} {o : Obj} (h : OwnB W Gp f) (hg : (W.alloc o).grownBy W' (some G)) (hne : Gp ≠ G) : OwnB W' Gp f := by
  obtain ⟨cur, hc, hv⟩ := h
  exact ⟨cur, (hc.alloc o).grew hg (by simpa using fun e => hne e.symm), hv⟩
/-- Rows that were made since n0; they read on whatever becomes of what is older, and of block G. -/
structure JQ (n0 Gr cr G : Nat) (xs : List Value) (rs : List RowM) (W : World) : Prop where
  o : W.ownsRow n0 135 4 (.slice (some ⟨Gr, 0, none⟩) rs.length cr) rs.length xs
  r : RowsOk W (fun k => k < n0 ∨ k = G) xs rs
  ne : Gr ≠ G
theorem JQ.of {w W : World} {Gr cr G : Nat} {xs : List Value} {rs : List RowM} (j : JR w Gr cr xs rs W) (hG : G < w.heap.size) : JQ w.heap.size Gr cr G xs rs W :=
  ⟨j.o, j.r.map (fun _ _ f => f.mono (fun k hk => Or.inl (by omega))), by have := j.lt; omega⟩
theorem JQ.lt {n0 Gr cr G : Nat} {xs : List Value} {rs : List RowM} {W : World} (j : JQ n0 Gr cr G xs rs W) : n0 ≤ Gr ∧ Gr < W.heap.size := by
  rcases j.o.2 with ⟨h, _⟩ | ⟨g, cap', cur, h, hg, hh, _⟩
  · cases h
  · simp only [Value.slice.injEq, Option.some.injEq, Addr.mk.injEq, and_true, true_and] at h
    obtain ⟨rfl, _⟩ := h
    exact ⟨hg, lt_of_block hh⟩
theorem JQ.below {n0 Gr cr G : Nat} {xs : List Value} {rs : List RowM} {W W' : World} (j : JQ n0 Gr cr G xs rs W) (b : Below W.heap.size W W') : JQ n0 Gr cr G xs rs W' :=
  ⟨own_below j.o b, j.r.map (fun _ _ f => f.below b), j.ne⟩
theorem JQ.grown {n0 Gr cr G g : Nat} {xs : List Value} {rs : List RowM} {W W' : World} {o : Obj} (j : JQ n0 Gr cr G xs rs W) (hg : (W.alloc o).grownBy W' (some G)) (hat : g = G ∨ W.heap.size < g) : JQ n0 Gr cr g xs rs W' := by
  have A : Below W.heap.size W (W.alloc o) := (Below.refl _ _).alloc (Nat.le_refl _) _
  have ja := j.below A
  have T : Touch (fun y => y = G) (W.alloc o) W' := ⟨hg.os, hg.tape, hg.output, hg.size, fun z hz hn => hg.block z hz (fun e => hn (by simpa using e))⟩
  refine ⟨own_off ja.o (fun z hz hs => ?_) T, ja.r.map (fun _ _ f => f.grown hg (by rw [World.size_alloc]; omega)), ?_⟩
  · have hz' : some Gr = some z := hz
    simp only [Option.some.injEq] at hz'
    exact j.ne (by omega)
  · have := j.lt
    have := j.ne
    omega
theorem pots3_take {k : Nat} (h : k < 3) : pots3.take (k + 1) = pots3.take k ++ [([0, 0, 0] : List Int).set k 1] := by
  match k, h with
  | 0, _ => rfl
  | 1, _ => rfl
  | 2, _ => rfl
theorem partL_len3 {f : Frm} {M : Int} (h : fitX M f) : (partL f.1).length = 3 := by
  rw [part_len]; exact h.1

set_option maxHeartbeats 12800000 in
theorem sboth_any (ad : Option Addr) (N cap : Nat) (ss : List L2V) (w : World) (hN : ss.length = N) (hF : LSG w ad ss) (hok : ss.all L2V.ok = true) (hN4 : N ≤ 4) :
    Calls Tryz.prog 43 #[.slice ad N cap] w fun e w' => ∃ G cG ts nt Gp cp, e = .returned (.tuple #[.slice (some ⟨G, 0, none⟩) nt cG, .slice (some ⟨Gp, 0, none⟩) 3 cp]) ∧ ts.length = nt ∧ JP w G cG ts w' ∧ ts.map IV.x = catP ss ∧ nt ≤ 600000 ∧ OwnB w' Gp (pinsA ss) ∧ w.heap.size ≤ Gp := by
  have HN : Hid (ss.length = N) := hN
  have HOK : Hid (ss.all L2V.ok = true) := hok
  have HF : Hid (LSG w ad ss) := hF
  clear hN hok hF
  obtain ⟨i0, hi, hz0, hz1, hz2⟩ := info_parts Tryz.infoI
  have b0 : Below w.heap.size w ((w.alloc (.cells #[] 23)).alloc (.cells #[.bool false, .bool false, .bool false] 4)) := ((Below.refl _ _).alloc (Nat.le_refl _) _).alloc (by simp) _
  have j0 : JP w w.heap.size 0 [] ((w.alloc (.cells #[] 23)).alloc (.cells #[.bool false, .bool false, .bool false] 4)) := (JP.nil w w (Below.refl _ _)).below ((Below.refl _ _).alloc (Nat.le_refl _) _)
  have p0 : OwnB ((w.alloc (.cells #[] 23)).alloc (.cells #[.bool false, .bool false, .bool false] 4)) (w.heap.size + 1) (pinsA (ss.take 0)) := by
    refine ⟨[.bool false, .bool false, .bool false], ?_, fun v hv => ?_⟩
    · have := Cel.new (w.alloc (.cells #[] 23)) [.bool false, .bool false, .bool false] 4
      rw [World.size_alloc] at this; exact this
    · match v, hv with
      | 0, _ => simp [pinsA]
      | 1, _ => simp [pinsA]
      | 2, _ => simp [pinsA]
  go_enter Tryz.func43, Tryz.ntmps43
  go_wp2_with fail
  go_loopw [4, 6] (fun out v wr => ∃ (k G cG : Nat) (ts : List IV), k ≤ 3 ∧ v = .int .i64 k ∧ out = .slice (some ⟨G, 0, none⟩) k cG ∧ ts.length = k ∧ JP w G cG ts wr ∧ ts.map IV.x = pots3.take k ∧ OwnB wr (w.heap.size + 1) (pinsA (ss.take 0)) ∧ w.heap.size + 1 ≠ G) (fun _ v _ => 3 - (intOf v).toNat)
  case atStart => exact ⟨0, _, _, [], by omega, rfl, rfl, rfl, j0, rfl, p0, by omega⟩
  case round =>
    clear j0 p0 b0
    obtain ⟨k, G, cG, ts, hk, rfl, rfl, hl, jp, hx, p, pne⟩ := hrel
    have HL : Hid (ts.length = k) := hl
    have HX : Hid (ts.map IV.x = pots3.take k) := hx
    clear hl hx
    by_cases hlt : k < 3
    · have hlt' : (k : Int) < 3 := by omega
      have HP : Hid (potC (k : Int) = [0, 0, 0].set k 1) := potC_in _ k rfl (by omega)
      have lG := jp.lt
      go_wp2_with fail
      refine (spot_any _ _).mono ?_
      rintro e w1 ⟨a, n, ca, c, m, cc, B1, B2, rfl, hn, hm, b1, o1, o2, g1, g2, ne⟩
      have hn3 : n = 3 := by rw [← hn, HP.out]; simp
      subst hn3
      have I1 : Ints w1 a 3 (potC (k : Int)) := o1.ints' hn
      have Hne : Hid (∀ b o, a = some ⟨b, o, none⟩ → b ≠ G) := fun b o e => by
        rcases o1 with h | ⟨h, _⟩
        · rw [h] at hn; cases hn
        · rw [h] at e
          simp only [Option.some.injEq, Addr.mk.injEq, and_true] at e
          have := g1 (by omega)
          omega
      have jp1 := jp.below b1
      have p1 := p.below b1
      have jo := jp1.o
      rw [HL.out] at jo
      have js := jp1.b.size
      have hfl : ∀ W, (Instr.field 127 (formV a 3 ca c m cc 0) 0).run Tryz.prog W = .ok (.slice a 3 ca) W := fun W => field_C a 3 ca c m cc 0 W
      clear jp p b1 o1 o2 hn hm ne g1 g2
      go_wp2_with (at_builtin; go_must (refine wpList_append_lies _ rfl (.tmp 18) (.tmp 22) 72 rfl w.heap.size 23 i0 _ 1 24 Tryz.underlying72 hi hz0 hz1 hz2 rfl (by decide) _ _ _ rfl (jo.alloc _) ⟨w1.heap.size, 0, none⟩ 1 1 [.slice a 3 ca] rfl rfl (news1 w1 _ _) oneSl (by omega) (by unfold maxLen; omega) (by omega) (by rw [World.size_alloc]; omega) _ rfl ?_); intro g cp2 w2 hown hgrow hat hlt1)
      have hat' : g = G ∨ w1.heap.size ≤ g := by
        rcases hat with h | h
        · have h' : some G = some g := h
          simp only [Option.some.injEq] at h'
          exact Or.inl h'.symm
        · rw [World.size_alloc] at h
          exact Or.inr (by omega)
      have jp2 := jp1.app (s := ⟨a, 3, ca, potC (k : Int)⟩) HL.out rfl I1 Hne.out hown hgrow hat'
      have lp1 := p1.lt
      have p2 := p1.grown hgrow pne
      have pne2 : w.heap.size + 1 ≠ g := by omega
      have HX2 : Hid ((ts ++ [(⟨a, 3, ca, potC (k : Int)⟩ : IV)]).map IV.x = pots3.take (k + 1)) := by
        show _ = _
        rw [List.map_append, HX.out, pots3_take hlt, ← HP.out]; rfl
      have HL2 : Hid ((ts ++ [(⟨a, 3, ca, potC (k : Int)⟩ : IV)]).length = k + 1) := by show _ = _; rw [List.length_append, HL.out]; rfl
      clear hown hgrow hat jo jp1 p1 I1 Hne
      go_wp2
      go_roundw
      case rel => exact ⟨k + 1, g, cp2, _, by omega, by go_num, rfl, HL2.out, jp2, HX2.out, p2, pne2⟩
      case measure => simp [intOf]; omega
    · obtain rfl : k = 3 := by omega
      have HX3 : Hid (ts.map IV.x = actsP pots3 (ss.take 0)) := HX.out
      have hb3 := jp.b
      clear HX
      go_wp2_with fail
      go_loopw [4, 5, 7, 8, 9, 10, 11] (fun out pins i _ _ _ _ wr => ∃ (ia G cG nt Gp cp : Nat) (ts : List IV), ia ≤ N ∧ i = .int .i64 ia ∧ out = .slice (some ⟨G, 0, none⟩) nt cG ∧ pins = .slice (some ⟨Gp, 0, none⟩) 3 cp ∧ ts.length = nt ∧ nt ≤ 3 + 128000 * ia ∧ JP w G cG ts wr ∧ ts.map IV.x = actsP pots3 (ss.take ia) ∧ OwnB wr Gp (pinsA (ss.take ia)) ∧ w.heap.size ≤ Gp ∧ Gp ≠ G) (fun _ _ i _ _ _ _ _ => N - (intOf i).toNat)
      case atStart => exact ⟨0, G, cG, 3, w.heap.size + 1, 3, ts, by omega, rfl, rfl, rfl, HL.out, by omega, jp, HX3.out, p, by omega, pne⟩
      case round =>
        clear jp p pne HX3 HL hb3 hlt hk
        obtain ⟨ia, G, cG, nt, Gp, cp, ts, hia, rfl, rfl, rfl, hl, hnt, jp, hx, p, lGp, pne⟩ := hrel
        have HL : Hid (ts.length = nt) := hl
        have HX : Hid (ts.map IV.x = actsP pots3 (ss.take ia)) := hx
        clear hl hx
        by_cases hlt : ia < N
        · have hlt' : (ia : Int) < N := by omega
          have his : ia < ss.length := by rw [HN.out]; exact hlt
          obtain ⟨ab, ao, rfl, hc, hLG⟩ := (HF.out.below jp.b) ia his
          have HSA : Hid (∀ ps, ps = actsP pots3 (ss.take ia) → rowsP ps (rowsL (ss[ia]?.getD noL).x) = actsP pots3 (ss.take (ia + 1))) := fun ps h => by rw [h, actsP_snoc _ _ _ his]
          have HSB : Hid (∀ v, pinsA (ss.take (ia + 1)) v = (pinsA (ss.take ia) v || readsR (rowsL (ss[ia]?.getD noL).x) v)) := fun v => pinsA_snoc ss ia his v
          have hsok : (ss[ia]?.getD noL).ok = true := by
            rw [List.getElem?_eq_getElem his]
            exact List.all_eq_true.1 HOK.out _ (List.getElem_mem his)
          obtain ⟨s, hs⟩ : ∃ s, s = ss[ia]?.getD noL := ⟨_, rfl⟩
          rw [← hs] at hc hLG HSA HSB hsok
          obtain ⟨sa, sn, sc, sx⟩ := s
          have hAct : actB sn sx = true := hsok
          obtain ⟨hxl, hLin, hsn⟩ := hLG
          have hc' : wr.cell? ⟨ab, ao + ia, none⟩ = some (.slice sa sn sc) := hc
          have HXL : Hid (sx.length = sn) := hxl
          have HLIN : Hid (LinesG wr sa sx) := hLin
          have lG := jp.lt
          clear hs hc hsok hxl hLin
          have HAC : Hid (actB sn sx = true) := hAct
          clear hAct
          go_wp2_with fail
          refine (srows_any _ _ _ sx _ HXL.out HLIN.out hsn).mono ?_
          rw [show rowsB sn sx = rowsL sx from by rw [rowsB, HAC.out]; rfl]
          rintro ee w3 ⟨Gr, cr, xs, rfl, j3⟩
          have HFIT : Hid (∀ r ∈ rowsL sx, RowFit r) := rowsL_fit (by rw [HXL.out]; exact (actB_parts HAC.out).1) (actB_parts HAC.out).2 HLIN.out
          have jq3 : JQ wr.heap.size Gr cr G xs (rowsL sx) w3 := JQ.of j3 lG.2
          have p3 := p.below j3.b
          have jp3 := jp.below j3.b
          obtain ⟨R, hR⟩ : ∃ R, R = rowsL sx := ⟨_, rfl⟩
          have HSA' : Hid (∀ ps, ps = actsP pots3 (ss.take ia) → rowsP ps R = actsP pots3 (ss.take (ia + 1))) := fun ps h => by rw [hR]; exact HSA.out ps h
          have HSB' : Hid (∀ v, pinsA (ss.take (ia + 1)) v = (pinsA (ss.take ia) v || readsR R v)) := fun v => by rw [hR]; exact HSB.out v
          have q1 : R.length ≤ 128 := by rw [hR]; exact goW_128 (by omega)
          rw [← hR] at jq3 HFIT ⊢
          obtain ⟨n0, hn0⟩ : ∃ n0, n0 = wr.heap.size := ⟨_, rfl⟩
          rw [← hn0] at jq3
          obtain ⟨PS, hPS⟩ : ∃ PS, PS = actsP pots3 (ss.take ia) := ⟨_, rfl⟩
          obtain ⟨PB, hPB⟩ : ∃ PB, PB = pinsA (ss.take ia) := ⟨_, rfl⟩
          obtain ⟨pinK, hpin⟩ : ∃ pinK : Nat → Nat → Bool, pinK = fun k v => PB v || readsR (R.take k) v := ⟨_, rfl⟩
          have HPK : Hid (pinK = fun k v => PB v || readsR (R.take k) v) := hpin
          have p4 : OwnB w3 Gp (pinK 0) := p3.ext (fun v _ => by rw [hpin, hPB]; simp [readsR])
          have HX0 : Hid (ts.map IV.x = rowsP PS (R.take 0)) := by show _ = _; rw [HX.out, hPS]; rfl
          have HSA2 : Hid (rowsP PS R = actsP pots3 (ss.take (ia + 1))) := HSA'.out PS hPS
          have HSB2 : Hid (∀ v, pinsA (ss.take (ia + 1)) v = pinK R.length v) := fun v => by rw [HSB'.out v, hpin, hPB]; dsimp only; rw [List.take_of_length_le (Nat.le_refl _)]
          clear j3 hR HSA HSB HSA' HSB' hn0 hPS hPB hpin p p3 jp HX HLIN HXL HAC hc'
          go_wp2_with fail
          go_loopw [4, 5, 9, 10, 11] (fun out pins i _ _ wr => ∃ (k G cG nt Gp cp : Nat) (ts : List IV), k ≤ R.length ∧ i = .int .i64 k ∧ out = .slice (some ⟨G, 0, none⟩) nt cG ∧ pins = .slice (some ⟨Gp, 0, none⟩) 3 cp ∧ ts.length = nt ∧ nt ≤ 3 + 128000 * ia + 1000 * k ∧ JP w G cG ts wr ∧ ts.map IV.x = rowsP PS (R.take k) ∧ OwnB wr Gp (pinK k) ∧ w.heap.size ≤ Gp ∧ Gp ≠ G ∧ JQ n0 Gr cr G xs R wr) (fun _ _ i _ _ _ => R.length - (intOf i).toNat)
          case atStart => exact ⟨0, G, cG, nt, Gp, cp, ts, by omega, rfl, rfl, rfl, HL.out, by omega, jp3, HX0.out, p4, lGp, pne, jq3⟩
          case round =>
            clear jp3 p4 pne HX0 HL jq3 hnt lGp lG
            obtain ⟨k, Go, cGo, nt, G, cG, ts, hk, rfl, rfl, rfl, hl, hnt, jp, hx, o, lGp, pne, j⟩ := hrel
            have HL : Hid (ts.length = nt) := hl
            have HX : Hid (ts.map IV.x = rowsP PS (R.take k)) := hx
            have hb := jp.b
            clear hl hx
            by_cases hlt3 : k < R.length
            · have hlt3' : (k : Int) < R.length := by omega
              obtain ⟨ga, gc, aa, ac, ta, tc, x0, x1, x2, x3, f0, f1, f2⟩ := j.r k hlt3
              have HSP : Hid (∀ v, pinK (k + 1) v = readsF (readsF (pinK k) (R[k]?.getD noR).adds) (R[k]?.getD noR).tells v) := fun v => by
                rw [HPK.out]
                show (PB v || readsR (R.take (k + 1)) v) = _
                rw [readsR_snoc R k hlt3 v]
                simp [readsF, Bool.or_assoc]
              have HSG : Hid (∀ ps, ps = rowsP PS (R.take k) → guardsP ps (R[k]?.getD noR).guards = rowsP PS (R.take (k + 1))) := fun ps h => by rw [h, rowsP_snoc _ _ _ hlt3]
              have hfit : RowFit (R[k]?.getD noR) := HFIT.out _ (by rw [List.getElem?_eq_getElem hlt3]; exact List.getElem_mem hlt3)
              have HRK : Hid (∀ W, JQ n0 Gr cr Go xs R W → True) := fun _ _ => trivial
              obtain ⟨q, hq⟩ : ∃ q, q = R[k]?.getD noR := ⟨_, rfl⟩
              have HQ : Hid (q = R[k]?.getD noR) := hq
              rw [← hq] at x0 x1 x2 x3 f0 f1 f2 HSP HSG hfit
              have HA : Hid _ := hfit.a
              have HTt : Hid _ := hfit.t
              have HGf : Hid _ := hfit.g
              have la := hfit.la
              have lt := hfit.lt
              have lgq := hfit.lg
              have sl := j.o.1
              have n1 := (own_cell j.o (k * 4 + 1) (by omega)).trans x1
              have n2 := (own_cell j.o (k * 4 + 2) (by omega)).trans x2
              have lGr := j.lt
              have FA := f1.at
              have FT := f2.at
              have KP : Hid (∀ W, Below wr.heap.size wr W → (W.cell? ⟨Gr, k * 4 + 1, none⟩ = some (.slice aa q.adds.length ac) ∧ W.cell? ⟨Gr, k * 4 + 2, none⟩ = some (.slice ta q.tells.length tc))) := fun W hW => ⟨(hW.cell (p := ⟨Gr, k * 4 + 1, none⟩) lGr.2).trans n1, (hW.cell (p := ⟨Gr, k * 4 + 2, none⟩) lGr.2).trans n2⟩
              have e0 : Below wr.heap.size wr wr.drew := (Below.refl _ _).drew
              have hSS := And.intro (KP.out _ e0) (True.intro)
              have lGo := jp.lt
              clear hfit x0 x1 x2 x3 f0 f1 f2 hq
              go_upto_region 14 with fail
              refine wp_region_ends (fun w' => w'.cell? ⟨Gr, k * 4 + 1, none⟩ = some (.slice aa q.adds.length ac) ∧ w'.cell? ⟨Gr, k * 4 + 2, none⟩ = some (.slice ta q.tells.length tc)) (fun _ => True) 13 (by kernel_rfl) ?_
              refine wpAnyE_take0 (i := 0) (v := ?v0) rfl (by kernel_rfl) (by kernel_rfl) (by kernel_rfl) (by decide) (fun _ _ _ h => h) (Or.inl ⟨by rfl, ?hy0⟩) hSS ?_
              case hy0 => (intro wz hSw; (try dsimp only at hSw); go_simp; try (with_reducible rfl))
              refine wpAnyE_take0 (i := 1) (v := ?v1) rfl (by kernel_rfl) (by kernel_rfl) (by kernel_rfl) (by decide) (fun _ _ _ h => h) (Or.inl ⟨by rfl, ?hy1⟩) hSS ?_
              case hy1 => (intro wz hSw; (try dsimp only at hSw); go_simp; try (with_reducible rfl))
              refine wpAnyE_take0 (i := 2) (v := ?v2) rfl (by kernel_rfl) (by kernel_rfl) (by kernel_rfl) (by decide) (fun _ _ _ h => h) (Or.inl ⟨by rfl, ?hy2⟩) hSS ?_
              case hy2 => (intro wz hSw; (try dsimp only at hSw); go_simp; try (with_reducible rfl))
              refine wpAnyE_take0 (i := 3) (v := ?v3) rfl (by kernel_rfl) (by kernel_rfl) (by kernel_rfl) (by decide) (fun _ _ _ h => h) (Or.inl ⟨by rfl, ?hy3⟩) hSS ?_
              case hy3 => (intro wz hSw; (try dsimp only at hSw); go_simp; try (with_reducible rfl))
              refine wpAnyE_take0 (i := 4) (v := ?v4) rfl (by kernel_rfl) (by kernel_rfl) (by kernel_rfl) (by decide) (fun _ _ _ h => h) (Or.inl ⟨by rfl, ?hy4⟩) hSS ?_
              case hy4 => (intro wz hSw; (try dsimp only at hSw); go_simp; try (with_reducible rfl))
              refine wpAnyE_take0 (i := 5) (v := ?v5) rfl (by kernel_rfl) (by kernel_rfl) (by kernel_rfl) (by decide) (fun _ _ _ h => h) (Or.inl ⟨by rfl, ?hy5⟩) hSS ?_
              case hy5 => (intro wz hSw; (try dsimp only at hSw); go_simp; try (with_reducible rfl))
              refine wpAnyE_take0 (i := 7) (v := ?v7) rfl (by kernel_rfl) (by kernel_rfl) (by kernel_rfl) (by decide) (fun _ _ _ h => h) (Or.inl ⟨by rfl, ?hy7⟩) hSS ?_
              case hy7 => (intro wz hSw; (try dsimp only at hSw); go_simp; try (with_reducible rfl))
              refine wpAnyE_take0 (i := 8) (v := ?v8) rfl (by kernel_rfl) (by kernel_rfl) (by kernel_rfl) (by decide) (fun _ _ _ h => h) (Or.inl ⟨by rfl, ?hy8⟩) hSS ?_
              case hy8 => (intro wz hSw; (try dsimp only at hSw); go_simp; try (with_reducible rfl))
              refine wpAnyE_take0 (i := 9) (v := ?v9) rfl (by kernel_rfl) (by kernel_rfl) (by kernel_rfl) (by decide) (fun _ _ _ h => h) (Or.inl ⟨by rfl, ?hy9⟩) hSS ?_
              case hy9 => (intro wz hSw; (try dsimp only at hSw); go_simp; try (with_reducible rfl))
              refine wpAnyE_take0 (i := 10) (v := ?v10) rfl (by kernel_rfl) (by kernel_rfl) (by kernel_rfl) (by decide) (fun _ _ _ h => h) (Or.inl ⟨by rfl, ?hy10⟩) hSS ?_
              case hy10 => (intro wz hSw; (try dsimp only at hSw); go_simp; try (with_reducible rfl))
              refine wpAnyE_take0 (i := 11) (v := ?v11) rfl (by kernel_rfl) (by kernel_rfl) (by kernel_rfl) (by decide) (fun _ _ _ h => h) (Or.inl ⟨by rfl, ?hy11⟩) hSS ?_
              case hy11 => (intro wz hSw; (try dsimp only at hSw); go_simp; try (with_reducible rfl))
              clear hSS
              refine wpAnyE_one (i := 6) (by kernel_rfl) rfl (fun K hK => ?_)
              go_simp
              refine (sreads_any _ _ _ _ _ _ q.adds _ (o.bools.below e0) rfl (FA.keep e0) HA.out (by omega)).mono ?_
              rintro ee w4 ⟨G4, c4, rfl, bd4, l4, o4⟩
              have b4 := below_of_drew bd4
              have l4x : wr.heap.size ≤ G4 := l4
              clear bd4 l4
              (try dsimp only)
              refine hK.out _ _ ⟨KP.out _ b4, fun _ => trivial⟩ ?_
              clear hK K
              refine wpAnyE_one (i := 12) (by kernel_rfl) rfl (fun K hK => ?_)
              go_simp
              refine (sreads_any _ _ _ _ _ _ q.tells _ o4.bools rfl (FT.keep b4) HTt.out (by omega)).mono ?_
              rintro ee w5 ⟨G5, c5, rfl, bd5, l5, o5⟩
              have b5 := b4.trans (bd5.mono b4.size)
              have s4 := b4.size
              have sb := hb.size
              have O5 : Hid (OwnB w5 G5 (pinK (k + 1))) := o5.ext (fun v _ => (HSP.out v).symm)
              have J5 := j.below b5
              have P5 := jp.below b5
              have B5 := hb.trans (b5.mono hb.size)
              clear bd5 o4 o5 o j jp
              (try dsimp only)
              refine hK.out _ _ ⟨KP.out _ b5, fun _ => trivial⟩ ?_
              clear hK K
              refine wpAnyE_one (i := 13) (by kernel_rfl) rfl (fun K hK => ?_)
              go_simp
              refine hK.out _ _ ⟨KP.out _ b5, fun _ => trivial⟩ ?_
              clear hK K
              refine wpAnyE_done (by kernel_rfl) ?_ _
              clear KP b4 b5 FA FT n1 n2
              have pne5 : G5 ≠ Go := by omega
              have lG5 : w.heap.size ≤ G5 := by omega
              obtain ⟨PG, hPG⟩ : ∃ PG, PG = rowsP PS (R.take k) := ⟨_, rfl⟩
              have HSG2 : Hid (guardsP PG q.guards = rowsP PS (R.take (k + 1))) := HSG.out PG hPG
              have HXG : Hid (ts.map IV.x = guardsP PG (q.guards.take 0)) := by show _ = _; rw [HX.out, hPG]; rfl
              obtain ⟨NG, hNG⟩ : ∃ NG, NG = q.guards.length := ⟨_, rfl⟩
              have HNG : Hid (NG = q.guards.length) := hNG
              rw [← hNG] at lgq
              clear hPG HSG HX HSP hNG hb lGp pne sl lGr lGo e0
              go_wp2_with fail
              go_loopw [4, 10, 11] (fun out i _ wr => ∃ (g G cG nt : Nat) (ts : List IV), g ≤ NG ∧ i = .int .i64 g ∧ out = .slice (some ⟨G, 0, none⟩) nt cG ∧ ts.length = nt ∧ nt ≤ 3 + 128000 * ia + 1000 * k + g ∧ JP w G cG ts wr ∧ ts.map IV.x = guardsP PG (q.guards.take g) ∧ OwnB wr G5 (pinK (k + 1)) ∧ G5 ≠ G ∧ JQ n0 Gr cr G xs R wr) (fun _ i _ _ => NG - (intOf i).toNat)
              case atStart => exact ⟨0, Go, cGo, nt, ts, by omega, rfl, rfl, HL.out, by omega, P5, HXG.out, O5.out, pne5, J5⟩
              case round =>
                clear O5 P5 J5 HXG HL pne5 hnt B5 l5 s4 sb
                obtain ⟨g, G, cG, nt, ts, hg, rfl, rfl, hl, hnt, jp, hx, o, pne, j⟩ := hrel
                have HL : Hid (ts.length = nt) := hl
                have HX : Hid (ts.map IV.x = guardsP PG (q.guards.take g)) := hx
                clear hl hx
                obtain ⟨ga, gc, aa, ac, ta, tc, x0, x1, x2, x3, f0, f1, f2⟩ := j.r k hlt3
                rw [← HQ.out] at x0 f0
                have sl := j.o.1
                have n0' := (own_cell j.o (k * 4) (by omega)).trans x0
                rw [← HNG.out] at n0'
                have lGr := j.lt
                have lG := jp.lt
                by_cases hlt4 : g < NG
                · have hlt4' : (g : Int) < NG := by omega
                  have hgl : g < q.guards.length := by rw [← HNG.out]; exact hlt4
                  have HSX : Hid (guardsP PG (q.guards.take (g + 1)) = addP (guardsP PG (q.guards.take g)) (partL (q.guards[g]?.getD ([], [], 0)).1)) := guardsP_snoc PG q.guards g hgl
                  have hl3 : (partL (q.guards[g]?.getD ([], [], 0)).1).length = 3 := partL_len3 (HGf.out g hgl)
                  obtain ⟨fb, fo, rfl, a', c', ca, cc, c0, c1, c2, iC, iD⟩ := f0.at g hgl
                  generalize (q.guards[g]?.getD ([], [], 0)).1 = C at *
                  generalize (q.guards[g]?.getD ([], [], 0)).2.2 = kz at *
                  have HPL : Hid ((partL C).length = 3) := hl3
                  clear f0 f1 f2 x0 x1 x2 x3 iD hl3
                  go_wp2_with fail
                  refine (spart_new _ 3 _ _ 2 _ _ C _ iC (by omega)).mono ?_
                  rintro ee w6 ⟨pa, pc, rfl, b6, i6, l6⟩
                  have jp6 := jp.below b6
                  have o6 := o.below b6
                  have j6 := j.below b6
                  have HL6 : Hid (∀ b o, pa = some ⟨b, o, none⟩ → b ≠ G) := fun b o e => by have := (l6 b o e).1; omega
                  clear jp o j b6 iC c0 c1 c2 n0' l6 lG lGr
                  go_wp2_with fail
                  refine (shas_any _ nt cG ts _ 3 _ (partL C) _ HL.out jp6.g (by omega) i6 (by omega)).mono ?_
                  rintro ee w7 ⟨rfl, b7⟩
                  have jp7 := jp6.below b7
                  have o7 := o6.below b7
                  have j7 := j6.below b7
                  have i7 := i6.below b7
                  obtain ⟨hv, hhv⟩ : ∃ hv, hv = hasI ts (partL C) := ⟨_, rfl⟩
                  have HV : Hid (hv = hasFrom (partL C) 0 (guardsP PG (q.guards.take g))) := by show _ = _; rw [hhv, hasI, HX.out]
                  rw [← hhv]
                  clear jp6 o6 j6 i6 b7 hhv
                  by_cases hneg : hv < 0
                  · go_wp2_with fail
                    refine (szero_any _).mono ?_
                    rintro ee w8 ⟨B1, B2, rfl, b8, y1, y12, y2, k1, k2⟩
                    have hfl : ∀ W, (Instr.field 127 (formV (some ⟨B1, 0, none⟩) 3 3 (some ⟨B2, 0, none⟩) 2 2 0) 0).run Tryz.prog W = .ok (.slice (some ⟨B1, 0, none⟩) 3 3) W := fun W => field_C _ _ _ _ _ _ _ W
                    have jp8 := jp7.below b8
                    have o8 := o7.below b8
                    have j8 := j7.below b8
                    have i8 := i7.below b8
                    clear jp7 o7 j7 i7 b8 y1 y12 y2 k2
                    go_wp2_with fail
                    refine (l4same_any _ _ 3 3 _ _ (partL C) [0, 0, 0] _ i8 (k1.ints' rfl) (by omega) (by omega)).mono ?_
                    rintro ee w9 ⟨rfl, b9⟩
                    have jp9 := jp8.below b9
                    have o9 := o8.below b9
                    have j9 := j8.below b9
                    have i9 := i8.below b9
                    clear jp8 o8 j8 i8 b9 k1 hfl
                    cases hz : eqB (partL C) [0, 0, 0]
                    · have HNZ : Hid (partL C ≠ [0, 0, 0]) := fun e => by rw [e] at hz; simp [eqB] at hz
                      have jo := jp9.o
                      rw [HL.out] at jo
                      have js := jp9.b.size
                      have lo9 := o9.lt
                      clear hz
                      go_wp2_with (at_builtin; go_must (refine wpList_append_lies _ rfl (.tmp 84) (.tmp 86) 72 rfl w.heap.size 23 i0 _ 1 24 Tryz.underlying72 hi hz0 hz1 hz2 rfl (by decide) _ _ _ rfl (jo.alloc _) ⟨w9.heap.size, 0, none⟩ 1 1 [.slice pa 3 pc] rfl rfl (news1 w9 _ _) oneSl (by omega) (by unfold maxLen; omega) (by omega) (by rw [World.size_alloc]; omega) _ rfl ?_); intro gg cp2 w10 hown hgrow hat hlt1)
                      have hat' : gg = G ∨ w9.heap.size < gg := by
                        rcases hat with h | h
                        · have h' : some G = some gg := h
                          simp only [Option.some.injEq] at h'
                          exact Or.inl h'.symm
                        · rw [World.size_alloc] at h
                          exact Or.inr (by omega)
                      have jp10 := jp9.app (s := ⟨pa, 3, pc, partL C⟩) HL.out rfl i9 HL6.out hown hgrow (by omega)
                      have o10 := o9.grown hgrow pne
                      have j10 := j9.grown hgrow hat'
                      have HXa : Hid ((ts ++ [(⟨pa, 3, pc, partL C⟩ : IV)]).map IV.x = guardsP PG (q.guards.take (g + 1))) := by
                        show _ = _
                        rw [List.map_append, HX.out, HSX.out, addP_new (by rw [← HV.out]; exact hneg) HNZ.out]; rfl
                      have HLa : Hid ((ts ++ [(⟨pa, 3, pc, partL C⟩ : IV)]).length = nt + 1) := by show _ = _; rw [List.length_append, HL.out]; rfl
                      have pne10 : G5 ≠ gg := by omega
                      clear hown hgrow hat jo jp9 o9 j9 i9 HL6 HNZ
                      go_wp2
                      go_roundw
                      case rel => exact ⟨g + 1, gg, cp2, nt + 1, _, by omega, by go_num, rfl, HLa.out, by omega, jp10, HXa.out, o10, pne10, j10⟩
                      case measure => simp [intOf]; omega
                    · have HXa : Hid (ts.map IV.x = guardsP PG (q.guards.take (g + 1))) := by
                        show _ = _
                        rw [HX.out, HSX.out, addP_zero (by simpa [eqB] using hz)]
                      clear hz HX
                      go_wp2
                      go_roundw
                      case rel => exact ⟨g + 1, G, cG, nt, ts, by omega, by go_num, rfl, HL.out, by omega, jp9, HXa.out, o9, pne, j9⟩
                      case measure => simp [intOf]; omega
                  · have HXa : Hid (ts.map IV.x = guardsP PG (q.guards.take (g + 1))) := by
                      show _ = _
                      rw [HX.out, HSX.out, addP_has (by rw [← HV.out]; exact hneg)]
                    clear HX
                    go_wp2
                    go_roundw
                    case rel => exact ⟨g + 1, G, cG, nt, ts, by omega, by go_num, rfl, HL.out, by omega, jp7, HXa.out, o7, pne, j7⟩
                    case measure => simp [intOf]; omega
                · obtain rfl : g = NG := by omega
                  have HXe : Hid (ts.map IV.x = rowsP PS (R.take (k + 1))) := by
                    show _ = _
                    rw [HX.out, List.take_of_length_le (by rw [← HNG.out]; exact Nat.le_refl _), HSG2.out]
                  clear f0 f1 f2 x0 x1 x2 x3 HX
                  go_wp2
                  go_roundw
                  case rel => exact ⟨k + 1, G, cG, nt, G5, c5, ts, by omega, by go_num, rfl, rfl, HL.out, by omega, jp, HXe.out, o, lG5, pne, j⟩
                  case measure => simp [intOf]; omega
            · obtain rfl : k = R.length := by omega
              have HXe : Hid (ts.map IV.x = actsP pots3 (ss.take (ia + 1))) := by
                show _ = _
                rw [HX.out, List.take_of_length_le (Nat.le_refl _), HSA2.out]
              have oe : OwnB wr G (pinsA (ss.take (ia + 1))) := o.ext (fun v _ => (HSB2.out v).symm)
              clear o HX
              go_wp2
              go_roundw
              case rel =>
                refine ⟨_, _, _, _, _, _, _, _, _, _, _, _, _, _, _, _, _, _, _, _, _, _, _, _, _, _, _, _, _, _, _, _, _, _, _, _, _, _, _, _, _, _, _, _, _, _, _, _, _, _, _, _, _, _, _, _, _, _, _, _, _, _, _, _, _, _, _, _, _, _, _, ?_, rfl⟩
                exact ⟨ia + 1, Go, cGo, nt, G, cG, ts, by omega, by go_num, rfl, rfl, HL.out, by omega, jp, HXe.out, oe, lGp, pne⟩
              case measure => simp [intOf]; omega
        · obtain rfl : ia = N := by omega
          have hall : ss.take ia = ss := List.take_of_length_le (by rw [HN.out]; exact Nat.le_refl _)
          have HXe : Hid (ts.map IV.x = catP ss) := by show _ = _; rw [HX.out, hall]; rfl
          have oe : OwnB wr Gp (pinsA ss) := by rw [hall] at p; exact p
          clear hall p HX
          go_wp2
          go_ret2
          exact ⟨G, cG, ts, nt, Gp, cp, rfl, HL.out, jp, HXe.out, by omega, oe, lGp⟩

end Go.Proofs.YtacjjhfbnbmnlaaGreatDoor

namespace Go.Proofs.YtacjjhfbnbmnlaaGreatDoor
open Go.RowKit Go.Deep
set_option linter.unusedVariables false
set_option maxRecDepth 100000

theorem put4 {W : World} {X : Nat} {vs : List Value} {T : TypeId} (h : Cel W X vs T) (hl : vs.length = 4) (v0 v1 v2 v3 : Value) :
    Cel ((((W.setCell ⟨X, 0, none⟩ v0).setCell ⟨X, 1, none⟩ v1).setCell ⟨X, 2, none⟩ v2).setCell ⟨X, 3, none⟩ v3) X [v0, v1, v2, v3] T ∧ Touch (fun z => z = X) W ((((W.setCell ⟨X, 0, none⟩ v0).setCell ⟨X, 1, none⟩ v1).setCell ⟨X, 2, none⟩ v2).setCell ⟨X, 3, none⟩ v3) := by
  refine ⟨?_, (((((Touch.refl (fun z => z = X) W).setCell rfl _).setCell rfl _).setCell rfl _).setCell rfl _)⟩
  have := (((h.set 0 v0).set 1 v1).set 2 v2).set 3 v3
  match vs, hl with
  | [a, b, c, d], _ => exact this
theorem FOff.empty {W : World} {S : Nat → Prop} {a : Option Addr} : FOff W S a [] := fun W' t i hi => by simp at hi
theorem JV.foff' {w W : World} {a : Option Addr} {n cap : Nat} {xs : List Value} {fs : List Frm} (j : JV w (.slice a n cap) n xs fs W) (hn : fs.length = n) : FOff W (fun k => k < w.heap.size) a fs := by
  obtain ⟨a', cap', e, h⟩ := j.foff hn
  simp only [Value.slice.injEq, true_and] at e
  obtain ⟨rfl, rfl⟩ := e
  exact h

set_option maxHeartbeats 3200000 in
theorem irow_stop (y : Way) (ga : Option Addr) (ng gc : Nat) (pa : Option Addr) (cp : Nat) (ta : Option Addr) (nt tc : Nat) (w : World) (hg : y.guards.length = ng) (hG : FormsAt w ga y.guards) (fg : ∀ k, k < ng → fitX 10000000 (y.guards[k]?.getD ([], [], 0))) (hg1 : ng ≤ 1048576) :
    Calls Tryz.prog 202 #[wayV ga ng gc pa cp ta nt tc true] w fun e w' => ∃ v, e = .returned v ∧ Below w.heap.size w w' ∧ RowX w' w.heap.size v (stopW y) := by
  have HGL : Hid (y.guards.length = ng) := hg
  have HFG : Hid _ := fg
  clear hg fg
  have B0 : Below w.heap.size w ((w.alloc (.cells #[.slice ga ng gc, .slice pa 3 cp, .slice ta nt tc, .bool true] 246)).alloc (.cells #[.slice none 0 0, .slice none 0 0, .slice none 0 0, .bool false] 135)) := ((Below.refl _ _).alloc (Nat.le_refl _) _).alloc (by simp) _
  have r0 := Cel.new (w.alloc (.cells #[.slice ga ng gc, .slice pa 3 cp, .slice ta nt tc, .bool true] 246)) [.slice none 0 0, .slice none 0 0, .slice none 0 0, .bool false] 135
  rw [World.size_alloc] at r0
  go_enter Tryz.func202, Tryz.ntmps202
  go_wp2_with fail
  refine (icopies_any _ _ _ y.guards _ HGL.out (hG.keep B0) HFG.out hg1).mono ?_
  rintro e w1 ⟨v1, xs1, rfl, j1⟩
  obtain ⟨a1, c1, rfl⟩ := j1.isSlice
  have B1 := B0.trans (j1.b.mono B0.size)
  have r1 := r0.below j1.b
  have g1 := j1.foff' HGL.out
  rw [World.size_alloc, World.size_alloc] at g1
  have lr := r1.lt
  obtain ⟨c0, c1', c2, c3⟩ := r1.four
  have y0 := r1.free 0
  have y1 := r1.free 1
  have y2 := r1.free 2
  have y3 := r1.free 3
  obtain ⟨x', T'⟩ := put4 r1 rfl (.slice a1 ng c1) (.slice none 0 0) (.slice none 0 0) (.bool true)
  obtain ⟨h0, h1, h2, h3⟩ := x'.four
  clear j1 r0 B0
  go_wp2
  refine bodyPost_ret (v := .agg #[.slice a1 ng c1, .slice none 0 0, .slice none 0 0, .bool true]) (by simp [results, Tryz.results202, go_sem, h0, h1, h2, h3]) rfl ?_
  refine ⟨_, rfl, B1.trans (T'.below B1.size (fun k hk => by omega)), a1, c1, none, 0, none, 0, ?_, (g1.touch (T'.mono (fun k hk => by omega))).mono (fun k hk => by omega), FOff.empty, FOff.empty⟩
  show _ = Value.agg #[.slice a1 y.guards.length c1, .slice none 0 0, .slice none 0 0, .bool true]
  rw [HGL.out]

set_option maxHeartbeats 3200000 in
theorem irow_end (y : Way) (ga : Option Addr) (ng gc : Nat) (pa : Option Addr) (cp : Nat) (ta : Option Addr) (nt tc : Nat) (w : World) (hp : y.pots.length = 3) (hg : y.guards.length = ng) (ht : y.tells.length = nt) (hP : FormsAt w pa y.pots) (hG : FormsAt w ga y.guards) (hT : FormsAt w ta y.tells) (fp : ∀ k, k < 3 → fitX 9000000 (y.pots[k]?.getD noX)) (fg : ∀ k, k < ng → fitX 10000000 (y.guards[k]?.getD ([], [], 0))) (ft : ∀ k, k < nt → fitX 10000000 (y.tells[k]?.getD ([], [], 0))) (hg1 : ng ≤ 1048576) (ht1 : nt ≤ 1048576) :
    Calls Tryz.prog 202 #[wayV ga ng gc pa cp ta nt tc false] w fun e w' => ∃ v, e = .returned v ∧ Below w.heap.size w w' ∧ RowX w' w.heap.size v (endW y) := by
  have HPL : Hid (y.pots.length = 3) := hp
  have HGL : Hid (y.guards.length = ng) := hg
  have HTL : Hid (y.tells.length = nt) := ht
  have HFP : Hid _ := fp
  have HFG : Hid _ := fg
  have HFT : Hid _ := ft
  clear hp hg ht fp fg ft
  have B0 : Below w.heap.size w ((w.alloc (.cells #[.slice ga ng gc, .slice pa 3 cp, .slice ta nt tc, .bool false] 246)).alloc (.cells #[.slice none 0 0, .slice none 0 0, .slice none 0 0, .bool false] 135)) := ((Below.refl _ _).alloc (Nat.le_refl _) _).alloc (by simp) _
  have r0 := Cel.new (w.alloc (.cells #[.slice ga ng gc, .slice pa 3 cp, .slice ta nt tc, .bool false] 246)) [.slice none 0 0, .slice none 0 0, .slice none 0 0, .bool false] 135
  have p0 := (Cel.new w [.slice ga ng gc, .slice pa 3 cp, .slice ta nt tc, .bool false] 246).alloc (.cells #[.slice none 0 0, .slice none 0 0, .slice none 0 0, .bool false] 135)
  rw [World.size_alloc] at r0
  go_enter Tryz.func202, Tryz.ntmps202
  go_upto_region 3 with fail
  generalize ((w.alloc (.cells #[.slice ga ng gc, .slice pa 3 cp, .slice ta nt tc, .bool false] 246)).alloc (.cells #[.slice none 0 0, .slice none 0 0, .slice none 0 0, .bool false] 135)) = W0 at *
  have KP : Hid (∀ W, Below W0.heap.size W0 W → Cel W w.heap.size [.slice ga ng gc, .slice pa 3 cp, .slice ta nt tc, .bool false] 246) := fun W hW => p0.below hW
  have KR : Hid (∀ W, Below W0.heap.size W0 W → Cel W (w.heap.size + 1) [.slice none 0 0, .slice none 0 0, .slice none 0 0, .bool false] 135) := fun W hW => r0.below hW
  have e0 : Below W0.heap.size W0 W0.drew := (Below.refl _ _).drew
  have hSS : (W0.drew.cell? ⟨w.heap.size, 0, none⟩ = some (.slice ga ng gc) ∧ W0.drew.cell? ⟨w.heap.size, 1, none⟩ = some (.slice pa 3 cp) ∧ W0.drew.cell? ⟨w.heap.size, 2, none⟩ = some (.slice ta nt tc) ∧ W0.drew.cell? ⟨w.heap.size, 3, none⟩ = some (.bool false)) ∧ True := ⟨(KP.out _ e0).four, trivial⟩
  have lr := r0.lt
  clear p0 r0
  refine wp_region_ends (fun w' => w'.cell? ⟨w.heap.size, 0, none⟩ = some (.slice ga ng gc) ∧ w'.cell? ⟨w.heap.size, 1, none⟩ = some (.slice pa 3 cp) ∧ w'.cell? ⟨w.heap.size, 2, none⟩ = some (.slice ta nt tc) ∧ w'.cell? ⟨w.heap.size, 3, none⟩ = some (.bool false)) (fun _ => True) 9 (by kernel_rfl) ?_
  refine wpAnyE_take0 (i := 0) (v := ?v0) rfl (by kernel_rfl) (by kernel_rfl) (by kernel_rfl) (by decide) (fun _ _ _ h => h) (Or.inl ⟨by rfl, ?hy0⟩) hSS ?_
  case hy0 => (intro wz hSw; (try dsimp only at hSw); go_simp; try (with_reducible rfl))
  refine wpAnyE_take0 (i := 1) (v := ?v1) rfl (by kernel_rfl) (by kernel_rfl) (by kernel_rfl) (by decide) (fun _ _ _ h => h) (Or.inl ⟨by rfl, ?hy1⟩) hSS ?_
  case hy1 => (intro wz hSw; (try dsimp only at hSw); go_simp; try (with_reducible rfl))
  refine wpAnyE_take0 (i := 3) (v := ?v3) rfl (by kernel_rfl) (by kernel_rfl) (by kernel_rfl) (by decide) (fun _ _ _ h => h) (Or.inl ⟨by rfl, ?hy3⟩) hSS ?_
  case hy3 => (intro wz hSw; (try dsimp only at hSw); go_simp; try (with_reducible rfl))
  refine wpAnyE_take0 (i := 5) (v := ?v5) rfl (by kernel_rfl) (by kernel_rfl) (by kernel_rfl) (by decide) (fun _ _ _ h => h) (Or.inl ⟨by rfl, ?hy5⟩) hSS ?_
  case hy5 => (intro wz hSw; (try dsimp only at hSw); go_simp; try (with_reducible rfl))
  refine wpAnyE_take0 (i := 6) (v := ?v6) rfl (by kernel_rfl) (by kernel_rfl) (by kernel_rfl) (by decide) (fun _ _ _ h => h) (Or.inl ⟨by rfl, ?hy6⟩) hSS ?_
  case hy6 => (intro wz hSw; (try dsimp only at hSw); go_simp; try (with_reducible rfl))
  clear hSS
  refine wpAnyE_one (i := 2) (by kernel_rfl) rfl (fun K hK => ?_)
  go_simp
  refine (icopies_any _ _ _ y.guards _ HGL.out ((hG.keep B0).keep e0) HFG.out hg1).mono ?_
  rintro ee w1 ⟨v1, xs1, rfl, j1⟩
  have e1 := below_of_drew j1.b
  obtain ⟨a1, c1, rfl⟩ := j1.isSlice
  have g1 : FOff w1 (fun k => k < W0.heap.size) a1 y.guards := j1.foff' HGL.out
  clear j1
  (try dsimp only)
  refine hK.out _ _ ⟨(KP.out _ e1).four, fun _ => trivial⟩ ?_
  clear hK K
  refine wpAnyE_one (i := 4) (by kernel_rfl) rfl (fun K hK => ?_)
  go_simp
  refine (iadds_any y _ _ _ _ _ _ _ _ _ _ HPL.out ((hP.keep B0).keep e1) HFP.out).mono ?_
  rintro ee w2 ⟨v2, xs2, rfl, j2⟩
  have e2 := e1.trans (j2.b.mono e1.size)
  obtain ⟨a2, c2, rfl⟩ := j2.isSlice
  have g2 := g1.below j2.b
  have s1 := e1.size
  have d2 : FOff w2 (fun k => k < w1.heap.size) a2 (endW y).adds := j2.foff' rfl
  clear j2 g1
  (try dsimp only)
  refine hK.out _ _ ⟨(KP.out _ e2).four, fun _ => trivial⟩ ?_
  clear hK K
  refine wpAnyE_one (i := 7) (by kernel_rfl) rfl (fun K hK => ?_)
  go_simp
  refine (icopies_any _ _ _ y.tells _ HTL.out ((hT.keep B0).keep e2) HFT.out ht1).mono ?_
  rintro ee w3 ⟨v3, xs3, rfl, j3⟩
  have e3 := e2.trans (j3.b.mono e2.size)
  obtain ⟨a3, c3, rfl⟩ := j3.isSlice
  have g3 := g2.below j3.b
  have d3 := d2.below j3.b
  have s2 := e2.size
  have s3 := e3.size
  have t3 : FOff w3 (fun k => k < w2.heap.size) a3 y.tells := j3.foff' HTL.out
  clear j3 g2 d2
  (try dsimp only)
  refine hK.out _ _ ⟨(KP.out _ e3).four, fun _ => trivial⟩ ?_
  clear hK K
  refine wpAnyE_one (i := 8) (by kernel_rfl) rfl (fun K hK => ?_)
  go_simp
  refine hK.out _ _ ⟨(KP.out _ e3).four, fun _ => trivial⟩ ?_
  clear hK K
  have r1 := KR.out _ e3
  have lr3 := r1.lt
  obtain ⟨q0, q1, q2, q3⟩ := r1.four
  have y0 := r1.free 0
  have y1 := r1.free 1
  have y2 := r1.free 2
  have y3 := r1.free 3
  obtain ⟨x', T'⟩ := put4 r1 rfl (.slice a1 ng c1) (.slice a2 3 c2) (.slice a3 nt c3) (.bool false)
  have p4 := (KP.out _ e3).touch T' (fun h => by have := h; omega)
  obtain ⟨h0, h1, h2, h3⟩ := x'.four
  refine wpAnyE_one (i := 9) (by kernel_rfl) rfl (fun K hK => ?_)
  go_simp
  refine hK.out _ _ ⟨p4.four, fun h => absurd (show true = false from h) (by decide)⟩ ?_
  clear hK K
  refine wpAnyE_done (by kernel_rfl) ?_ _
  have B3 := B0.trans (e3.mono B0.size)
  have sB := B0.size
  have gg := (g3.touch (T'.mono (fun k hk => by omega))).mono (S' := fun k => k < w.heap.size) (fun k hk => by omega)
  have dd := (d3.touch (T'.mono (fun k hk => by omega))).mono (S' := fun k => k < w.heap.size) (fun k hk => by omega)
  have tt := (t3.touch (T'.mono (fun k hk => by omega))).mono (S' := fun k => k < w.heap.size) (fun k hk => by omega)
  have BB := B3.trans (T'.below B3.size (fun k hk => by omega))
  clear q0 q1 q2 q3 y0 y1 y2 y3 r1 p4 x' T' g3 d3 t3 KP KR
  go_wp2
  refine bodyPost_ret (v := .agg #[.slice a1 ng c1, .slice a2 3 c2, .slice a3 nt c3, .bool false]) (by simp [results, Tryz.results202, go_sem, h0, h1, h2, h3]) rfl ?_
  refine ⟨_, rfl, BB, a1, c1, a2, c2, a3, c3, ?_, gg, dd, tt⟩
  show _ = Value.agg #[.slice a1 y.guards.length c1, .slice a2 3 c2, .slice a3 y.tells.length c3, .bool false]
  rw [HGL.out, HTL.out]

end Go.Proofs.YtacjjhfbnbmnlaaGreatDoor

namespace Go.Proofs.YtacjjhfbnbmnlaaGreatDoor
open Go.RowKit Go.Deep
set_option linter.unusedVariables false
set_option maxRecDepth 100000

/-- Three forms in memory of their own, their lists anywhere. -/
structure JC (base : Nat) (G cap : Nat) (xs : List Value) (fs : List Frm) (W : World) : Prop where
  o : W.ownsRow base 127 3 (.slice (some ⟨G, 0, none⟩) 3 cap) 3 xs
  t : TermsOk W G xs fs 3
theorem JC.below {base : Nat} {W W' : World} {G cap : Nat} {xs : List Value} {fs : List Frm} (j : JC base G cap xs fs W) (h : Below W.heap.size W W') : JC base G cap xs fs W' := ⟨own_below j.o h, j.t.below h⟩
theorem JC.past {base : Nat} {W W' : World} {X G cap : Nat} {xs : List Value} {fs : List Frm} (j : JC base G cap xs fs W) (hX : X ≠ G) (hx : ∀ o q, W.cell? ⟨X, o, none⟩ ≠ some (.int .i64 q)) (t : Touch (fun z => z = X) W W') : JC base G cap xs fs W' := by
  refine ⟨own_off j.o (fun g hg hs => ?_) t, fun i hi => ?_⟩
  · have h' : some G = some g := hg
    simp only [Option.some.injEq] at h'
    exact hX (by rw [h']; exact hs.symm)
  · obtain ⟨a', c', ca, cc, e0, e1, e2, i1, i2, n1, n2⟩ := j.t i hi
    exact ⟨a', c', ca, cc, e0, e1, e2, i1.past hx t, i2.past hx t, n1, n2⟩
theorem JC.lt {base : Nat} {W : World} {G cap : Nat} {xs : List Value} {fs : List Frm} (j : JC base G cap xs fs W) : base ≤ G ∧ G < W.heap.size := by
  rcases j.o.2 with ⟨h, _⟩ | ⟨g, cap', cur, h, hg, hh, _⟩
  · cases h
  · simp only [Value.slice.injEq, Option.some.injEq, Addr.mk.injEq, and_true, true_and] at h
    obtain ⟨rfl, _⟩ := h
    exact ⟨hg, lt_of_block hh⟩
theorem JC.frz {base : Nat} {W : World} {G cap : Nat} {xs : List Value} {fs : List Frm} (j : JC base G cap xs fs W) (i : Nat) : W.frozen? ⟨G, i, none⟩ = false := by
  rcases j.o.2 with ⟨h, _⟩ | ⟨g, cap', cur, h, hg, hh, _⟩
  · cases h
  · simp only [Value.slice.injEq, Option.some.injEq, Addr.mk.injEq, and_true, true_and] at h
    obtain ⟨rfl, _⟩ := h
    have : Cel W G cur.toList 127 := by unfold Cel; simpa using hh
    exact this.free i
/-- One of them is overwritten. -/
theorem JC.put {base : Nat} {W : World} {G cp : Nat} {xs : List Value} {fs : List Frm} (j : JC base G cp xs fs W) (hn : fs.length = 3) {p : Nat} (hp : p < 3) {B1 B2 ca cc : Nat} {C D : List Int} {K : Int} (k1 : Blk W B1 C) (l1 : C.length = 3) (k2 : Blk W B2 D) (l2 : D.length = 2) (n1 : B1 ≠ G) (n2 : B2 ≠ G) :
    FormsAt (((W.setCell ⟨G, p * 3, none⟩ (.slice (some ⟨B1, 0, none⟩) 3 ca)).setCell ⟨G, p * 3 + 1, none⟩ (.slice (some ⟨B2, 0, none⟩) 2 cc)).setCell ⟨G, p * 3 + 2, none⟩ (.int .i64 K)) (some ⟨G, 0, none⟩) (fs.set p (C, D, K)) := by
  have hT := j.t
  have hx := j.o.1
  rcases j.o.2 with ⟨h, _⟩ | ⟨g, cap', cur, h, hg, hh, hl, _, hcs, ht⟩
  · cases h
  simp only [Value.slice.injEq, Option.some.injEq, Addr.mk.injEq, and_true, true_and] at h
  obtain ⟨rfl, rfl⟩ := h
  have cel : Cel W G cur.toList 127 := by unfold Cel; simpa using hh
  have hlen : 9 ≤ cur.toList.length := by
    have := congrArg List.length ht
    rw [List.length_take, hx] at this
    omega
  have hat : ∀ i, i < 9 → cur.toList[i]? = xs[i]? := fun i hi => by
    rw [← ht, List.getElem?_take, if_pos (by omega)]
  have c3 := ((cel.set (p * 3) (.slice (some ⟨B1, 0, none⟩) 3 ca)).set (p * 3 + 1) (.slice (some ⟨B2, 0, none⟩) 2 cc)).set (p * 3 + 2) (.int .i64 K)
  have tt : Touch (fun x => x = G) W (((W.setCell ⟨G, p * 3, none⟩ (.slice (some ⟨B1, 0, none⟩) 3 ca)).setCell ⟨G, p * 3 + 1, none⟩ (.slice (some ⟨B2, 0, none⟩) 2 cc)).setCell ⟨G, p * 3 + 2, none⟩ (.int .i64 K)) := (((Touch.refl (fun x => x = G) W).setCell rfl _).setCell rfl _).setCell rfl _
  have m1 := (k1.ints' l1).by tt (fun b o e => by simp only [Option.some.injEq, Addr.mk.injEq, and_true] at e; omega)
  have m2 := (k2.ints' l2).by tt (fun b o e => by simp only [Option.some.injEq, Addr.mk.injEq, and_true] at e; omega)
  intro i hi
  rw [List.length_set, hn] at hi
  by_cases e : p = i
  · subst e
    rw [List.getElem?_set_self (by omega)]
    refine ⟨G, 0, rfl, _, _, ca, cc, ?_, ?_, ?_, m1, m2⟩
    · rw [Nat.zero_add, c3.cell, List.getElem?_set_ne (by omega), List.getElem?_set_ne (by omega), List.getElem?_set_self (by omega)]
    · rw [Nat.zero_add, c3.cell, List.getElem?_set_ne (by omega), List.getElem?_set_self (by rw [List.length_set]; omega)]
    · rw [Nat.zero_add, c3.cell, List.getElem?_set_self (by rw [List.length_set, List.length_set]; omega)]; rfl
  · rw [List.getElem?_set_ne e]
    obtain ⟨a', c', x, y, e0, e1, e2, i1, i2, q1, q2⟩ := hT i hi
    refine ⟨G, 0, rfl, a', c', x, y, ?_, ?_, ?_, i1.by tt q1, i2.by tt q2⟩
    · rw [Nat.zero_add, c3.cell, List.getElem?_set_ne (by omega), List.getElem?_set_ne (by omega), List.getElem?_set_ne (by omega), hat _ (by omega)]; exact e0
    · rw [Nat.zero_add, c3.cell, List.getElem?_set_ne (by omega), List.getElem?_set_ne (by omega), List.getElem?_set_ne (by omega), hat _ (by omega)]; exact e1
    · rw [Nat.zero_add, c3.cell, List.getElem?_set_ne (by omega), List.getElem?_set_ne (by omega), List.getElem?_set_ne (by omega), hat _ (by omega)]; exact e2

theorem addr_add (b off j : Nat) : (⟨b, off, none⟩ : Addr).add j = ⟨b, off + j, none⟩ := by
  by_cases h0 : j = 0
  · subst h0; simp [Addr.add]
  · simp [Addr.add, h0]

set_option maxHeartbeats 1600000 in
theorem iclone3_any (pa : Option Addr) (cp : Nat) (fs : List Frm) (w : World) (hn : fs.length = 3) (hP : FormsAt w pa fs) :
    Calls Tryz.prog 232 #[.slice pa 3 cp] w fun e w' => ∃ G cap xs, e = .returned (.slice (some ⟨G, 0, none⟩) 3 cap) ∧ Below w.heap.size w w' ∧ JC w.heap.size G cap xs fs w' := by
  obtain ⟨zi, hi, hz0, hz1, hz2⟩ := info_parts Tryz.infoForm
  obtain ⟨b, off, rfl, a0, c0, x0, y0, p00, p01, p02, i0, j0⟩ := hP 0 (by omega)
  obtain ⟨b1, off1, e1, a1, c1, x1, y1, p10, p11, p12, i1, j1⟩ := hP 1 (by omega)
  obtain ⟨b2, off2, e2, a2, c2, x2, y2, p20, p21, p22, i2, j2⟩ := hP 2 (by omega)
  simp only [Option.some.injEq, Addr.mk.injEq, and_true] at e1 e2
  obtain ⟨rfl, rfl⟩ := e1
  obtain ⟨rfl, rfl⟩ := e2
  have A : Below w.heap.size w (w.alloc (.cells #[] 127)) := (Below.refl _ _).alloc (Nat.le_refl _) _
  have HNW : Hid (∀ j u, ([.slice a0 3 x0, .slice c0 2 y0, .int .i64 (fs[0]?.getD ([], [], 0)).2.2, .slice a1 3 x1, .slice c1 2 y1, .int .i64 (fs[1]?.getD ([], [], 0)).2.2, .slice a2 3 x2, .slice c2 2 y2, .int .i64 (fs[2]?.getD ([], [], 0)).2.2] : List Value)[j]? = some u → (w.alloc (.cells #[] 127)).cell? ((⟨b, off, none⟩ : Addr).add j) = some u) := fun j u hu => by
    rw [addr_add]
    have key : ∀ q v, w.cell? ⟨b, q, none⟩ = some v → (w.alloc (.cells #[] 127)).cell? ⟨b, q, none⟩ = some v := fun q v h => by rw [A.cell (p := ⟨b, q, none⟩) (block_lt h)]; exact h
    match j with
    | 0 => simp only [List.getElem?_cons_zero, Option.some.injEq] at hu; subst hu; exact key _ _ p00
    | 1 => simp only [List.getElem?_cons_zero, List.getElem?_cons_succ, Option.some.injEq] at hu; subst hu; exact key _ _ p01
    | 2 => simp only [List.getElem?_cons_zero, List.getElem?_cons_succ, Option.some.injEq] at hu; subst hu; exact key _ _ p02
    | 3 => simp only [List.getElem?_cons_zero, List.getElem?_cons_succ, Option.some.injEq] at hu; subst hu; exact key _ _ p10
    | 4 => simp only [List.getElem?_cons_zero, List.getElem?_cons_succ, Option.some.injEq] at hu; subst hu; exact key _ _ p11
    | 5 => simp only [List.getElem?_cons_zero, List.getElem?_cons_succ, Option.some.injEq] at hu; subst hu; exact key _ _ p12
    | 6 => simp only [List.getElem?_cons_zero, List.getElem?_cons_succ, Option.some.injEq] at hu; subst hu; exact key _ _ p20
    | 7 => simp only [List.getElem?_cons_zero, List.getElem?_cons_succ, Option.some.injEq] at hu; subst hu; exact key _ _ p21
    | 8 => simp only [List.getElem?_cons_zero, List.getElem?_cons_succ, Option.some.injEq] at hu; subst hu; exact key _ _ p22
    | j + 9 => simp at hu
  have HOL := World.ownsRow_lit (e := 127) (size := 3) (base := w.heap.size) w #[] 0 (Nat.le_refl _) (by unfold maxLen; omega) rfl
  have HNX : Hid (∀ u ∈ ([.slice a0 3 x0, .slice c0 2 y0, .int .i64 (fs[0]?.getD ([], [], 0)).2.2, .slice a1 3 x1, .slice c1 2 y1, .int .i64 (fs[1]?.getD ([], [], 0)).2.2, .slice a2 3 x2, .slice c2 2 y2, .int .i64 (fs[2]?.getD ([], [], 0)).2.2] : List Value), u.oneCell' = true) := by
    show ∀ u ∈ _, _
    simp [Value.oneCell']
  have I0 := i0.below A
  have J0 := j0.below A
  have I1 := i1.below A
  have J1 := j1.below A
  have I2 := i2.below A
  have J2 := j2.below A
  have l0 := i0.blt (by omega)
  have m0 := j0.blt (by omega)
  have l1 := i1.blt (by omega)
  have m1 := j1.blt (by omega)
  have l2 := i2.blt (by omega)
  have m2 := j2.blt (by omega)
  have hnil : ∀ w, (binOp .eql 133 (.slice (some ⟨b, off, none⟩) 3 cp) (.slice none 0 0)).run Tryz.prog w = .ok (.bool false) w := fun w => Go.Lib.run_eql_slice_nil w _ _ _ _ _ _ _ Tryz.underlying133
  clear hP p00 p01 p02 p10 p11 p12 p20 p21 p22 i0 j0 i1 j1 i2 j2
  go_enter Tryz.func232, Tryz.ntmps232
  go_wp2_with (at_builtin; go_must (refine wpList_append_lies _ rfl (.tmp 5) (.tmp 6) 133 rfl w.heap.size 127 zi _ 3 56 Tryz.underlying133 hi hz0 hz1 hz2 rfl (by decide) (.slice (some ⟨w.heap.size, 0, none⟩) 0 0) 0 [] rfl HOL ⟨b, off, none⟩ 3 cp _ rfl rfl HNW.out HNX.out (by omega) (by unfold maxLen; omega) (by omega) (by rw [World.size_alloc]; omega) _ rfl ?_); intro g cpg w1 hown hgrow hat hlt1)
  have hg : w.heap.size ≤ g := by
    rcases hat with h | h
    · have h' : some w.heap.size = some g := h
      simp only [Option.some.injEq] at h'
      omega
    · rw [World.size_alloc] at h; omega
  have gT : Touch (fun k => k = w.heap.size) (w.alloc (.cells #[] 127)) w1 := ⟨hgrow.os, hgrow.tape, hgrow.output, hgrow.size, fun z hz hn => hgrow.block z hz (fun e => hn (by have e' : some z = some w.heap.size := e; simpa using e'))⟩
  have ty : ∀ {a : Option Addr} {n : Nat} {zs : List Int}, Ints (w.alloc (.cells #[] 127)) a n zs → (∀ b o, a = some ⟨b, o, none⟩ → b < w.heap.size) → Ints w1 a n zs := fun h hb => h.by gT (fun b o e => by have := hb b o e; omega)
  have bb : Below w.heap.size w w1 := A.grown hgrow A.size (fun k hk => by have h' : some w.heap.size = some k := hk; simp only [Option.some.injEq] at h'; omega)
  have jj : JC w.heap.size g cpg _ fs w1 := ⟨hown, fun i hi => by
    match i, hi with
    | 0, _ => exact ⟨a0, c0, x0, y0, rfl, rfl, rfl, ty I0 l0, ty J0 m0, fun b o e => by have := l0 b o e; omega, fun b o e => by have := m0 b o e; omega⟩
    | 1, _ => exact ⟨a1, c1, x1, y1, rfl, rfl, rfl, ty I1 l1, ty J1 m1, fun b o e => by have := l1 b o e; omega, fun b o e => by have := m1 b o e; omega⟩
    | 2, _ => exact ⟨a2, c2, x2, y2, rfl, rfl, rfl, ty I2 l2, ty J2 m2, fun b o e => by have := l2 b o e; omega, fun b o e => by have := m2 b o e; omega⟩⟩
  clear hown hgrow hat gT ty I0 J0 I1 J1 I2 J2 l0 m0 l1 m1 l2 m2
  go_wp2
  go_ret
  exact ⟨g, cpg, rfl, bb, _, jj⟩

set_option maxHeartbeats 6400000 in
theorem iadding_any (y : Way) (p : Nat) (hp : p < 3) (X : Frm) (ga : Option Addr) (ng gc : Nat) (pa : Option Addr) (cp : Nat) (ta : Option Addr) (nt tc : Nat) (st : Bool) (fa : Option Addr) (fc : Nat) (fd : Option Addr) (fe : Nat) (w : World) (hl : y.pots.length = 3) (hP : FormsAt w pa y.pots) (hX1 : Ints w fa 3 X.1) (hX2 : Ints w fd 2 X.2.1) (h1 : fitX 10000000 (y.pots[p]?.getD noX)) (h2 : fitX 10000000 X) (h3 : fitX 10000000 (plusX (y.pots[p]?.getD noX) X)) :
    Calls Tryz.prog 217 #[wayV ga ng gc pa cp ta nt tc st, .int .i64 (p : Int), formV fa 3 fc fd 2 fe X.2.2] w fun e w' => ∃ G cG, e = .returned (wayV ga ng gc (some ⟨G, 0, none⟩) cG ta nt tc st) ∧ Below w.heap.size w w' ∧ FormsAt w' (some ⟨G, 0, none⟩) (y.add p X).pots := by
  have HL : Hid (y.pots.length = 3) := hl
  have H1 : Hid _ := h1
  have H2 : Hid _ := h2
  have H3 : Hid _ := h3
  clear hl h1 h2 h3
  obtain ⟨W0, hW0⟩ : ∃ W0, W0 = ((w.alloc (.cells #[.slice ga ng gc, .slice pa 3 cp, .slice ta nt tc, .bool st] 246)).alloc (.cells #[.slice fa 3 fc, .slice fd 2 fe, .int .i64 X.2.2] 127)).alloc (.cells #[.slice none 0 0, .slice none 0 0, .slice none 0 0, .bool false] 246) := ⟨_, rfl⟩
  have q0 := ((Cel.new w [.slice ga ng gc, .slice pa 3 cp, .slice ta nt tc, .bool st] 246).alloc (.cells #[.slice fa 3 fc, .slice fd 2 fe, .int .i64 X.2.2] 127)).alloc (.cells #[.slice none 0 0, .slice none 0 0, .slice none 0 0, .bool false] 246)
  have f0 := (Cel.new (w.alloc (.cells #[.slice ga ng gc, .slice pa 3 cp, .slice ta nt tc, .bool st] 246)) [.slice fa 3 fc, .slice fd 2 fe, .int .i64 X.2.2] 127).alloc (.cells #[.slice none 0 0, .slice none 0 0, .slice none 0 0, .bool false] 246)
  have r0 := Cel.new ((w.alloc (.cells #[.slice ga ng gc, .slice pa 3 cp, .slice ta nt tc, .bool st] 246)).alloc (.cells #[.slice fa 3 fc, .slice fd 2 fe, .int .i64 X.2.2] 127)) [.slice none 0 0, .slice none 0 0, .slice none 0 0, .bool false] 246
  rw [World.size_alloc] at f0
  rw [World.size_alloc, World.size_alloc] at r0
  have B0 : Below w.heap.size w W0 := by rw [hW0]; exact (((Below.refl _ _).alloc (Nat.le_refl _) _).alloc (by simp) _).alloc (by simp; omega) _
  rw [← hW0] at q0 f0 r0
  go_enter Tryz.func217, Tryz.ntmps217
  go_upto_region 1 with fail
  rw [← hW0]
  clear hW0
  obtain ⟨c0, c1, c2, c3⟩ := q0.four
  have z0 := q0.lt
  have z1 := f0.lt
  have z2 := r0.lt
  go_wp2_with fail
  refine (iclone3_any _ _ y.pots _ HL.out (hP.keep B0)).mono ?_
  rintro e w1 ⟨G, cG, xs, rfl, b1, jG⟩
  have lG := jG.lt
  have q1 := q0.below b1
  have f1 := f0.below b1
  have r1 := r0.below b1
  have B1 := B0.trans (b1.mono B0.size)
  have sz1 := b1.size
  have x1 := hX1.below B1
  have x2 := hX2.below B1
  clear q0 f0 r0 c0 c1 c2 c3 b1
  obtain ⟨c0, c1, c2, c3⟩ := q1.four
  have y1 := q1.free 1
  have T1 : Touch (fun k => k = w.heap.size) w1 (w1.setCell ⟨w.heap.size, 1, none⟩ (.slice (some ⟨G, 0, none⟩) 3 cG)) := Touch.setCell (S := fun k => k = w.heap.size) (Touch.refl _ _) rfl _
  have q2 := q1.set 1 (.slice (some ⟨G, 0, none⟩) 3 cG)
  simp only [List.set_cons_zero, List.set_cons_succ] at q2
  have f2 := f1.touch T1 (fun h => by have := h; omega)
  have r2 := r1.touch T1 (fun h => by have := h; omega)
  have B2 := B1.trans (T1.below B1.size (fun k hk => by omega))
  have j2 := jG.past (by omega) (boxNo q1) T1
  have u1 := x1.past (boxNo q1) T1
  have u2 := x2.past (boxNo q1) T1
  have s2 : w1.heap.size ≤ (w1.setCell ⟨w.heap.size, 1, none⟩ (.slice (some ⟨G, 0, none⟩) 3 cG)).heap.size := T1.size
  go_upto_region 2 with fail
  clear q1 f1 r1 jG x1 x2 T1 B1 c0 c1 c2 c3 y1
  generalize (w1.setCell ⟨w.heap.size, 1, none⟩ (.slice (some ⟨G, 0, none⟩) 3 cG)) = w2 at *
  obtain ⟨pa', pc', pca, pcc, d0, d1, d2, iC, iD, nC, nD⟩ := j2.t p hp
  obtain ⟨PX, hPX⟩ : ∃ PX, PX = y.pots[p]?.getD ([], [], 0) := ⟨_, rfl⟩
  have HPX : Hid (y.pots[p]?.getD noX = PX) := hPX.symm
  rw [← hPX] at d2 iC iD
  clear hPX
  have g0 : w2.cell? ⟨G, p * 3, none⟩ = some (.slice pa' 3 pca) := (own_cell j2.o _ (by omega)).trans d0
  have g1 : w2.cell? ⟨G, p * 3 + 1, none⟩ = some (.slice pc' 2 pcc) := (own_cell j2.o _ (by omega)).trans d1
  have g2 : w2.cell? ⟨G, p * 3 + 2, none⟩ = some (.int .i64 PX.2.2) := (own_cell j2.o _ (by omega)).trans d2
  have lG2 := j2.lt
  obtain ⟨-, m1, -, -⟩ := q2.four
  obtain ⟨n0, n1, n2, -, -, -⟩ := f2.trio
  have hSS : (w2.drew.cell? ⟨w.heap.size, 1, none⟩ = some (.slice (some ⟨G, 0, none⟩) 3 cG) ∧ w2.drew.cell? ⟨w.heap.size + 1, 0, none⟩ = some (.slice fa 3 fc) ∧ w2.drew.cell? ⟨w.heap.size + 1, 1, none⟩ = some (.slice fd 2 fe) ∧ w2.drew.cell? ⟨w.heap.size + 1, 2, none⟩ = some (.int .i64 X.2.2)) ∧ (w2.drew.cell? ⟨G, p * 3, none⟩ = some (.slice pa' 3 pca) ∧ w2.drew.cell? ⟨G, p * 3 + 1, none⟩ = some (.slice pc' 2 pcc) ∧ w2.drew.cell? ⟨G, p * 3 + 2, none⟩ = some (.int .i64 PX.2.2)) := ⟨⟨m1, n0, n1, n2⟩, g0, g1, g2⟩
  have hpI : (p : Int) < 3 := by omega
  refine wp_region_ends (fun w' => w'.cell? ⟨w.heap.size, 1, none⟩ = some (.slice (some ⟨G, 0, none⟩) 3 cG) ∧ w'.cell? ⟨w.heap.size + 1, 0, none⟩ = some (.slice fa 3 fc) ∧ w'.cell? ⟨w.heap.size + 1, 1, none⟩ = some (.slice fd 2 fe) ∧ w'.cell? ⟨w.heap.size + 1, 2, none⟩ = some (.int .i64 X.2.2)) (fun w' => w'.cell? ⟨G, p * 3, none⟩ = some (.slice pa' 3 pca) ∧ w'.cell? ⟨G, p * 3 + 1, none⟩ = some (.slice pc' 2 pcc) ∧ w'.cell? ⟨G, p * 3 + 2, none⟩ = some (.int .i64 PX.2.2)) 10 (by kernel_rfl) ?_
  refine wpAnyE_take0 (i := 0) (v := ?v0) rfl (by kernel_rfl) (by kernel_rfl) (by kernel_rfl) (by decide) (fun _ _ _ h => h) (Or.inl ⟨by rfl, ?hy0⟩) hSS ?_
  case hy0 => (intro wz hSw; (try dsimp only at hSw); go_simp; try (with_reducible rfl))
  refine wpAnyE_take0 (i := 1) (v := ?v1) rfl (by kernel_rfl) (by kernel_rfl) (by kernel_rfl) (by decide) (fun _ _ _ h => h) (Or.inl ⟨by rfl, ?hy1⟩) hSS ?_
  case hy1 => (intro wz hSw; (try dsimp only at hSw); go_simp; try (with_reducible rfl))
  refine wpAnyE_take0 (i := 2) (v := ?v2) rfl (by kernel_rfl) (by kernel_rfl) (by kernel_rfl) (by decide) (fun _ _ _ h => h) (Or.inl ⟨by rfl, ?hy2⟩) hSS ?_
  case hy2 => (intro wz hSw; (try dsimp only at hSw); go_simp; try (with_reducible rfl))
  refine wpAnyE_take0 (i := 3) (v := ?v3) rfl (by kernel_rfl) (by kernel_rfl) (by kernel_rfl) (by decide) (fun _ _ _ h => h) (Or.inl ⟨by rfl, ?hy3⟩) hSS ?_
  case hy3 => (intro wz hSw; (try dsimp only at hSw); go_simp; try (with_reducible rfl))
  refine wpAnyE_take0 (i := 4) (v := ?v4) rfl (by kernel_rfl) (by kernel_rfl) (by kernel_rfl) (by decide) (fun _ _ _ h => h) (Or.inl ⟨by rfl, ?hy4⟩) hSS ?_
  case hy4 => (intro wz hSw; (try dsimp only at hSw); go_simp; try (with_reducible rfl))
  refine wpAnyE_take0 (i := 5) (v := ?v5) rfl (by kernel_rfl) (by kernel_rfl) (by kernel_rfl) (by decide) (fun _ _ _ h => h) (Or.inl ⟨by rfl, ?hy5⟩) hSS ?_
  case hy5 => (intro wz hSw; (try dsimp only at hSw); go_simp; try (with_reducible rfl))
  refine wpAnyE_take0 (i := 6) (v := ?v6) rfl (by kernel_rfl) (by kernel_rfl) (by kernel_rfl) (by decide) (fun _ _ _ h => h) (Or.inl ⟨by rfl, ?hy6⟩) hSS ?_
  case hy6 => (intro wz hSw; (try dsimp only at hSw); go_simp; try (with_reducible rfl))
  refine wpAnyE_take1 (i := 7) (v := ?v7) rfl rfl (by kernel_rfl) (by kernel_rfl) (by kernel_rfl) (by decide) (by rfl) (by simp [Region.binds]) (fun _ _ _ h => h) (Or.inl ⟨by rfl, ?hy7⟩) hSS ?_
  case hy7 => (intro wz hSw; (try dsimp only at hSw); go_simp; try (with_reducible rfl))
  refine wpAnyE_take0 (i := 8) (v := ?v8) rfl (by kernel_rfl) (by kernel_rfl) (by kernel_rfl) (by decide) (fun _ _ _ h => h) (Or.inl ⟨by rfl, ?hy8⟩) hSS ?_
  case hy8 => (intro wz hSw; (try dsimp only at hSw); go_simp; try (with_reducible rfl))
  refine wpAnyE_one (i := 9) (by kernel_rfl) rfl (fun K hK => ?_)
  go_simp
  refine (iaddX_any _ _ _ _ PX _ _ _ _ X _ (iC.below (Below.refl _ _).drew) (iD.below (Below.refl _ _).drew) (u1.below (Below.refl _ _).drew) (u2.below (Below.refl _ _).drew) (by rw [← HPX.out]; exact H1.out) H2.out (by rw [← HPX.out]; exact H3.out)).mono ?_
  rintro ee w3 ⟨E1, E2, k1', k2', rfl, bd, y1, y2, y3, v1, v2⟩
  have b3 := below_of_drew bd
  have y1x : w2.heap.size ≤ E1 := y1
  have y3x : w2.heap.size ≤ E2 := y3
  have j3 := j2.below b3
  have q3 := q2.below b3
  have f3 := f2.below b3
  have r3 := r2.below b3
  have s3 := b3.size
  obtain ⟨-, m1', -, -⟩ := q3.four
  obtain ⟨n0', n1', n2', -, -, -⟩ := f3.trio
  have hS3 : (w3.cell? ⟨w.heap.size, 1, none⟩ = some (.slice (some ⟨G, 0, none⟩) 3 cG) ∧ w3.cell? ⟨w.heap.size + 1, 0, none⟩ = some (.slice fa 3 fc) ∧ w3.cell? ⟨w.heap.size + 1, 1, none⟩ = some (.slice fd 2 fe) ∧ w3.cell? ⟨w.heap.size + 1, 2, none⟩ = some (.int .i64 X.2.2)) ∧ (w3.cell? ⟨G, p * 3, none⟩ = some (.slice pa' 3 pca) ∧ w3.cell? ⟨G, p * 3 + 1, none⟩ = some (.slice pc' 2 pcc) ∧ w3.cell? ⟨G, p * 3 + 2, none⟩ = some (.int .i64 PX.2.2)) := ⟨⟨m1', n0', n1', n2'⟩, (b3.cell (p := ⟨G, p * 3, none⟩) lG2.2).trans g0, (b3.cell (p := ⟨G, p * 3 + 1, none⟩) lG2.2).trans g1, (b3.cell (p := ⟨G, p * 3 + 2, none⟩) lG2.2).trans g2⟩
  (try dsimp only)
  refine hK.out _ _ ⟨hS3.1, fun _ => hS3.2⟩ ?_
  clear hK K hSS
  refine wpAnyE_one (i := 10) (by kernel_rfl) rfl (fun K hK => ?_)
  go_simp
  refine hK.out _ _ ⟨hS3.1, fun h => absurd (show true = false from h) (by decide)⟩ ?_
  clear hK K
  have FPN := j3.put HL.out hp (ca := k1') (cc := k2') (K := (plusX PX X).2.2) v1 (by rw [← HPX.out]; exact H3.out.c) v2 (by rw [← HPX.out]; exact H3.out.d) (by omega) (by omega)
  have fz0 := j3.frz (p * 3)
  have fz1 := j3.frz (p * 3 + 1)
  have fz2 := j3.frz (p * 3 + 2)
  obtain ⟨h0', h1', h2'⟩ := hS3.2
  have TT : Touch (fun q => q = G) w3 (((w3.setCell ⟨G, p * 3, none⟩ (.slice (some ⟨E1, 0, none⟩) 3 k1')).setCell ⟨G, p * 3 + 1, none⟩ (.slice (some ⟨E2, 0, none⟩) 2 k2')).setCell ⟨G, p * 3 + 2, none⟩ (.int .i64 (plusX PX X).2.2)) := (((Touch.refl (fun q => q = G) w3).setCell rfl _).setCell rfl _).setCell rfl _
  have q4 := q3.touch TT (fun h => by have := h; omega)
  have f4 := f3.touch TT (fun h => by have := h; omega)
  have r4 := r3.touch TT (fun h => by have := h; omega)
  have B4 := (B2.trans (b3.mono B2.size)).trans (TT.below (by have := B2.size; omega) (fun q hq => by omega))
  obtain ⟨o0, o1, o2, o3⟩ := q4.four
  obtain ⟨t0, t1, t2, -, -, -⟩ := f4.trio
  have sTT := TT.size
  refine wpAnyE_one (i := 11) (by kernel_rfl) rfl (fun K hK => ?_)
  go_simp
  refine hK.out _ _ ⟨⟨o1, t0, t1, t2⟩, fun h => absurd (show true = false from h) (by decide)⟩ ?_
  clear hK K
  refine wpAnyE_done (by kernel_rfl) ?_ _
  have eAdd : (y.add p X).pots = y.pots.set p ((plusX PX X).1, (plusX PX X).2.1, (plusX PX X).2.2) := by
    show y.pots.set p (plusX (y.pots[p]?.getD noX) X) = _
    rw [HPX.out]
  rw [← eAdd] at FPN
  clear hS3 h0' h1' h2' fz0 fz1 fz2 TT eAdd f4 f3 f2 q3 q2 r3 r2 j3 j2 B2 b3 bd v1 v2 u1 u2 iC iD g0 g1 g2 d0 d1 d2
  generalize (((w3.setCell ⟨G, p * 3, none⟩ (.slice (some ⟨E1, 0, none⟩) 3 k1')).setCell ⟨G, p * 3 + 1, none⟩ (.slice (some ⟨E2, 0, none⟩) 2 k2')).setCell ⟨G, p * 3 + 2, none⟩ (.int .i64 (plusX PX X).2.2)) = V at *
  obtain ⟨l0, l1, l2, l3⟩ := r4.four
  have fy0 := r4.free 0
  have fy1 := r4.free 1
  have fy2 := r4.free 2
  have fy3 := r4.free 3
  obtain ⟨x', T'⟩ := put4 r4 rfl (.slice ga ng gc) (.slice (some ⟨G, 0, none⟩) 3 cG) (.slice ta nt tc) (.bool st)
  have FP2 := FPN.past (boxNil r4) T'
  have B5 := B4.trans (T'.below B4.size (fun k hk => by omega))
  obtain ⟨e0, e1, e2, e3⟩ := x'.four
  have lr := r4.lt
  clear FPN r4 T' x'
  go_wp2
  refine bodyPost_ret (v := wayV ga ng gc (some ⟨G, 0, none⟩) cG ta nt tc st) (by simp [results, Tryz.results217, go_sem, e0, e1, e2, e3]) rfl ?_
  exact ⟨G, cG, rfl, B5, FP2⟩

end Go.Proofs.YtacjjhfbnbmnlaaGreatDoor

