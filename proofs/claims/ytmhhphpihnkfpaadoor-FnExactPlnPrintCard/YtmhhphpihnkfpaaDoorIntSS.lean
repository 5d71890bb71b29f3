/-
  Slices of slices of ints: the size, a copy, one held against another. Lengths at most 1048576 where one is copied.
-/
import Derived.Test.YtmhhphpihnkfpaaDoorMarks
import Derived.Test.YtmhhphpihnkfpaaDoorOpenS
namespace Go.Proofs.YtmhhphpihnkfpaaDoor
open Go.ChangeShapes Go.WideShapes Go.ChangeAt Go.RowKit Go.Joins Go.Deep
set_option linter.unusedVariables false
set_option maxRecDepth 100000

/-- A slice, and what it holds. -/
structure IV where
  a : Option Addr
  n : Nat
  cap : Nat
  x : List Int
def noI : IV := ⟨none, 0, 0, []⟩
def IV.v (s : IV) : Value := .slice s.a s.n s.cap

theorem trod_len1 {H : Type} {enc : TypeId × Value → H} {W : World} {fuel : Nat} {t e : TypeId} {cs : List Value} {x : DataW H × List MemPlace} (hS : Tryd.prog.underlying t = some (.slice e)) (hf : DataW.trod enc Tryd.prog W 0 (fun _ => true) true fuel t cs = some x) : cs.length = 1 := by
  rcases open_slice hS hf with ⟨h, _⟩ | ⟨a, len, cap, m, n, D, Pl, h, _⟩ <;> rw [h] <;> rfl

def IM (w : World) (s : IV) : Prop := Ints w s.a s.n s.x ∧ s.n ≤ maxLen
def IG (w : World) (s : IV) : Prop := Ints w s.a s.n s.x ∧ s.n ≤ 1048576
def IS (s : IV) : Prop := s.n ≤ 1048576
def IK (w : World) (lo : Nat) (s : IV) : Prop := ∃ B, s.a = some ⟨B, 0, none⟩ ∧ lo ≤ B ∧ Blk w B s.x ∧ s.x.length = s.n ∧ s.n ≤ 1048576
def copiesI (s t : IV) : Prop := t.n = s.n ∧ t.x = s.x
def sameI (s t : IV) : Prop := s.x = t.x
theorem IM.below {w w' : World} {s : IV} (h : IM w s) (hb : Below w.heap.size w w') : IM w' s := ⟨h.1.below hb, h.2⟩
theorem IG.below {w w' : World} {s : IV} (h : IG w s) (hb : Below w.heap.size w w') : IG w' s := ⟨h.1.below hb, h.2⟩
theorem IM.g {w : World} {s : IV} (h : IM w s) (hs : IS s) : IG w s := ⟨h.1, hs⟩
theorem IK.below {w w' : World} {lo : Nat} {s : IV} (h : IK w lo s) (hb : Below w.heap.size w w') : IK w' lo s := by
  obtain ⟨B, h1, h2, h3, h4⟩ := h
  exact ⟨B, h1, h2, h3.below hb, h4⟩
theorem IK.touch {S : Nat → Prop} {w w' : World} {lo : Nat} {s : IV} (h : IK w lo s) (t : Touch S w w') (hs : ∀ k, S k → k < lo) : IK w' lo s := by
  obtain ⟨B, h1, h2, h3, h4⟩ := h
  refine ⟨B, h1, h2, ?_, h4⟩
  unfold Blk at *
  rw [t.block B (lt_of_block h3) (fun hh => by have := hs _ hh; omega)]; exact h3
theorem IK.mono {w : World} {lo lo' : Nat} {s : IV} (h : IK w lo s) (hl : lo' ≤ lo) : IK w lo' s := by
  obtain ⟨B, h1, h2, h3⟩ := h
  exact ⟨B, h1, by omega, h3⟩
theorem IK.g {w : World} {lo : Nat} {s : IV} (h : IK w lo s) : IG w s := by
  obtain ⟨B, h1, h2, h3, h4, h5⟩ := h
  refine ⟨?_, h5⟩
  rw [h1, ← h4]; exact h3.ints
theorem open_I1 {H : Type} {enc : TypeId × Value → H} {W : World} {fuel : Nat} {v : Value} {y : DataW H × List MemPlace}
    (hf : DataW.trod enc Tryd.prog W 0 (fun _ => true) true fuel 23 [v] = some y) : ∃ s : IV, v = s.v ∧ IM W s := by
  obtain ⟨a, n, cap, zs, rfl, h1, h2⟩ := open_row hf
  exact ⟨⟨a, n, cap, zs⟩, rfl, h1, h2⟩
theorem szI_ex (a : Option Addr) (n cap : Nat) (x : List Int) (l : Int) (w : World) (h : IM w ⟨a, n, cap, x⟩) (h0 : 0 ≤ l) (hl : l ≤ 1048576) :
    Calls Tryd.prog 14 #[.slice a n cap, .int .i64 l] w fun e w' => ∃ r, e = .returned (.int .i64 r) ∧ -1 ≤ r ∧ r ≤ 1048576 ∧ (0 ≤ r → IS ⟨a, n, cap, x⟩) ∧ Below w.heap.size w w' := by
  refine (sz_any a n cap l w h.2 h0 hl).mono ?_
  rintro e w' ⟨rfl, rfl⟩
  refine ⟨_, rfl, leftOf_ge _ _, ?_, fun hr => ?_, Below.refl _ _⟩
  · by_cases hh : 0 ≤ leftOf l n
    · have := leftOf_le hh; omega
    · omega
  · have := leftOf_le hr
    show n ≤ 1048576
    omega
theorem toI_ex (a : Option Addr) (n cap : Nat) (x : List Int) (w : World) (h : IG w ⟨a, n, cap, x⟩) :
    Calls Tryd.prog 20 #[.slice a n cap] w fun e w' => ∃ a2 x2, e = .returned (.slice a2 n n) ∧ Below w.heap.size w w' ∧ IK w' w.heap.size ⟨a2, n, n, x2⟩ ∧ copiesI ⟨a, n, cap, x⟩ ⟨a2, n, n, x2⟩ := by
  refine (to_any a n cap x w h.1 h.2).mono ?_
  rintro e w' ⟨rfl, b, k⟩
  exact ⟨_, x, rfl, b, ⟨_, rfl, Nat.le_refl _, k, h.1.1, h.2⟩, rfl, rfl⟩
theorem eqI_ex (a : Option Addr) (n cap : Nat) (x : List Int) (c : Option Addr) (m cap' : Nat) (y : List Int) (w : World) (h : IG w ⟨a, n, cap, x⟩) (h' : IG w ⟨c, m, cap', y⟩) (hs : sameI ⟨a, n, cap, x⟩ ⟨c, m, cap', y⟩) :
    Calls Tryd.prog 25 #[.slice a n cap, .slice c m cap'] w fun e w' => e = .returned (.bool true) ∧ Below w.heap.size w w' := by
  refine (eq_any a c n m cap cap' x y w h.1 h'.1 h.2 h'.2).mono ?_
  rintro e w' ⟨rfl, b⟩
  have hs' : x = y := hs
  subst hs'
  exact ⟨by rw [eqB_refl], b⟩

/-- A slice of slices that came in. -/
def ISM (w : World) (ad : Option Addr) (ss : List IV) : Prop :=
  ∀ i, i < ss.length → ∃ b off, ad = some ⟨b, off, none⟩ ∧ w.cell? ⟨b, off + i, none⟩ = some (ss[i]?.getD noI).v ∧ IM w (ss[i]?.getD noI)
/-- One that may be copied. -/
def ISG (w : World) (ad : Option Addr) (ss : List IV) : Prop :=
  ∀ i, i < ss.length → ∃ b off, ad = some ⟨b, off, none⟩ ∧ w.cell? ⟨b, off + i, none⟩ = some (ss[i]?.getD noI).v ∧ IG w (ss[i]?.getD noI)
theorem ISM.below {w w' : World} {ad : Option Addr} {ss : List IV} (h : ISM w ad ss) (hb : Below w.heap.size w w') : ISM w' ad ss := fun i hi => by
  obtain ⟨b, off, e, hc, hr⟩ := h i hi
  exact ⟨b, off, e, by rw [hb.cell (p := ⟨b, off + i, none⟩) (block_lt hc)]; exact hc, hr.below hb⟩
theorem ISG.below {w w' : World} {ad : Option Addr} {ss : List IV} (h : ISG w ad ss) (hb : Below w.heap.size w w') : ISG w' ad ss := fun i hi => by
  obtain ⟨b, off, e, hc, hr⟩ := h i hi
  exact ⟨b, off, e, by rw [hb.cell (p := ⟨b, off + i, none⟩) (block_lt hc)]; exact hc, hr.below hb⟩
theorem ISM.g {w : World} {ad : Option Addr} {ss : List IV} (h : ISM w ad ss) (hs : ∀ i, i < ss.length → IS (ss[i]?.getD noI)) : ISG w ad ss := fun i hi => by
  obtain ⟨b, off, e, hc, hr⟩ := h i hi
  exact ⟨b, off, e, hc, hr.g (hs i hi)⟩

/-- Each holds what the other does. -/
def copiesIS (ss ts : List IV) : Prop := ∀ i, i < ts.length → copiesI (ss[i]?.getD noI) (ts[i]?.getD noI)

/-- Block B holds N slices, of which those of ts have been laid. -/
structure MI (W : World) (B N : Nat) (ts : List IV) : Prop where
  c : ∃ vs : List Value, Cel W B vs 23 ∧ vs.length = N ∧ ∀ i, i < ts.length → vs[i]? = some (ts[i]?.getD noI).v
  l : ∀ i, i < ts.length → IK W (B + 1) (ts[i]?.getD noI)
theorem MI.lt {W : World} {B N : Nat} {ts : List IV} (h : MI W B N ts) : B < W.heap.size := by
  obtain ⟨vs, h1, _⟩ := h.c
  exact h1.lt
theorem MI.below {W W' : World} {B N : Nat} {ts : List IV} (h : MI W B N ts) (b : Below W.heap.size W W') : MI W' B N ts := by
  obtain ⟨vs, h1, h2, h3⟩ := h.c
  exact ⟨⟨vs, h1.below b, h2, h3⟩, fun i hi => (h.l i hi).below b⟩
theorem MI.g {W : World} {B N : Nat} {ts : List IV} (h : MI W B N ts) : ISG W (some ⟨B, 0, none⟩) ts := fun i hi => by
  obtain ⟨vs, h1, h2, h3⟩ := h.c
  exact ⟨B, 0, rfl, by rw [Nat.zero_add, h1.cell i, h3 i hi], (h.l i hi).g⟩
theorem MI.step {W W1 : World} {B N k : Nat} {ts : List IV} {s : IV} (h : MI W B N ts) (hk : ts.length = k) (hkN : k < N) (b : Below W.heap.size W W1) (hs : IK W1 W.heap.size s) : MI (W1.setCell ⟨B, k, none⟩ s.v) B N (ts ++ [s]) := by
  have hB := h.lt
  obtain ⟨vs, h1, h2, h3⟩ := (h.below b).c
  have T : Touch (fun x => x = B) W1 (W1.setCell ⟨B, k, none⟩ s.v) := Touch.setCell (S := fun x => x = B) (Touch.refl _ _) rfl _
  refine ⟨⟨vs.set k s.v, h1.set _ _, by rw [List.length_set]; exact h2, fun i hi => ?_⟩, fun i hi => ?_⟩
  · rw [List.length_append, hk] at hi
    simp only [List.length_cons, List.length_nil] at hi
    by_cases e : i = k
    · subst e
      rw [List.getElem?_set_self (by omega), List.getElem?_append_right (by omega), hk]; simp
    · rw [List.getElem?_set_ne (by omega), List.getElem?_append_left (by omega)]
      exact h3 i (by omega)
  · rw [List.length_append, hk] at hi
    simp only [List.length_cons, List.length_nil] at hi
    by_cases e : i = k
    · subst e
      rw [List.getElem?_append_right (by omega), hk]
      simp only [Nat.sub_self, List.getElem?_cons_zero, Option.getD_some]
      exact (hs.mono (by omega)).touch T (fun x hx => by omega)
    · rw [List.getElem?_append_left (by omega)]
      exact (((h.l i (by omega)).below b)).touch T (fun x hx => by omega)

theorem Tryd.infoI : (Tryd.prog.info? 23).map (fun i => (i.zero, i.size, i.bytes)) = some (some (.slice none 0 0), 1, 24) := by kernel_rfl

end Go.Proofs.YtmhhphpihnkfpaaDoor
