/-
  Rows: when one is ok, a copy of one, one held against another, its size. Lengths at most 1048576 where one is copied.
-/
import Derived.Test.YtpmihhbgjimpmaaGreatDoorMade
import Derived.Test.YtpmihhbgjimpmaaGreatDoorOpenR
namespace Go.Proofs.YtpmihhbgjimpmaaGreatDoor
open Go.RowKit
set_option linter.unusedVariables false
set_option maxRecDepth 100000

/-- Whether a row is ok. -/
def rowB (gs ls ts : List FV) (A T : Nat) (st : Bool) : Bool := gs.all FV.ok && ls.all FV.ok && ts.all FV.ok && (if st then ((A : Int) + T == 0) else ((A : Int) == 3))

/-- A row that lies in memory. -/
structure RowAt (w : World) (g : Option Addr) (G : Nat) (gs : List FV) (a : Option Addr) (A : Nat) (ls : List FV) (t : Option Addr) (T : Nat) (ts : List FV) : Prop where
  g : FormsG w g gs
  a : FormsG w a ls
  t : FormsG w t ts
  hg : gs.length = G
  ha : ls.length = A
  ht : ts.length = T
  zg : G ≤ 1048576
  za : A ≤ 1048576
  zt : T ≤ 1048576
theorem RowAt.below {w w' : World} {g : Option Addr} {G : Nat} {gs : List FV} {a : Option Addr} {A : Nat} {ls : List FV} {t : Option Addr} {T : Nat} {ts : List FV} (h : RowAt w g G gs a A ls t T ts) (b : Below w.heap.size w w') : RowAt w' g G gs a A ls t T ts :=
  ⟨h.g.below b, h.a.below b, h.t.below b, h.hg, h.ha, h.ht, h.zg, h.za, h.zt⟩
theorem RowAt.alloc {w : World} {g : Option Addr} {G : Nat} {gs : List FV} {a : Option Addr} {A : Nat} {ls : List FV} {t : Option Addr} {T : Nat} {ts : List FV} (h : RowAt w g G gs a A ls t T ts) (o : Obj) : RowAt (w.alloc o) g G gs a A ls t T ts := h.below ((Below.refl _ _).alloc (Nat.le_refl _) _)
theorem Cel.quad {w : World} {B : Nat} {x y z u : Value} {t : TypeId} (h : Cel w B [x, y, z, u] t) : w.cell? ⟨B, 0, none⟩ = some x ∧ w.cell? ⟨B, 1, none⟩ = some y ∧ w.cell? ⟨B, 2, none⟩ = some z ∧ w.cell? ⟨B, 3, none⟩ = some u := ⟨h.cell 0, h.cell 1, h.cell 2, h.cell 3⟩

/-- A box that a call lays first, and old memory. -/
structure BX (w : World) (B : Nat) (la : List Value) (ty : TypeId) (W : World) : Prop where
  p : Cel W B la ty
  b : Below w.heap.size w W
theorem BX.new (w : World) (la : List Value) (ty : TypeId) : BX w w.heap.size la ty (w.alloc (.cells la.toArray ty)) := ⟨Cel.new w la ty, (Below.refl _ _).alloc (Nat.le_refl _) _⟩
theorem BX.below {w W W' : World} {B : Nat} {la : List Value} {ty : TypeId} (h : BX w B la ty W) (b : Below W.heap.size W W') : BX w B la ty W' := ⟨h.p.below b, h.b.trans (b.mono h.b.size)⟩
theorem BX.alloc {w W : World} {B : Nat} {la : List Value} {ty : TypeId} (h : BX w B la ty W) (o : Obj) : BX w B la ty (W.alloc o) := h.below ((Below.refl _ _).alloc (Nat.le_refl _) _)

theorem MF.touch {S : Nat → Prop} {W W' : World} {B lo : Nat} {cs : List (List Value)} {gs : List FV} {p q : Nat → Nat} (h : MF W B lo cs gs p q) (t : Touch S W W') (hs : ∀ k, S k → k < B ∨ W.heap.size ≤ k ∨ ∀ i, i < gs.length → (k ≠ B ∧ k ≠ p i ∧ k ≠ q i)) (hB : ¬ S B) : MF W' B lo cs gs p q := by
  have hb := h.b
  refine ⟨by rw [t.block B (lt_of_block h.c) hB]; exact h.c, h.t, fun i hi => ?_, h.b, Nat.le_trans h.s t.size⟩
  obtain ⟨a1, a2, a3, a4, a5, a6, a7, a8, a9, a10, a11, a12, a13⟩ := h.l i hi
  have k1 : Blk W' (p i) (gs[i]?.getD noFV).C := by
    unfold Blk at *
    rw [t.block _ (lt_of_block a4) (fun hh => by
      rcases hs _ hh with e | e | e
      · omega
      · omega
      · exact (e i hi).2.1 rfl)]; exact a4
  have k2 : Blk W' (q i) (gs[i]?.getD noFV).D := by
    unfold Blk at *
    rw [t.block _ (lt_of_block a5) (fun hh => by
      rcases hs _ hh with e | e | e
      · omega
      · omega
      · exact (e i hi).2.2 rfl)]; exact a5
  exact ⟨a1, a2, a3, k1, k2, a6, a7, a8, a9, a10, a11, Nat.lt_of_lt_of_le a12 t.size, a13⟩
theorem MF.set {W : World} {B lo X : Nat} {cs : List (List Value)} {gs : List FV} {p q : Nat → Nat} (h : MF W B lo cs gs p q) (hX : X < B) (i : Nat) (v : Value) : MF (W.setCell ⟨X, i, none⟩ v) B lo cs gs p q :=
  h.touch (S := fun k => k = X) (Touch.setCell (S := fun k => k = X) (Touch.refl _ _) rfl v) (fun k hk => .inl (by omega)) (fun hh => by omega)
theorem MF.q_lt {W : World} {B lo : Nat} {cs : List (List Value)} {gs : List FV} {p q : Nat → Nat} (h : MF W B lo cs gs p q) : ∀ i, i < gs.length → q i < W.heap.size := fun i hi => by
  obtain ⟨a1, a2, a3, a4, a5, a6, a7, a8, a9, a10, a11, a12, a13⟩ := h.l i hi
  exact a12
theorem MF.lt {W : World} {B lo : Nat} {cs : List (List Value)} {gs : List FV} {p q : Nat → Nat} (h : MF W B lo cs gs p q) : B < W.heap.size := lt_of_block h.c

/-- Three slices of forms that a copy of a row has, each behind the one ahead of it. -/
structure RM (W : World) (lo : Nat) (B1 B2 B3 : Nat) (G A T : Nat) (gs ls ts : List FV) (X Y Z : List (List Value)) (p1 q1 p2 q2 p3 q3 : Nat → Nat) : Prop where
  g : MF W B1 (B1 + 1) X gs p1 q1
  a : MF W B2 (B2 + 1) Y ls p2 q2
  t : MF W B3 (B3 + 1) Z ts p3 q3
  hg : gs.length = G
  ha : ls.length = A
  ht : ts.length = T
  xg : X.length = G
  xa : Y.length = A
  xt : Z.length = T
  l1 : lo ≤ B1
  l2 : B1 < B2
  l3 : B2 < B3
  u1 : ∀ i, i < G → q1 i < B2
  u2 : ∀ i, i < A → q2 i < B3

/-- A copy's forms, one by one, are the forms it was made of. -/
theorem copies_eq {fs gs : List FV} {N : Nat} (hg : gs.length = N) {hs : List FV} (hh : hs.length = N) (h1 : copies fs gs) (h2 : copies fs hs) : ∀ i, i < N → eqF (gs[i]?.getD noFV).C (gs[i]?.getD noFV).D (gs[i]?.getD noFV).K (hs[i]?.getD noFV).C (hs[i]?.getD noFV).D (hs[i]?.getD noFV).K = true := fun i hi => by
  obtain ⟨e1, e2, e3, _⟩ := h1 i (by omega)
  obtain ⟨d1, d2, d3, _⟩ := h2 i (by omega)
  rw [e1, e2, e3, d1, d2, d3]
  exact eqF_refl _ _ _
theorem copies_ok {fs gs : List FV} (hl : gs.length = fs.length) (h : copies fs gs) : gs.all FV.ok = fs.all FV.ok := by
  rw [Bool.eq_iff_iff, List.all_eq_true, List.all_eq_true]
  have key : ∀ i, i < gs.length → (gs[i]?.getD noFV).ok = (fs[i]?.getD noFV).ok := fun i hi => by
    obtain ⟨e1, e2, e3, e4, e5⟩ := h i hi
    simp only [FV.ok, e1, e2, e3, e4, e5]
  constructor
  · intro hh x hx
    obtain ⟨i, hi, rfl⟩ := List.getElem_of_mem hx
    have k := key i (by omega)
    rw [List.getElem?_eq_getElem hi, List.getElem?_eq_getElem (by omega)] at k
    simp only [Option.getD_some] at k
    rw [← k]; exact hh _ (List.getElem_mem _)
  · intro hh x hx
    obtain ⟨i, hi, rfl⟩ := List.getElem_of_mem hx
    have k := key i (by omega)
    rw [List.getElem?_eq_getElem hi, List.getElem?_eq_getElem (by omega)] at k
    simp only [Option.getD_some] at k
    rw [k]; exact hh _ (List.getElem_mem _)
theorem RM.at {W : World} {lo B1 B2 B3 G A T : Nat} {gs ls ts : List FV} {X Y Z : List (List Value)} {p1 q1 p2 q2 p3 q3 : Nat → Nat} (h : RM W lo B1 B2 B3 G A T gs ls ts X Y Z p1 q1 p2 q2 p3 q3) (zg : G ≤ 1048576) (za : A ≤ 1048576) (zt : T ≤ 1048576) : RowAt W (some ⟨B1, 0, none⟩) G gs (some ⟨B2, 0, none⟩) A ls (some ⟨B3, 0, none⟩) T ts :=
  ⟨h.g.g, h.a.g, h.t.g, h.hg, h.ha, h.ht, zg, za, zt⟩
theorem RM.below {W W' : World} {lo B1 B2 B3 G A T : Nat} {gs ls ts : List FV} {X Y Z : List (List Value)} {p1 q1 p2 q2 p3 q3 : Nat → Nat} (h : RM W lo B1 B2 B3 G A T gs ls ts X Y Z p1 q1 p2 q2 p3 q3) (b : Below W.heap.size W W') : RM W' lo B1 B2 B3 G A T gs ls ts X Y Z p1 q1 p2 q2 p3 q3 :=
  ⟨h.g.below b, h.a.below b, h.t.below b, h.hg, h.ha, h.ht, h.xg, h.xa, h.xt, h.l1, h.l2, h.l3, h.u1, h.u2⟩

end Go.Proofs.YtpmihhbgjimpmaaGreatDoor
