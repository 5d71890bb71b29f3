/-
  A result, as the specification reads it. At most 1048576 bytes.
-/
import Derived.Test.YtkmacleakfbobaaGreatDoorRdN
import Derived.Test.YtkmacleakfbobaaGreatDoorGrow
import Derived.Lib.Hide
namespace Go.Proofs.YtkmacleakfbobaaGreatDoor
open Go.RowKit
set_option linter.unusedVariables false
set_option maxRecDepth 100000

/-- A result that is being read: old memory, its box, what was read so far. -/
structure SB (W1 : World) (code : Int) (v : Value) (xs : List Int) (W : World) : Prop where
  b : Below W1.heap.size W1 W
  bx : Cel W W1.heap.size [.int .i64 code, v] 24
  o : W.ownsRow (W1.heap.size + 1) 3 1 v xs.length (xs.map (Value.int .i64))
theorem SB.new (W1 : World) : SB W1 0 (.slice none 0 0) [] (W1.alloc (.cells #[.int .i64 0, .slice none 0 0] 24)) :=
  ⟨(Below.refl _ _).alloc (Nat.le_refl _) _, Cel.new W1 _ _, World.ownsRow_nil _ _ _ _⟩
theorem SB.ne {W1 W : World} {code : Int} {v : Value} {xs : List Int} (s : SB W1 code v xs W) : v.ownBlock ≠ some W1.heap.size := fun e => by
  have := (s.o.lt _ e).1
  omega
theorem SB.below {W1 W W' : World} {code : Int} {v : Value} {xs : List Int} (s : SB W1 code v xs W) (h : Below W.heap.size W W') : SB W1 code v xs W' := by
  refine ⟨s.b.trans (h.mono s.b.size), s.bx.below h, s.o.1, ?_⟩
  rcases s.o.2 with h2 | ⟨g, cap, cur, hv, hg, hh, r⟩
  · exact Or.inl h2
  · exact Or.inr ⟨g, cap, cur, hv, hg, by rw [h.block g (lt_of_block hh)]; exact hh, r⟩
theorem SB.alloc {W1 W : World} {code : Int} {v : Value} {xs : List Int} (s : SB W1 code v xs W) (o : Obj) : SB W1 code v xs (W.alloc o) := s.below ((Below.refl _ _).alloc (Nat.le_refl _) _)
theorem SB.code {W1 W : World} {code : Int} {v : Value} {xs : List Int} (s : SB W1 code v xs W) (c : Int) : SB W1 c v xs (W.setCell ⟨W1.heap.size, 0, none⟩ (.int .i64 c)) := by
  refine ⟨s.b.setCell (Nat.le_refl _) _, s.bx.set 0 _, s.o.1, ?_⟩
  have hn := s.ne
  rcases s.o.2 with h2 | ⟨g, cap, cur, hv, hg, hh, r⟩
  · exact Or.inl h2
  · refine Or.inr ⟨g, cap, cur, hv, hg, ?_, r⟩
    rw [Below.heap_setCell _ _ _ _ (show g ≠ W1.heap.size by omega)]; exact hh
theorem SB.app {W1 W W' : World} {code : Int} {v : Value} {xs : List Int} {y : Int} {g cap k : Nat} {o : Obj} (s : SB W1 code v xs W) (hk : xs.length = k) (hown : W'.ownsRow (W1.heap.size + 1) 3 1 (.slice (some ⟨g, 0, none⟩) (k + 1) cap) (k + 1) (xs.map (Value.int .i64) ++ [.int .i64 y])) (hgr : (W.alloc o).grownBy W' v.ownBlock) :
    SB W1 code (.slice (some ⟨g, 0, none⟩) (k + 1) cap) (xs ++ [y]) (W'.setCell ⟨W1.heap.size, 1, none⟩ (.slice (some ⟨g, 0, none⟩) (k + 1) cap)) := by
  have hl := s.bx.lt
  have h1 := s.alloc o
  have hb : Below W1.heap.size W1 W' := h1.b.grown hgr h1.b.size (fun z hz => by have := (h1.o.lt z hz).1; omega)
  have hx : Cel W' W1.heap.size [.int .i64 code, v] 24 := by
    have := h1.bx
    unfold Cel at *
    rw [hgr.block _ (by rw [World.size_alloc]; omega) (fun e => s.ne e.symm)]; exact this
  have hgg := (hown.lt g rfl).1
  refine ⟨hb.setCell (Nat.le_refl _) _, hx.set 1 _, ?_⟩
  rw [List.length_append, hk, List.map_append]
  refine ⟨hown.1, ?_⟩
  rcases hown.2 with h2 | ⟨g2, cap2, cur, hv, hg2, hh, r⟩
  · exact Or.inl h2
  · refine Or.inr ⟨g2, cap2, cur, hv, hg2, ?_, r⟩
    rw [Below.heap_setCell _ _ _ _ (show g2 ≠ W1.heap.size by omega)]; exact hh
theorem SB.ints {W1 W : World} {code : Int} {v : Value} {xs : List Int} {n : Nat} (s : SB W1 code v xs W) (hn : xs.length = n) : ∃ a cap, v = .slice a n cap ∧ Ints W a n xs := by
  subst hn
  rcases s.o.2 with ⟨hv, h⟩ | ⟨g, cap', cur, rfl, hg, hh, hl, _, _⟩
  · rw [h]
    have : xs = [] := List.eq_nil_of_length_eq_zero h
    subst this
    exact ⟨none, 0, hv, ⟨rfl, fun i hi => by omega⟩⟩
  · refine ⟨some ⟨g, 0, none⟩, cap', rfl, ⟨rfl, fun i hi => ⟨g, 0, rfl, ?_⟩⟩⟩
    have := s.o.cellAt i (by omega)
    rw [Nat.zero_add, this]
    simp [hi]

theorem SB.ints2 {W1 W : World} {code : Int} {a : Option Addr} {n cap r : Nat} {xs : List Int} (s : SB W1 code (.slice a n cap) xs W) (hn : xs.length = n) (hr : r < W1.heap.size) (i j : Nat) (x y : Value) :
    Ints ((W.setCell ⟨r, i, none⟩ x).setCell ⟨r, j, none⟩ y) a n xs := by
  have hi : Ints W a n xs := by
    obtain ⟨a', cap', e, h⟩ := s.ints hn
    cases e
    exact h
  refine ⟨hi.1, fun k hk => ?_⟩
  obtain ⟨b, o, rfl, hc⟩ := hi.2 k hk
  refine ⟨b, o, rfl, ?_⟩
  have hb := (s.o.lt b rfl).1
  have hx : ∀ (Z : World) (p : Nat) (v : Value), (Z.setCell ⟨r, p, none⟩ v).cell? ⟨b, o + k, none⟩ = Z.cell? ⟨b, o + k, none⟩ := fun Z p v => by
    simp only [World.cell?]
    rw [Below.heap_setCell _ _ _ _ (show b ≠ r by omega)]
  rw [hx, hx]
  exact hc

/-- The code that a word is, of those below k. -/
def codeTo (x : List UInt8) : Nat → Int
  | 0 => 0
  | 1 => 0
  | k + 2 => if wordL ((k + 1 : Nat) : Int) = x then ((k + 1 : Nat) : Int) else codeTo x (k + 1)
def numsL (ws : List (List UInt8)) : List Int := ws.map fun x => (numL x).1
/-- What a text is read as: code and numbers. -/
def preS (l : List UInt8) : Int × List Int := (codeTo ((wordsOf l).headD []) 4, numsL (wordsOf l).tail)
theorem words_ne (l : List UInt8) : wordsOf l ≠ [] := by
  have : ∀ (t acc : List UInt8), wordsF acc t ≠ [] := by
    intro t
    induction t with
    | nil => intro acc; simp [wordsF]
    | cons b t ih =>
      intro acc
      rw [wordsF]
      split
      · simp
      · exact ih _
  exact this l []

theorem wordsF_len : ∀ (t acc : List UInt8), (wordsF acc t).length ≤ t.length + 1
  | [], acc => by simp [wordsF]
  | b :: t, acc => by
    rw [wordsF]
    split
    · rw [List.length_cons, List.length_cons]; have := wordsF_len t []; omega
    · have := wordsF_len t (acc ++ [b]); rw [List.length_cons]; omega
theorem words_few {l x0 : List UInt8} {ws : List (List UInt8)} (hl : l.length ≤ 120) (h : wordsOf l = x0 :: ws) : ws.length ≤ 121 := by
  have := wordsF_len l []
  rw [show wordsF [] l = x0 :: ws from h, List.length_cons] at this
  omega
theorem wordsF_short : ∀ (t acc : List UInt8), ∀ x ∈ wordsF acc t, x.length ≤ acc.length + t.length
  | [], acc, x, hx => by
    have : x = acc := by simpa [wordsF] using hx
    rw [this]; omega
  | b :: t, acc, x, hx => by
    rw [wordsF] at hx
    split at hx
    · rcases List.mem_cons.1 hx with rfl | hx
      · omega
      · have := wordsF_short t [] x hx
        rw [List.length_cons]
        simp at this
        omega
    · have := wordsF_short t _ x hx
      rw [List.length_append] at this
      rw [List.length_cons]
      simp at this
      omega
theorem words_short {l x0 : List UInt8} {ws : List (List UInt8)} (h : wordsOf l = x0 :: ws) : ∀ x ∈ ws, x.length ≤ l.length := fun x hx => by
  have := wordsF_short l [] x (by rw [show wordsF [] l = x0 :: ws from h]; exact List.mem_cons_of_mem _ hx)
  simpa using this

def textP (p : Int × List Int) : List UInt8 := resText p.1 p.2.length p.2
def rdB (l : List UInt8) : Bool := decide (textP (preS l) ≠ [] ∧ textP (preS l) = l)
def rdS (l : List UInt8) : Int × List Int × Bool := if rdB l = true then ((preS l).1, (preS l).2, true) else (0, [], false)

end Go.Proofs.YtkmacleakfbobaaGreatDoor
