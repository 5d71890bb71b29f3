/-
  A result, as the specification reads it. At most 1048576 bytes.
-/
import Derived.Test.YtejeffnonddfhaaDoorRdN
import Derived.Test.YtejeffnonddfhaaDoorGrow
import Derived.Lib.Hide
namespace Go.Proofs.YtejeffnonddfhaaDoor
open Go.RowKit
set_option linter.unusedVariables false
set_option maxRecDepth 100000

/-- A result that is being read: old memory, its box, what was read so far. -/
structure SB (W1 : World) (code : Int) (v : Value) (xs : List Int) (W : World) : Prop where
  b : Below W1.heap.size W1 W
  bx : Cel W W1.heap.size [.int .i64 code, v] 27
  o : W.ownsRow (W1.heap.size + 1) 3 1 v xs.length (xs.map (Value.int .i64))
theorem SB.new (W1 : World) : SB W1 0 (.slice none 0 0) [] (W1.alloc (.cells #[.int .i64 0, .slice none 0 0] 27)) :=
  ⟨(Below.refl _ _).alloc (Nat.le_refl _) _, Cel.new W1 _ _, World.ownsRow_nil _ _ _ _⟩
theorem SB.ne {W1 W : World} {code : Int} {v : Value} {xs : List Int} (s : SB W1 code v xs W) : v.ownBlock ≠ some W1.heap.size := fun e => by
  have := (s.o.lt _ e).1
  omega
theorem SB.below {W1 W W' : World} {code : Int} {v : Value} {xs : List Int} (s : SB W1 code v xs W) (h : Below W.heap.size W W') : SB W1 code v xs W' := by
  refine ⟨s.b.trans (h.mono s.b.size), s.bx.below h, s.o.1, ?_⟩
  rcases s.o.2 with h2 | ⟨g, cap, cur, hv, hg, hh, r⟩
  · exact Or.inl h2
  · exact Or.inr ⟨g, cap, cur, hv, hg, by rw [h.block g (lt_of_block hh)]; exact hh, r⟩
theorem SB.alloc {W1 W : World} {code : Int} {v : Value} {xs : List Int} (s : SB W1 code v xs W) (o : Obj) : SB W1 code v xs (W.alloc o) := s.below ((Below.refl _ _).alloc (Nat.le_refl _) _)
theorem SB.code {W1 W : World} {code : Int} {v : Value} {xs : List Int} (s : SB W1 code v xs W) (c : Int) : SB W1 c v xs (W.setCell ⟨W1.heap.size, 0, none⟩ (.int .i64 c)) := by
  refine ⟨s.b.setCell (Nat.le_refl _) _, s.bx.set 0 _, s.o.1, ?_⟩
  have hn := s.ne
  rcases s.o.2 with h2 | ⟨g, cap, cur, hv, hg, hh, r⟩
  · exact Or.inl h2
  · refine Or.inr ⟨g, cap, cur, hv, hg, ?_, r⟩
    rw [Below.heap_setCell _ _ _ _ (show g ≠ W1.heap.size by omega)]; exact hh
theorem SB.app {W1 W W' : World} {code : Int} {v : Value} {xs : List Int} {y : Int} {g cap k : Nat} {o : Obj} (s : SB W1 code v xs W) (hk : xs.length = k) (hown : W'.ownsRow (W1.heap.size + 1) 3 1 (.slice (some ⟨g, 0, none⟩) (k + 1) cap) (k + 1) (xs.map (Value.int .i64) ++ [.int .i64 y])) (hgr : (W.alloc o).grownBy W' v.ownBlock) :
    SB W1 code (.slice (some ⟨g, 0, none⟩) (k + 1) cap) (xs ++ [y]) (W'.setCell ⟨W1.heap.size, 1, none⟩ (.slice (some ⟨g, 0, none⟩) (k + 1) cap)) := by
  have hl := s.bx.lt
  have h1 := s.alloc o
  have hb : Below W1.heap.size W1 W' := h1.b.grown hgr h1.b.size (fun z hz => by have := (h1.o.lt z hz).1; omega)
  have hx : Cel W' W1.heap.size [.int .i64 code, v] 27 := by
    have := h1.bx
    unfold Cel at *
    rw [hgr.block _ (by rw [World.size_alloc]; omega) (fun e => s.ne e.symm)]; exact this
  have hgg := (hown.lt g rfl).1
  refine ⟨hb.setCell (Nat.le_refl _) _, hx.set 1 _, ?_⟩
  rw [List.length_append, hk, List.map_append]
  refine ⟨hown.1, ?_⟩
  rcases hown.2 with h2 | ⟨g2, cap2, cur, hv, hg2, hh, r⟩
  · exact Or.inl h2
  · refine Or.inr ⟨g2, cap2, cur, hv, hg2, ?_, r⟩
    rw [Below.heap_setCell _ _ _ _ (show g2 ≠ W1.heap.size by omega)]; exact hh
theorem SB.ints {W1 W : World} {code : Int} {v : Value} {xs : List Int} {n : Nat} (s : SB W1 code v xs W) (hn : xs.length = n) : ∃ a cap, v = .slice a n cap ∧ Ints W a n xs := by
  subst hn
  rcases s.o.2 with ⟨hv, h⟩ | ⟨g, cap', cur, rfl, hg, hh, hl, _, _⟩
  · rw [h]
    have : xs = [] := List.eq_nil_of_length_eq_zero h
    subst this
    exact ⟨none, 0, hv, ⟨rfl, fun i hi => by omega⟩⟩
  · refine ⟨some ⟨g, 0, none⟩, cap', rfl, ⟨rfl, fun i hi => ⟨g, 0, rfl, ?_⟩⟩⟩
    have := s.o.cellAt i (by omega)
    rw [Nat.zero_add, this]
    simp [hi]

theorem SB.ints2 {W1 W : World} {code : Int} {a : Option Addr} {n cap r : Nat} {xs : List Int} (s : SB W1 code (.slice a n cap) xs W) (hn : xs.length = n) (hr : r < W1.heap.size) (i j : Nat) (x y : Value) :
    Ints ((W.setCell ⟨r, i, none⟩ x).setCell ⟨r, j, none⟩ y) a n xs := by
  have hi : Ints W a n xs := by
    obtain ⟨a', cap', e, h⟩ := s.ints hn
    cases e
    exact h
  refine ⟨hi.1, fun k hk => ?_⟩
  obtain ⟨b, o, rfl, hc⟩ := hi.2 k hk
  refine ⟨b, o, rfl, ?_⟩
  have hb := (s.o.lt b rfl).1
  have hx : ∀ (Z : World) (p : Nat) (v : Value), (Z.setCell ⟨r, p, none⟩ v).cell? ⟨b, o + k, none⟩ = Z.cell? ⟨b, o + k, none⟩ := fun Z p v => by
    simp only [World.cell?]
    rw [Below.heap_setCell _ _ _ _ (show b ≠ r by omega)]
  rw [hx, hx]
  exact hc

/-- The code that a word is, of those below k. -/
def codeTo (x : List UInt8) : Nat → Int
  | 0 => 0
  | 1 => 0
  | k + 2 => if wordL ((k + 1 : Nat) : Int) = x then ((k + 1 : Nat) : Int) else codeTo x (k + 1)
def numsL (ws : List (List UInt8)) : List Int := ws.map fun x => (numL x).1
/-- What a text is read as: code and numbers. -/
def preS (l : List UInt8) : Int × List Int := (codeTo ((wordsOf l).headD []) 4, numsL (wordsOf l).tail)
theorem words_ne (l : List UInt8) : wordsOf l ≠ [] := by
  have : ∀ (t acc : List UInt8), wordsF acc t ≠ [] := by
    intro t
    induction t with
    | nil => intro acc; simp [wordsF]
    | cons b t ih =>
      intro acc
      rw [wordsF]
      split
      · simp
      · exact ih _
  exact this l []

theorem wordsF_len : ∀ (t acc : List UInt8), (wordsF acc t).length ≤ t.length + 1
  | [], acc => by simp [wordsF]
  | b :: t, acc => by
    rw [wordsF]
    split
    · rw [List.length_cons, List.length_cons]; have := wordsF_len t []; omega
    · have := wordsF_len t (acc ++ [b]); rw [List.length_cons]; omega
theorem words_few {l x0 : List UInt8} {ws : List (List UInt8)} (hl : l.length ≤ 120) (h : wordsOf l = x0 :: ws) : ws.length ≤ 121 := by
  have := wordsF_len l []
  rw [show wordsF [] l = x0 :: ws from h, List.length_cons] at this
  omega
theorem wordsF_short : ∀ (t acc : List UInt8), ∀ x ∈ wordsF acc t, x.length ≤ acc.length + t.length
  | [], acc, x, hx => by
    have : x = acc := by simpa [wordsF] using hx
    rw [this]; omega
  | b :: t, acc, x, hx => by
    rw [wordsF] at hx
    split at hx
    · rcases List.mem_cons.1 hx with rfl | hx
      · omega
      · have := wordsF_short t [] x hx
        rw [List.length_cons]
        simp at this
        omega
    · have := wordsF_short t _ x hx
      rw [List.length_append] at this
      rw [List.length_cons]
      simp at this
      omega
theorem words_short {l x0 : List UInt8} {ws : List (List UInt8)} (h : wordsOf l = x0 :: ws) : ∀ x ∈ ws, x.length ≤ l.length := fun x hx => by
  have := wordsF_short l [] x (by rw [show wordsF [] l = x0 :: ws from h]; exact List.mem_cons_of_mem _ hx)
  simpa using this

def textP (p : Int × List Int) : List UInt8 := resText p.1 p.2.length p.2
def rdB (l : List UInt8) : Bool := decide (textP (preS l) ≠ [] ∧ textP (preS l) = l)
def rdS (l : List UInt8) : Int × List Int × Bool := if rdB l = true then ((preS l).1, (preS l).2, true) else (0, [], false)

set_option maxHeartbeats 6400000 in
theorem sread_any (l : List UInt8) (w : World) (hl : l.length ≤ 120) :
    Calls Tryd.prog 25 #[.string ⟨l.toArray⟩] w fun e w' => ∃ c a n cap xs ok, e = .returned (.tuple #[resP c a n cap, .bool ok]) ∧ Below w.heap.size w w' ∧ Ints w' a n xs ∧ rdS l = (c, xs, ok) := by
  obtain ⟨x0, ws, hws⟩ : ∃ x0 ws, wordsOf l = x0 :: ws := by
    cases h : wordsOf l with
    | nil => exact absurd h (words_ne l)
    | cons a b => exact ⟨a, b, rfl⟩
  have HWS : Hid _ := hws
  obtain ⟨n, hn⟩ : ∃ n, ws.length = n := ⟨_, rfl⟩
  have HN : Hid _ := hn
  have hlen : (bytesW (wordsOf l)).length = n + 1 := by rw [hws, List.length_map, List.length_cons, hn]
  have HLEN : Hid _ := hlen
  have HPRE : Hid (preS l = (codeTo x0 4, numsL ws)) := by show _ = _; rw [preS, hws]; rfl
  have hn121 : n ≤ 121 := by rw [← hn]; exact words_few hl hws
  have HWL : Hid _ := words_short hws
  clear hws hn hlen
  go_enter Tryd.func25, Tryd.ntmps25
  go_wp2_with fail
  refine (words_any l _ hl).mono ?_
  rintro e W1 ⟨v, rfl, j⟩
  have B1 : Below w.heap.size w W1 := ((Below.refl _ _).alloc (Nat.le_refl _) _).trans (j.b.mono (by simp))
  have rc1 := (Cel.new w [.int .i64 0, .slice none 0 0] 27).below j.b
  have RLT : Hid (w.heap.size < W1.heap.size) := rc1.lt
  obtain ⟨gw, cw, rfl, hcap, hgw, hcs⟩ := j.cells HLEN.out (by omega)
  have CW : Hid (∀ (W : World), Below W1.heap.size W1 W → ∀ (i : Nat) (x : List UInt8), (x0 :: ws)[i]? = some x → W.cell? ⟨gw, i, none⟩ = some (.string ⟨x.toArray⟩)) := fun W hW i x hx => by
    have := hcs i ⟨x.toArray⟩ (by rw [HWS.out, List.getElem?_map, hx]; rfl)
    rw [Nat.zero_add] at this
    rw [hW.cell (p := ⟨gw, i, none⟩) hgw]; exact this
  have hn0 : (0 : Int) < (n : Int) + 1 := by omega
  have B7c : Hid (∀ W, Below W1.heap.size W1 W → Cel W w.heap.size [.int .i64 0, .slice none 0 0] 27) := fun W h => rc1.below h
  clear hcs hcap j
  have sb0 := (SB.new W1).alloc (.cells #[.string ⟨#[]⟩, .string ⟨#[100, 111, 110, 101]⟩, .string ⟨#[115, 116, 111, 112, 112, 101, 100]⟩, .string ⟨#[111, 118, 101, 114]⟩] 9)
  have nm0 := Cel.new (W1.alloc (.cells #[.int .i64 0, .slice none 0 0] 27)) [.string ⟨#[]⟩, .string ⟨#[100, 111, 110, 101]⟩, .string ⟨#[115, 116, 111, 112, 112, 101, 100]⟩, .string ⟨#[111, 118, 101, 114]⟩] 9
  rw [World.size_alloc] at nm0
  go_wp2_with fail
  go_loopw [7] (fun i wr => ∃ k : Nat, 1 ≤ k ∧ k ≤ 4 ∧ i = .int .i64 k ∧ SB W1 (codeTo x0 k) (.slice none 0 0) [] wr ∧ Cel wr (W1.heap.size + 1) [.string ⟨#[]⟩, .string ⟨#[100, 111, 110, 101]⟩, .string ⟨#[115, 116, 111, 112, 112, 101, 100]⟩, .string ⟨#[111, 118, 101, 114]⟩] 9) (fun i _ => 4 - (intOf i).toNat)
  case atStart => exact ⟨1, by omega, by omega, rfl, sb0, nm0⟩
  case round =>
    clear sb0 nm0
    obtain ⟨k, hk1, hk4, rfl, sb, hN⟩ := hrel
    have h0 := CW.out wr sb.b 0 x0 rfl
    have r0 := sb.bx.cell 0
    have r1 := sb.bx.free 0
    simp only [List.getElem?_cons_zero] at r0
    by_cases e1 : k = 1
    · subst e1
      have nm := hN.cell 1
      simp only [List.getElem?_cons_zero, List.getElem?_cons_succ] at nm
      have EQ : Hid (codeTo x0 (1 + 1) = if wordL 1 = x0 then 1 else codeTo x0 1) := rfl
      by_cases he : x0 = [100, 111, 110, 101]
      · have hE : ([100, 111, 110, 101] == x0) = true := by rw [he]; rfl
        have hE2 : (x0 == [100, 111, 110, 101]) = true := by rw [he]; rfl
        have HC : Hid (codeTo x0 (1 + 1) = 1) := by show _ = _; rw [EQ.out, if_pos (by rw [he]; rfl)]
        have HSC : Hid (∀ W, Below wr.heap.size wr W → SB W1 1 (.slice none 0 0) [] (W.setCell ⟨W1.heap.size, 0, none⟩ (.int .i64 1)) ∧ Cel (W.setCell ⟨W1.heap.size, 0, none⟩ (.int .i64 1)) (W1.heap.size + 1) [.string ⟨#[]⟩, .string ⟨#[100, 111, 110, 101]⟩, .string ⟨#[115, 116, 111, 112, 112, 101, 100]⟩, .string ⟨#[111, 118, 101, 114]⟩] 9) := fun W h => ⟨(sb.below h).code 1, (hN.below h).setOther (show W1.heap.size + 1 ≠ W1.heap.size by omega) 0 _⟩
        clear he EQ
        go_wp2_with fail
        go_quiet (fail)
        go_wp2
        go_roundw
        case rel => exact ⟨1 + 1, by omega, by omega, by go_num, by rw [HC.out]; exact (HSC.out _ (below_drewN (Below.refl _ _) _)).1, (HSC.out _ (below_drewN (Below.refl _ _) _)).2⟩
        case measure => simp [intOf]
      · have hE : ([100, 111, 110, 101] == x0) = false := by simpa using fun e => he e.symm
        have hE2 : (x0 == [100, 111, 110, 101]) = false := by simpa using he
        have HC : Hid (codeTo x0 (1 + 1) = codeTo x0 1) := by show _ = _; rw [EQ.out, if_neg (fun e => he e.symm)]
        clear he EQ
        go_wp2_with fail
        go_quiet (fail)
        go_wp2
        go_roundw
        case rel => exact ⟨1 + 1, by omega, by omega, by go_num, by rw [HC.out]; exact sb.below (below_drewN (Below.refl _ _) _), hN.below (below_drewN (Below.refl _ _) _)⟩
        case measure => simp [intOf]
    by_cases e2 : k = 2
    · subst e2
      have nm := hN.cell 2
      simp only [List.getElem?_cons_zero, List.getElem?_cons_succ] at nm
      have EQ : Hid (codeTo x0 (2 + 1) = if wordL 2 = x0 then 2 else codeTo x0 2) := rfl
      by_cases he : x0 = [115, 116, 111, 112, 112, 101, 100]
      · have hE : ([115, 116, 111, 112, 112, 101, 100] == x0) = true := by rw [he]; rfl
        have hE2 : (x0 == [115, 116, 111, 112, 112, 101, 100]) = true := by rw [he]; rfl
        have HC : Hid (codeTo x0 (2 + 1) = 2) := by show _ = _; rw [EQ.out, if_pos (by rw [he]; rfl)]
        have HSC : Hid (∀ W, Below wr.heap.size wr W → SB W1 2 (.slice none 0 0) [] (W.setCell ⟨W1.heap.size, 0, none⟩ (.int .i64 2)) ∧ Cel (W.setCell ⟨W1.heap.size, 0, none⟩ (.int .i64 2)) (W1.heap.size + 1) [.string ⟨#[]⟩, .string ⟨#[100, 111, 110, 101]⟩, .string ⟨#[115, 116, 111, 112, 112, 101, 100]⟩, .string ⟨#[111, 118, 101, 114]⟩] 9) := fun W h => ⟨(sb.below h).code 2, (hN.below h).setOther (show W1.heap.size + 1 ≠ W1.heap.size by omega) 0 _⟩
        clear he EQ
        go_wp2_with fail
        go_quiet (fail)
        go_wp2
        go_roundw
        case rel => exact ⟨2 + 1, by omega, by omega, by go_num, by rw [HC.out]; exact (HSC.out _ (below_drewN (Below.refl _ _) _)).1, (HSC.out _ (below_drewN (Below.refl _ _) _)).2⟩
        case measure => simp [intOf]
      · have hE : ([115, 116, 111, 112, 112, 101, 100] == x0) = false := by simpa using fun e => he e.symm
        have hE2 : (x0 == [115, 116, 111, 112, 112, 101, 100]) = false := by simpa using he
        have HC : Hid (codeTo x0 (2 + 1) = codeTo x0 2) := by show _ = _; rw [EQ.out, if_neg (fun e => he e.symm)]
        clear he EQ
        go_wp2_with fail
        go_quiet (fail)
        go_wp2
        go_roundw
        case rel => exact ⟨2 + 1, by omega, by omega, by go_num, by rw [HC.out]; exact sb.below (below_drewN (Below.refl _ _) _), hN.below (below_drewN (Below.refl _ _) _)⟩
        case measure => simp [intOf]
    by_cases e3 : k = 3
    · subst e3
      have nm := hN.cell 3
      simp only [List.getElem?_cons_zero, List.getElem?_cons_succ] at nm
      have EQ : Hid (codeTo x0 (3 + 1) = if wordL 3 = x0 then 3 else codeTo x0 3) := rfl
      by_cases he : x0 = [111, 118, 101, 114]
      · have hE : ([111, 118, 101, 114] == x0) = true := by rw [he]; rfl
        have hE2 : (x0 == [111, 118, 101, 114]) = true := by rw [he]; rfl
        have HC : Hid (codeTo x0 (3 + 1) = 3) := by show _ = _; rw [EQ.out, if_pos (by rw [he]; rfl)]
        have HSC : Hid (∀ W, Below wr.heap.size wr W → SB W1 3 (.slice none 0 0) [] (W.setCell ⟨W1.heap.size, 0, none⟩ (.int .i64 3)) ∧ Cel (W.setCell ⟨W1.heap.size, 0, none⟩ (.int .i64 3)) (W1.heap.size + 1) [.string ⟨#[]⟩, .string ⟨#[100, 111, 110, 101]⟩, .string ⟨#[115, 116, 111, 112, 112, 101, 100]⟩, .string ⟨#[111, 118, 101, 114]⟩] 9) := fun W h => ⟨(sb.below h).code 3, (hN.below h).setOther (show W1.heap.size + 1 ≠ W1.heap.size by omega) 0 _⟩
        clear he EQ
        go_wp2_with fail
        go_quiet (fail)
        go_wp2
        go_roundw
        case rel => exact ⟨3 + 1, by omega, by omega, by go_num, by rw [HC.out]; exact (HSC.out _ (below_drewN (Below.refl _ _) _)).1, (HSC.out _ (below_drewN (Below.refl _ _) _)).2⟩
        case measure => simp [intOf]
      · have hE : ([111, 118, 101, 114] == x0) = false := by simpa using fun e => he e.symm
        have hE2 : (x0 == [111, 118, 101, 114]) = false := by simpa using he
        have HC : Hid (codeTo x0 (3 + 1) = codeTo x0 3) := by show _ = _; rw [EQ.out, if_neg (fun e => he e.symm)]
        clear he EQ
        go_wp2_with fail
        go_quiet (fail)
        go_wp2
        go_roundw
        case rel => exact ⟨3 + 1, by omega, by omega, by go_num, by rw [HC.out]; exact sb.below (below_drewN (Below.refl _ _) _), hN.below (below_drewN (Below.refl _ _) _)⟩
        case measure => simp [intOf]
    have hk4' : k = 4 := by omega
    have hk5 : ¬ (k : Int) < 4 := by omega
    rw [hk4'] at sb
    clear e1 e2 e3 h0 r0 r1 hN hk1 hk4 hk4'
    obtain ⟨C, hC⟩ : ∃ C, codeTo x0 4 = C := ⟨_, rfl⟩
    rw [hC] at sb
    have HC : Hid _ := hC
    clear hC
    obtain ⟨i0, hi, hz0, hz1, hz2⟩ := info_parts Tryd.infoInt
    have hsb := sb.b.size
    go_wp2_with fail
    go_loopw [8, 9, 10] (fun i _ _ wx => ∃ (q : Nat) (v : Value) (xs : List Int), q ≤ n ∧ i = .int .i64 ((q : Int) + 1) ∧ xs = numsL (ws.take q) ∧ xs.length = q ∧ SB W1 C v xs wx) (fun i _ _ _ => n + 1 - (intOf i).toNat)
    case atStart => exact ⟨0, _, [], Nat.zero_le _, rfl, rfl, rfl, sb⟩
    case round =>
      clear sb hsb
      obtain ⟨q, v, xs, hq, rfl, hxs, hxl, sb⟩ := hrel
      have HXS : Hid _ := hxs
      have HXL : Hid _ := hxl
      clear hxs hxl
      obtain ⟨ta, tc, rfl, iT⟩ := sb.ints HXL.out
      have r1 := sb.bx.cell 1
      have f1 := sb.bx.free 1
      simp only [List.getElem?_cons_zero, List.getElem?_cons_succ] at r1
      have hsb := sb.b.size
      have hRlt := sb.bx.lt
      by_cases hlt : q < n
      · obtain ⟨x, hx⟩ : ∃ x, ws[q]? = some x := ⟨_, List.getElem?_eq_getElem (by rw [HN.out]; exact hlt)⟩
        have hcell := CW.out wr sb.b (q + 1) x (by rw [List.getElem?_cons_succ]; exact hx)
        have hxlen : x.length ≤ 120 := by have := HWL.out x (List.mem_of_getElem? hx); omega
        have HS : Hid (numsL (ws.take (q + 1)) = numsL (ws.take q) ++ [(numL x).1]) := by
          show _ = _
          rw [numsL, numsL, List.take_succ_eq_append_getElem (by rw [HN.out]; exact hlt), List.map_append]
          have : ws[q]'(by rw [HN.out]; exact hlt) = x := by
            have := (List.getElem?_eq_some_iff.1 hx).2
            exact this
          rw [this]
          rfl
        clear hx
        have hq1 : (q : Int) + 1 < (n : Int) + 1 := by omega
        go_wp2_with fail
        refine (num_any x _ hxlen).mono ?_
        rintro e w4 ⟨rfl, rfl⟩
        generalize (numL x).1 = y at *
        generalize (numL x).2 = y2 at *
        have jo := sb.o
        rw [HXL.out] at jo
        go_wp2_with (at_builtin; go_must (refine wpList_append_lies _ rfl (.tmp 49) (.tmp 51) 22 rfl (W1.heap.size + 1) 3 i0 (.int .i64 0) 1 8 Tryd.underlying22 hi hz0 hz1 hz2 rfl (by decide) _ _ _ rfl (jo.alloc _) ⟨w4.heap.size, 0, none⟩ 1 1 [.int .i64 y] rfl rfl (news1 _ _ _) (one1 _ _) (by omega) (by unfold maxLen; omega) (by omega) (by rw [World.size_alloc]; omega) _ rfl ?_); intro g cp w5 hown hgrow hat hlt1; refine Hid.out ?_)
        refine Lib.hid ?_
        have s5 := sb.app HXL.out hown hgrow
        have hne := sb.ne
        have c1 : w5.cell? ⟨W1.heap.size, 1, none⟩ = some (.slice ta q tc) := by
          have := (sb.alloc (.cells #[.int .i64 y] 3)).bx
          rw [World.grownBy.cell_far hgrow ⟨W1.heap.size, 1, none⟩ (by rw [World.size_alloc]; show W1.heap.size < _; omega) (fun e => hne e.symm)]
          exact this.cell 1
        have f1' : w5.frozen? ⟨W1.heap.size, 1, none⟩ = false := by
          have := (sb.alloc (.cells #[.int .i64 y] 3)).bx
          rw [World.grownBy.frozen_far hgrow ⟨W1.heap.size, 1, none⟩ (by rw [World.size_alloc]; show W1.heap.size < _; omega) (fun e => hne e.symm)]
          exact this.free 1
        clear hown hgrow jo sb hat r1 f1 hcell iT
        go_wp2
        go_roundw
        case rel => exact ⟨q + 1, _, _, by omega, by go_num, by rw [HS.out, HXS.out], by rw [List.length_append, HXL.out]; rfl, s5⟩
        case measure => simp [intOf]; omega
      · have hqn : q = n := by omega
        have HXS2 : Hid (xs = numsL ws) := by show _ = _; rw [HXS.out, List.take_of_length_le (by rw [HN.out]; omega)]
        have hx5 : ¬ (q : Int) + 1 < (n : Int) + 1 := by omega
        clear hqn HXS
        have hq1 : q ≤ 1048576 := by omega
        have HTX : Hid (textP (preS l) = resText C q xs) := by show _ = _; rw [HPRE.out, textP, HXS2.out.symm, HC.out]; show resText C xs.length xs = _; rw [HXL.out]
        obtain ⟨T, hT⟩ : ∃ T, resText C q xs = T := ⟨_, rfl⟩
        have HT : Hid _ := hT
        clear hT
        have r0 := sb.bx.cell 0
        simp only [List.getElem?_cons_zero] at r0
        go_wp2_with fail
        refine (stext_any _ _ _ _ xs _ iT hq1).mono ?_
        rintro e w6 ⟨rfl, b6⟩
        rw [HT.out]
        have sb6 := sb.below b6
        have rc6 := (rc1.below sb.b).below b6
        have B6 := B1.trans (sb6.b.mono B1.size)
        have d0 := rc6.cell 0
        have d1 := rc6.cell 1
        have g0 := rc6.free 0
        have g1 := rc6.free 1
        have r06 := sb6.bx.cell 0
        have r16 := sb6.bx.cell 1
        have lt6 := rc6.lt
        simp only [List.getElem?_cons_zero, List.getElem?_cons_succ] at d0 d1 r06 r16
        have z1 := B1.size
        cases T with
        | nil =>
          have HR : Hid (rdS l = (0, [], false)) := by
            show _ = _
            rw [rdS, if_neg (by rw [rdB, HTX.out, HT.out]; simp)]
          clear rc1 sb rc6 r0 r1 f1
          go_wp2
          refine bodyPost_ret (v := .tuple #[resP 0 none 0 0, .bool false]) (by simp [results, Tryd.results25, go_sem, d0, d1]) rfl ⟨0, none, 0, 0, [], false, rfl, ?_, ⟨rfl, fun i hi => by omega⟩, HR.out⟩
          exact (B6.setCell (Nat.le_refl _) _).setCell (Nat.le_refl _) _
        | cons tb tt =>
          have iT6 := iT.below b6
          clear rc1 rc6 r0 r1 f1 d0 d1 g0 g1 lt6
          go_wp2_with fail
          refine (stext_any _ _ _ _ xs _ iT6 hq1).mono ?_
          rintro e w7 ⟨rfl, b7⟩
          rw [HT.out]
          have sb7 := sb6.below b7
          have iT7 := iT6.below b7
          obtain ⟨TT, hTT⟩ : ∃ TT, TT = tb :: tt := ⟨_, rfl⟩
          rw [← hTT]
          have HTT : Hid _ := hTT
          clear hTT
          have rc7 := ((B7c.out w7 (sb7.b)))
          have B7 := B1.trans (sb7.b.mono B1.size)
          have d0 := rc7.cell 0
          have d1 := rc7.cell 1
          have g0 := rc7.free 0
          have g1 := rc7.free 1
          have lt7 := rc7.lt
          have r07 := sb7.bx.cell 0
          have r17 := sb7.bx.cell 1
          simp only [List.getElem?_cons_zero, List.getElem?_cons_succ] at d0 d1 r07 r17
          by_cases he : TT = l
          · have hE : (TT == l) = true := by rw [he]; simp
            have hE2 : (TT != l) = false := by rw [he]; simp
            have HR : Hid (rdS l = (C, xs, true)) := by
              show _ = _
              rw [rdS, if_pos (by rw [rdB, HTX.out, HT.out, ← HTT.out, he]; simp [← he, HTT.out]), HPRE.out, HC.out, HXS2.out]
            clear he r06 r16 sb6 sb b6 b7 iT iT6
            go_wp2
            refine bodyPost_ret (v := .tuple #[resP C ta q tc, .bool true]) (by simp [results, Tryd.results25, go_sem, d0, d1]) rfl ⟨C, ta, q, tc, xs, true, rfl, ?_, ?_, HR.out⟩
            · exact (B7.setCell (Nat.le_refl _) _).setCell (Nat.le_refl _) _
            · exact sb7.ints2 HXL.out RLT.out _ _ _ _
          · have hE : (TT == l) = false := by simpa using he
            have hE2 : (TT != l) = true := by simpa using he
            have HR : Hid (rdS l = (0, [], false)) := by
              show _ = _
              rw [rdS, if_neg (by rw [rdB, HTX.out, HT.out, ← HTT.out]; simp [he])]
            clear he r06 r16 sb6 sb b6 b7 iT iT6
            go_wp2
            refine bodyPost_ret (v := .tuple #[resP 0 none 0 0, .bool false]) (by simp [results, Tryd.results25, go_sem, d0, d1]) rfl ⟨0, none, 0, 0, [], false, rfl, ?_, ⟨rfl, fun i hi => by omega⟩, HR.out⟩
            exact (B7.setCell (Nat.le_refl _) _).setCell (Nat.le_refl _) _

end Go.Proofs.YtejeffnonddfhaaDoor
