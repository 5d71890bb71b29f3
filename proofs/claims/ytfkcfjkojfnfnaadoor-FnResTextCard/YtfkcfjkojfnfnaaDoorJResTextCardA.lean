/-
  Lemmas that the claim's last text rests on: OpenS, Line, LineS, Act, Made, OpenR, Row, Fits, Own, Do, Sum5, RowDoI, RowDoS, MarkS2, ResL, RunL, RunS, Leave, Leave2, Stops, RunI, FvL, RunC.
-/
import Derived.Test.YtfkcfjkojfnfnaaDoorOpenF
import Derived.Test.YtfkcfjkojfnfnaaDoorLines
import Derived.Deep.AppendLies
import Derived.Test.YtfkcfjkojfnfnaaDoorSlices
import Derived.Test.YtfkcfjkojfnfnaaDoorOwn0
import Derived.Test.YtfkcfjkojfnfnaaDoorAdd
import Derived.Lib.SliceRun
import Derived.Test.YtfkcfjkojfnfnaaDoorKeyed
import Derived.Deep.DeepCutAuto
import Derived.Deep.RegionHeld3
import Derived.Laws.Pointers
import Derived.Defers
import Derived.Recover
import Derived.Test.YtfkcfjkojfnfnaaDoorFvC
namespace Go.Proofs.YtfkcfjkojfnfnaaDoor
open Go.ChangeShapes Go.WideShapes Go.ChangeAt Go.RowKit Go.Joins Go.Deep
set_option linter.unusedVariables false
set_option maxRecDepth 100000

theorem open_sliceC {α : Type} (d0 : α) (cf : α → List Value) {H : Type} {enc : TypeId × Value → H} {W : World} (R : α → Prop) {S E : TypeId} {c : Nat} (hc : 0 < c) (hS : Tryd.prog.underlying S = some (.slice E)) (hE : Tryd.prog.cellsOf E = c) (hlen : ∀ a, (cf a).length = c)
    (hel : ∀ (fuel : Nat) (cs : List Value) (x : DataW H × List MemPlace), DataW.trod enc Tryd.prog W 0 (fun _ => true) true fuel E cs = some x → ∃ a, cs = cf a ∧ R a) {fuel : Nat} {v : Value} {y : DataW H × List MemPlace}
    (hf : DataW.trod enc Tryd.prog W 0 (fun _ => true) true fuel S [v] = some y) :
    ∃ (ad : Option Addr) (N cap : Nat) (xs : List α), v = .slice ad N cap ∧ xs.length = N ∧ N ≤ maxLen ∧ ∀ i, i < xs.length → ∃ b off, ad = some ⟨b, off, none⟩ ∧ (∀ r, r < c → W.cell? ⟨b, off + i * c + r, none⟩ = (cf (xs[i]?.getD d0))[r]?) ∧ R (xs[i]?.getD d0) := by
  rcases open_slice hS hf with ⟨hcs, _⟩ | ⟨a, len, cap, m, n, D, Pl, hcs, _, hl, hm, hmm, _, hall⟩
  · simp at hcs
    exact ⟨none, 0, 0, [], hcs, rfl, by unfold maxLen; omega, fun i hi => by simp at hi⟩
  · simp at hcs
    obtain rfl : m = cap := by simpa using hmm
    rw [hE] at hall
    have hex : ∀ i, i < len → ∃ f : α, W.cells? 0 (a.add (i * c)) c = some (cf f) ∧ R f := fun i hi => by
      obtain ⟨cs', h1, h2⟩ := hall i (by omega)
      obtain ⟨f, rfl, h3⟩ := hel _ _ _ h2
      exact ⟨f, h1, h3⟩
    have : ∃ F : Nat → α, ∀ i, i < len → W.cells? 0 (a.add (i * c)) c = some (cf (F i)) ∧ R (F i) := by
      classical
      refine ⟨fun i => if hi : i < len then Classical.choose (hex i hi) else d0, fun i hi => ?_⟩
      simp only [dif_pos hi]
      exact Classical.choose_spec (hex i hi)
    obtain ⟨F, hF⟩ := this
    refine ⟨some a, len, m, (List.range len).map F, hcs, by simp, by omega, fun i hi => ?_⟩
    have hi' : i < len := by simpa using hi
    have hg : ((List.range len).map F)[i]?.getD d0 = F i := by simp [hi']
    rw [hg]
    obtain ⟨h1, h2⟩ := hF i hi'
    obtain ⟨b, off, spot⟩ := a
    have hspot : spot = none := by
      have h0 := (World.cells?_some (hF 0 (by omega)).1).2.2 0 hc
      have h3 : ∃ x, (cf (F 0))[0]? = some x := ⟨_, List.getElem?_eq_getElem (by rw [hlen]; exact hc)⟩
      obtain ⟨x, h3⟩ := h3
      rw [h3] at h0
      simpa [Addr.add] using World.cell?_spot h0
    subst hspot
    have hadd : (⟨b, off, none⟩ : Addr).add (i * c) = ⟨b, off + i * c, none⟩ := by
      by_cases h0 : i * c = 0
      · rw [h0]; simp [Addr.add]
      · simp [Addr.add, h0]
    rw [hadd] at h1
    exact ⟨b, off, rfl, fun r hr => cells_at h1 r hr, h2⟩

/-- A slice that came in xs an argument. -/
theorem open_sliceT {α : Type} (d0 : α) (cf : α → List Value) {H : Type} {enc : TypeId × Value → H} {W : World} (R : α → Prop) {S E : TypeId} {c : Nat} (hc : 0 < c) (hS : Tryd.prog.underlying S = some (.slice E)) (hE : Tryd.prog.cellsOf E = c) (hlen : ∀ a, (cf a).length = c)
    (hel : ∀ (fuel : Nat) (cs : List Value) (x : DataW H × List MemPlace), DataW.trod enc Tryd.prog W 0 (fun _ => true) true fuel E cs = some x → ∃ a, cs = cf a ∧ R a) {r : Reach} {b0 : Nat} {v : Value} {d : DataW H} {p : List MemPlace}
    (hv : Value.okWide Tryd.prog W r b0 S v) (h : DataW.Trod enc Tryd.prog W 0 (fun _ => true) true S v d p) :
    ∃ (ad : Option Addr) (N cap : Nat) (xs : List α), v = .slice ad N cap ∧ xs.length = N ∧ N ≤ maxLen ∧ ∀ i, i < xs.length → ∃ b off, ad = some ⟨b, off, none⟩ ∧ (∀ r, r < c → W.cell? ⟨b, off + i * c + r, none⟩ = (cf (xs[i]?.getD d0))[r]?) ∧ R (xs[i]?.getD d0) := by
  obtain ⟨a0, len0, cap0, rfl⟩ := okWide_slice hS hv
  obtain ⟨fuel, hf⟩ := h
  exact open_sliceC d0 cf R hc hS hE hlen hel (by simpa [Value.cells] using hf)

end Go.Proofs.YtfkcfjkojfnfnaaDoor
namespace Go.Proofs.YtfkcfjkojfnfnaaDoor
open Go.ChangeShapes Go.WideShapes Go.ChangeAt Go.RowKit Go.Joins Go.Deep
set_option linter.unusedVariables false
set_option maxRecDepth 100000

/-- A line as a value. -/
abbrev lineV (kind pot skip : Int) (a : Option Addr) (n cap : Nat) (c : Option Addr) (m cap' : Nat) (K : Int) : Value := .agg #[.int .i64 kind, .int .i64 pot, .int .i64 skip, .slice a n cap, .slice c m cap', .int .i64 K]
theorem Cel.six {w : World} {B : Nat} {x0 x1 x2 x3 x4 x5 : Value} {t : TypeId} (h : Cel w B [x0, x1, x2, x3, x4, x5] t) : w.cell? ⟨B, 0, none⟩ = some x0 ∧ w.cell? ⟨B, 1, none⟩ = some x1 ∧ w.cell? ⟨B, 2, none⟩ = some x2 ∧ w.cell? ⟨B, 3, none⟩ = some x3 ∧ w.cell? ⟨B, 4, none⟩ = some x4 ∧ w.cell? ⟨B, 5, none⟩ = some x5 := ⟨h.cell 0, h.cell 1, h.cell 2, h.cell 3, h.cell 4, h.cell 5⟩
theorem Cel.frees {w : World} {B : Nat} {vs : List Value} {t : TypeId} (h : Cel w B vs t) : w.frozen? ⟨B, 0, none⟩ = false ∧ w.frozen? ⟨B, 1, none⟩ = false ∧ w.frozen? ⟨B, 2, none⟩ = false ∧ w.frozen? ⟨B, 3, none⟩ = false ∧ w.frozen? ⟨B, 4, none⟩ = false ∧ w.frozen? ⟨B, 5, none⟩ = false := ⟨h.free 0, h.free 1, h.free 2, h.free 3, h.free 4, h.free 5⟩

/-- A box that a call lays first, and old memory. -/
structure BL (w : World) (B : Nat) (la : List Value) (ty : TypeId) (W : World) : Prop where
  p : Cel W B la ty
  b : Below w.heap.size w W
theorem BL.new (w : World) (la : List Value) (ty : TypeId) : BL w w.heap.size la ty (w.alloc (.cells la.toArray ty)) := ⟨Cel.new w la ty, (Below.refl _ _).alloc (Nat.le_refl _) _⟩
theorem BL.below {w W W' : World} {B : Nat} {la : List Value} {ty : TypeId} (h : BL w B la ty W) (b : Below W.heap.size W W') : BL w B la ty W' := ⟨h.p.below b, h.b.trans (b.mono h.b.size)⟩
theorem BL.alloc {w W : World} {B : Nat} {la : List Value} {ty : TypeId} (h : BL w B la ty W) (o : Obj) : BL w B la ty (W.alloc o) := h.below ((Below.refl _ _).alloc (Nat.le_refl _) _)


/-- The step that the program makes of a line. -/
def stepV (l : LV) : Value :=
  if l.kind = 1 then .iface 147 (.agg #[.int .i64 l.skip, .slice l.f.a l.f.n l.f.cap, .slice l.f.c l.f.m l.f.cap', .int .i64 l.f.K])
  else if l.kind = 2 then .iface 149 (.agg #[.int .i64 l.pot, .slice l.f.a l.f.n l.f.cap, .slice l.f.c l.f.m l.f.cap', .int .i64 l.f.K])
  else if l.kind = 3 then .iface 151 (.agg #[.slice l.f.a l.f.n l.f.cap, .slice l.f.c l.f.m l.f.cap', .int .i64 l.f.K])
  else if l.kind = 4 then .iface 152 (.agg #[])
  else .nilIface

set_option maxHeartbeats 1600000 in
theorem sline_any (kind pot skip : Int) (a : Option Addr) (n cap : Nat) (c : Option Addr) (m cap' : Nat) (K : Int) (C D : List Int) (w : World) (hC : Ints w a n C) (hD : Ints w c m D) (hn : n ≤ 1048576) (hm : m ≤ 1048576) :
    Calls Tryd.prog 69 #[lineV kind pot skip a n cap c m cap' K] w fun e w' => e = .returned (.bool (lineB kind pot skip n m C D K)) ∧ Below w.heap.size w w' := by
  have n0 := BL.new w [.int .i64 kind, .int .i64 pot, .int .i64 skip, .slice a n cap, .slice c m cap', .int .i64 K] 94
  by_cases hk1 : kind = 1
  · subst hk1
    by_cases hp : pot = 0
    · subst hp
      cases hs : inB skip 1 6
      · go_enter Tryd.func69, Tryd.ntmps69
        go_wp2_with fail
        refine (in_any _ _ _ _).mono ?_
        rintro e w1 ⟨rfl, rfl⟩
        rw [hs]
        go_wp2
        go_ret
        exact ⟨ret_bool (by simp [lineB, hs]), n0.b⟩
      · go_enter Tryd.func69, Tryd.ntmps69
        go_wp2_with fail
        refine (in_any _ _ _ _).mono ?_
        rintro e w1 ⟨rfl, rfl⟩
        rw [hs]
        go_wp2_with fail
        refine (sSmall_any _ _ _ _ _ _ _ C D _ (hC.below n0.b) (hD.below n0.b) hn hm).mono ?_
        rintro e w1 ⟨rfl, b1⟩
        go_wp2
        go_ret
        exact ⟨ret_bool (by simp [lineB, hs]), (n0.below b1).b⟩
    · have hp' : (pot == 0) = false := by simp [hp]
      go_enter Tryd.func69, Tryd.ntmps69
      go_wp2
      go_ret
      exact ⟨ret_bool (by simp [lineB, hp]), n0.b⟩
  · by_cases hk2 : kind = 2
    · subst hk2
      cases hp : inB pot 0 2
      · go_enter Tryd.func69, Tryd.ntmps69
        go_wp2_with fail
        refine (in_any _ _ _ _).mono ?_
        rintro e w1 ⟨rfl, rfl⟩
        rw [hp]
        go_wp2
        go_ret
        exact ⟨ret_bool (by simp [lineB, hp]), n0.b⟩
      · by_cases hs : skip = 0
        · subst hs
          go_enter Tryd.func69, Tryd.ntmps69
          go_wp2_with fail
          refine (in_any _ _ _ _).mono ?_
          rintro e w1 ⟨rfl, rfl⟩
          rw [hp]
          go_wp2_with fail
          refine (sSmall_any _ _ _ _ _ _ _ C D _ (hC.below n0.b) (hD.below n0.b) hn hm).mono ?_
          rintro e w1 ⟨rfl, b1⟩
          go_wp2
          go_ret
          exact ⟨ret_bool (by simp [lineB, hp]), (n0.below b1).b⟩
        · have hs' : (skip == 0) = false := by simp [hs]
          go_enter Tryd.func69, Tryd.ntmps69
          go_wp2_with fail
          refine (in_any _ _ _ _).mono ?_
          rintro e w1 ⟨rfl, rfl⟩
          rw [hp]
          go_wp2
          go_ret
          exact ⟨ret_bool (by simp [lineB, hs]), n0.b⟩
    · by_cases hk3 : kind = 3
      · subst hk3
        by_cases hp : pot = 0
        · subst hp
          by_cases hs : skip = 0
          · subst hs
            go_enter Tryd.func69, Tryd.ntmps69
            go_wp2_with fail
            refine (sSmall_any _ _ _ _ _ _ _ C D _ (hC.below n0.b) (hD.below n0.b) hn hm).mono ?_
            rintro e w1 ⟨rfl, b1⟩
            go_wp2
            go_ret
            exact ⟨ret_bool (by simp [lineB, ]), (n0.below b1).b⟩
          · have hs' : (skip == 0) = false := by simp [hs]
            go_enter Tryd.func69, Tryd.ntmps69
            go_wp2
            go_ret
            exact ⟨ret_bool (by simp [lineB, hs]), n0.b⟩
        · have hp' : (pot == 0) = false := by simp [hp]
          go_enter Tryd.func69, Tryd.ntmps69
          go_wp2
          go_ret
          exact ⟨ret_bool (by simp [lineB, hp]), n0.b⟩
      · have hk1' : (kind == 1) = false := by simp [hk1]
        have hk2' : (kind == 2) = false := by simp [hk2]
        have hk3' : (kind == 3) = false := by simp [hk3]
        by_cases hk4 : kind = 4
        · subst hk4
          by_cases hp : pot = 0
          · subst hp
            by_cases hs : skip = 0
            · subst hs
              by_cases hl : (n : Int) + m = 0
              · have hl' : ((n : Int) + m == 0) = true := by simp [hl]
                go_enter Tryd.func69, Tryd.ntmps69
                go_wp2
                go_ret
                exact ⟨ret_bool (by simp only [lineB, hl', Int.reduceEq, if_false, beq_self_eq_true, Bool.true_and]), n0.b⟩
              · have hl' : ((n : Int) + m == 0) = false := by simpa using hl
                go_enter Tryd.func69, Tryd.ntmps69
                go_wp2
                go_ret
                exact ⟨ret_bool (by simp only [lineB, hl', Int.reduceEq, if_false, beq_self_eq_true, Bool.true_and, Bool.false_and]), n0.b⟩
            · have hs' : (skip == 0) = false := by simp [hs]
              go_enter Tryd.func69, Tryd.ntmps69
              go_wp2
              go_ret
              exact ⟨ret_bool (by simp [lineB, hs]), n0.b⟩
          · have hp' : (pot == 0) = false := by simp [hp]
            go_enter Tryd.func69, Tryd.ntmps69
            go_wp2
            go_ret
            exact ⟨ret_bool (by simp [lineB, hp]), n0.b⟩
        · have hk4' : (kind == 4) = false := by simp [hk4]
          go_enter Tryd.func69, Tryd.ntmps69
          go_wp2
          go_ret
          exact ⟨ret_bool (by simp [lineB, hk1, hk2, hk3, hk4]), n0.b⟩

set_option maxHeartbeats 1600000 in
theorem iSmall_any (a : Option Addr) (n cap : Nat) (c : Option Addr) (m cap' : Nat) (K : Int) (C D : List Int) (w : World) (hC : Ints w a n C) (hD : Ints w c m D) (hn : n ≤ 1048576) (hm : m ≤ 1048576) :
    Calls Tryd.prog 113 #[formV a n cap c m cap' K] w fun e w' => e = .returned (.bool (smallB n m C D K)) ∧ Below w.heap.size w w' := by
  have n0 := BL.new w [.slice a n cap, .slice c m cap', .int .i64 K] 25
  obtain ⟨fb, hfb⟩ : ∃ fb, fb = formB n m C D K := ⟨_, rfl⟩
  have HF : Hid (fb = formB n m C D K) := hfb
  clear hfb
  go_enter Tryd.func113, Tryd.ntmps113
  go_wp2_with fail
  refine (iok_any _ _ _ _ _ _ _ C D _ (hC.alloc _) (hD.alloc _) hn hm).mono ?_
  rintro e w1 ⟨rfl, b1⟩
  have n1 := n0.below b1
  rw [← HF.out]
  clear n0 b1
  have c0 := n1.p.cell 0
  have c1 := n1.p.cell 1
  have c2 := n1.p.cell 2
  simp only [List.getElem?_cons_zero, List.getElem?_cons_succ] at c0 c1 c2
  cases fb
  · have hs : smallB n m C D K = false := by
      cases hh : smallB n m C D K
      · rfl
      · have := small_ok hh; rw [← HF.out] at this; cases this
    go_wp2
    go_ret
    exact ⟨ret_bool hs.symm, n1.b⟩
  have HS : Hid _ := small_eq HF.out.symm
  cases h3 : allB 2 C
  · go_wp2_with fail
    refine (within_any _ _ _ C _ _ (hC.below n1.b) hn (by omega) (by omega)).mono ?_
    rintro e w2 ⟨rfl, rfl⟩
    rw [h3]
    go_wp2
    go_ret
    exact ⟨ret_bool (by rw [HS.out, h3]; rfl), n1.b⟩
  · cases h4 : allB 2 D
    · go_wp2_with fail
      refine (within_any _ _ _ C _ _ (hC.below n1.b) hn (by omega) (by omega)).mono ?_
      rintro e w2 ⟨rfl, rfl⟩
      rw [h3]
      go_wp2_with fail
      refine (within_any _ _ _ D _ _ (hD.below n1.b) hm (by omega) (by omega)).mono ?_
      rintro e w2 ⟨rfl, rfl⟩
      rw [h4]
      go_wp2
      go_ret
      exact ⟨ret_bool (by rw [HS.out, h3, h4]; rfl), n1.b⟩
    · go_wp2_with fail
      refine (within_any _ _ _ C _ _ (hC.below n1.b) hn (by omega) (by omega)).mono ?_
      rintro e w2 ⟨rfl, rfl⟩
      rw [h3]
      go_wp2_with fail
      refine (within_any _ _ _ D _ _ (hD.below n1.b) hm (by omega) (by omega)).mono ?_
      rintro e w2 ⟨rfl, rfl⟩
      rw [h4]
      go_wp2_with fail
      refine (within_any (some ⟨_, 0, none⟩) 1 1 [K] _ _ ?_ (by omega) (by omega) (by omega)).mono ?_
      · refine ⟨rfl, fun i hi => ⟨_, 0, rfl, ?_⟩⟩
        obtain rfl : i = 0 := by omega
        exact (Cel.new _ [.int .i64 K] _).cell 0
      rintro e w2 ⟨rfl, rfl⟩
      go_wp2
      go_ret
      exact ⟨ret_bool (by rw [allB_one, HS.out, h3, h4]; rfl), (n1.alloc _).b⟩

theorem iNoth_any (a : Option Addr) (n cap : Nat) (c : Option Addr) (m cap' : Nat) (K : Int) (w : World) :
    Calls Tryd.prog 114 #[formV a n cap c m cap' K] w fun e w' => e = .returned (.bool (((n : Int) + m == 0) && (K == 0))) ∧ Below w.heap.size w w' := by
  have n0 := BL.new w [.slice a n cap, .slice c m cap', .int .i64 K] 25
  by_cases h1 : (n : Int) = 0
  · obtain rfl : n = 0 := by omega
    by_cases h2 : (m : Int) = 0
    · obtain rfl : m = 0 := by omega
      go_enter Tryd.func114, Tryd.ntmps114
      go_wp2
      go_ret
      exact ⟨ret_bool (by simp), n0.b⟩
    · have h2' : ((m : Int) == 0) = false := by simpa using h2
      go_enter Tryd.func114, Tryd.ntmps114
      go_wp2
      go_ret
      exact ⟨ret_bool (by simp; omega), n0.b⟩
  · have h1' : ((n : Int) == 0) = false := by simpa using h1
    go_enter Tryd.func114, Tryd.ntmps114
    go_wp2
    go_ret
    exact ⟨ret_bool (by simp; omega), n0.b⟩

theorem ret_step {u v : Value} {a b : Bool} (h : u = v) (h' : a = b) : Ending.returned (.tuple #[u, .bool a]) = .returned (.tuple #[v, .bool b]) := by rw [h, h']

set_option maxHeartbeats 3200000 in
theorem istep_any (kind pot skip : Int) (a : Option Addr) (n cap : Nat) (c : Option Addr) (m cap' : Nat) (K : Int) (C D : List Int) (w : World) (hC : Ints w a n C) (hD : Ints w c m D) (hn : n ≤ 1048576) (hm : m ≤ 1048576) :
    Calls Tryd.prog 91 #[lineV kind pot skip a n cap c m cap' K] w fun e w' => e = .returned (.tuple #[stepV ⟨kind, pot, skip, ⟨a, n, cap, c, m, cap', K, C, D⟩⟩, .bool (lineB kind pot skip n m C D K)]) ∧ Below w.heap.size w w' := by
  have n0 := BL.new w [.int .i64 kind, .int .i64 pot, .int .i64 skip, .slice a n cap, .slice c m cap', .int .i64 K] 94
  by_cases hk1 : kind = 1
  · subst hk1
    by_cases hp : pot = 0
    · subst hp
      by_cases hs1 : 1 ≤ skip
      · by_cases hs2 : skip ≤ 6
        · have hs : inB skip 1 6 = true := inB_iff.2 ⟨hs1, hs2⟩
          go_enter Tryd.func91, Tryd.ntmps91
          go_wp2_with fail
          refine (iSmall_any _ _ _ _ _ _ _ C D _ (hC.below n0.b) (hD.below n0.b) hn hm).mono ?_
          rintro e w1 ⟨rfl, b1⟩
          obtain ⟨c0, c1, c2, c3, c4, c5⟩ := (n0.below b1).p.six
          go_wp2
          go_ret2
          exact ⟨ret_step (by simp [stepV]) (by simp [lineB, hs]), (n0.below b1).b⟩
        · have hs : inB skip 1 6 = false := inB_not.2 (by omega)
          go_enter Tryd.func91, Tryd.ntmps91
          go_wp2
          go_ret2
          exact ⟨ret_step (by simp [stepV]) (by simp [lineB, hs]), n0.b⟩
      · have hs : inB skip 1 6 = false := inB_not.2 (by omega)
        go_enter Tryd.func91, Tryd.ntmps91
        go_wp2
        go_ret2
        exact ⟨ret_step (by simp [stepV]) (by simp [lineB, hs]), n0.b⟩
    · have hp' : (pot == 0) = false := by simp [hp]
      go_enter Tryd.func91, Tryd.ntmps91
      go_wp2
      go_ret2
      exact ⟨ret_step (by simp [stepV]) (by simp [lineB, hp]), n0.b⟩
  · by_cases hk2 : kind = 2
    · subst hk2
      by_cases hp1 : 0 ≤ pot
      · by_cases hp2 : pot < 3
        · have hp : inB pot 0 2 = true := inB_iff.2 ⟨hp1, by omega⟩
          by_cases hs : skip = 0
          · subst hs
            go_enter Tryd.func91, Tryd.ntmps91
            go_wp2_with fail
            refine (place_any _ _ _).mono ?_
            rintro e w1 ⟨rfl, rfl⟩
            rw [decide_eq_true (show 0 ≤ pot ∧ pot < 3 from ⟨hp1, hp2⟩)]
            go_wp2_with fail
            refine (iSmall_any _ _ _ _ _ _ _ C D _ (hC.below n0.b) (hD.below n0.b) hn hm).mono ?_
            rintro e w1 ⟨rfl, b1⟩
            obtain ⟨c0, c1, c2, c3, c4, c5⟩ := (n0.below b1).p.six
            go_wp2
            go_ret2
            exact ⟨ret_step (by simp [stepV]) (by simp [lineB, hp]), (n0.below b1).b⟩
          · have hs' : (skip == 0) = false := by simp [hs]
            go_enter Tryd.func91, Tryd.ntmps91
            go_wp2_with fail
            refine (place_any _ _ _).mono ?_
            rintro e w1 ⟨rfl, rfl⟩
            rw [decide_eq_true (show 0 ≤ pot ∧ pot < 3 from ⟨hp1, hp2⟩)]
            go_wp2
            go_ret2
            exact ⟨ret_step (by simp [stepV]) (by simp [lineB, hs]), n0.b⟩
        · have hp : inB pot 0 2 = false := inB_not.2 (by omega)
          go_enter Tryd.func91, Tryd.ntmps91
          go_wp2_with fail
          refine (place_any _ _ _).mono ?_
          rintro e w1 ⟨rfl, rfl⟩
          rw [decide_eq_false (show ¬ (0 ≤ pot ∧ pot < 3) by omega)]
          go_wp2
          go_ret2
          exact ⟨ret_step (by simp [stepV]) (by simp [lineB, hp]), n0.b⟩
      · have hp : inB pot 0 2 = false := inB_not.2 (by omega)
        go_enter Tryd.func91, Tryd.ntmps91
        go_wp2_with fail
        refine (place_any _ _ _).mono ?_
        rintro e w1 ⟨rfl, rfl⟩
        rw [decide_eq_false (show ¬ (0 ≤ pot ∧ pot < 3) by omega)]
        go_wp2
        go_ret2
        exact ⟨ret_step (by simp [stepV]) (by simp [lineB, hp]), n0.b⟩
    · by_cases hk3 : kind = 3
      · subst hk3
        by_cases hp : pot = 0
        · subst hp
          by_cases hs : skip = 0
          · subst hs
            go_enter Tryd.func91, Tryd.ntmps91
            go_wp2_with fail
            refine (iSmall_any _ _ _ _ _ _ _ C D _ (hC.below n0.b) (hD.below n0.b) hn hm).mono ?_
            rintro e w1 ⟨rfl, b1⟩
            obtain ⟨c0, c1, c2, c3, c4, c5⟩ := (n0.below b1).p.six
            go_wp2
            go_ret2
            exact ⟨ret_step (by simp [stepV]) (by simp [lineB, ]), (n0.below b1).b⟩
          · have hs' : (skip == 0) = false := by simp [hs]
            go_enter Tryd.func91, Tryd.ntmps91
            go_wp2
            go_ret2
            exact ⟨ret_step (by simp [stepV]) (by simp [lineB, hs]), n0.b⟩
        · have hp' : (pot == 0) = false := by simp [hp]
          go_enter Tryd.func91, Tryd.ntmps91
          go_wp2
          go_ret2
          exact ⟨ret_step (by simp [stepV]) (by simp [lineB, hp]), n0.b⟩
      · have hk1' : (kind == 1) = false := by simp [hk1]
        have hk2' : (kind == 2) = false := by simp [hk2]
        have hk3' : (kind == 3) = false := by simp [hk3]
        by_cases hk4 : kind = 4
        · subst hk4
          by_cases hp : pot = 0
          · subst hp
            by_cases hs : skip = 0
            · subst hs
              go_enter Tryd.func91, Tryd.ntmps91
              go_wp2_with fail
              refine (iNoth_any _ _ _ _ _ _ _ _).mono ?_
              rintro e w1 ⟨rfl, b1⟩
              obtain ⟨c0, c1, c2, c3, c4, c5⟩ := (n0.below b1).p.six
              go_wp2
              go_ret2
              exact ⟨ret_step (by simp [stepV]) (by simp only [lineB, Int.reduceEq, if_false, beq_self_eq_true, Bool.true_and]), (n0.below b1).b⟩
            · have hs' : (skip == 0) = false := by simp [hs]
              go_enter Tryd.func91, Tryd.ntmps91
              go_wp2
              go_ret2
              exact ⟨ret_step (by simp [stepV]) (by simp [lineB, hs]), n0.b⟩
          · have hp' : (pot == 0) = false := by simp [hp]
            go_enter Tryd.func91, Tryd.ntmps91
            go_wp2
            go_ret2
            exact ⟨ret_step (by simp [stepV]) (by simp [lineB, hp]), n0.b⟩
        · have hk4' : (kind == 4) = false := by simp [hk4]
          go_enter Tryd.func91, Tryd.ntmps91
          go_wp2
          go_ret2
          exact ⟨ret_step (by simp [stepV, hk1, hk2, hk3, hk4]) (by simp [lineB, hk1, hk2, hk3, hk4]), n0.b⟩

end Go.Proofs.YtfkcfjkojfnfnaaDoor
namespace Go.Proofs.YtfkcfjkojfnfnaaDoor
open Go.ChangeShapes Go.WideShapes Go.ChangeAt Go.RowKit Go.Joins Go.Deep
set_option linter.unusedVariables false
set_option maxRecDepth 100000

/-- A slice of lines. -/
def LinesG (w : World) (ad : Option Addr) (ls : List LV) : Prop :=
  ∀ i, i < ls.length → ∃ b off, ad = some ⟨b, off, none⟩ ∧ (∀ r, r < 6 → w.cell? ⟨b, off + i * 6 + r, none⟩ = (ls[i]?.getD noLV).cs[r]?) ∧ (ls[i]?.getD noLV).f.At w
theorem cells_below {w w' : World} {b o : Nat} {l : LV} (h : ∀ r, r < 6 → w.cell? ⟨b, o + r, none⟩ = l.cs[r]?) (hb : Below w.heap.size w w') : ∀ r, r < 6 → w'.cell? ⟨b, o + r, none⟩ = l.cs[r]? := fun r hr => by
  have hl : b < w.heap.size := by
    have := h 0 (by omega)
    exact block_lt (v := .int .i64 l.kind) (by rw [this]; rfl)
  rw [hb.cell (p := ⟨b, o + r, none⟩) hl]; exact h r hr
theorem LinesG.below {w w' : World} {ad : Option Addr} {ls : List LV} (h : LinesG w ad ls) (hb : Below w.heap.size w w') : LinesG w' ad ls := fun i hi => by
  obtain ⟨b, off, e, hc, ha⟩ := h i hi
  exact ⟨b, off, e, cells_below hc hb, ha.below hb⟩
theorem LinesM.below {w w' : World} {ad : Option Addr} {ls : List LV} (h : LinesM w ad ls) (hb : Below w.heap.size w w') : LinesM w' ad ls := fun i hi => by
  obtain ⟨b, off, e, hc, h1, h2, h3⟩ := h i hi
  exact ⟨b, off, e, cells_below hc hb, h1.below hb, h2.below hb, h3⟩
theorem LinesM.g {w : World} {ad : Option Addr} {ls : List LV} (h : LinesM w ad ls) (hs : ∀ i, i < ls.length → (ls[i]?.getD noLV).f.n ≤ 1048576 ∧ (ls[i]?.getD noLV).f.m ≤ 1048576) : LinesG w ad ls := fun i hi => by
  obtain ⟨b, off, e, hc, h1, h2, h3⟩ := h i hi
  exact ⟨b, off, e, hc, ⟨h1, h2, (hs i hi).1, (hs i hi).2⟩⟩
theorem six_of {w : World} {b o : Nat} {l : LV} (h : ∀ r, r < 6 → w.cell? ⟨b, o + r, none⟩ = l.cs[r]?) :
    w.cell? ⟨b, o, none⟩ = some (.int .i64 l.kind) ∧ w.cell? ⟨b, o + 1, none⟩ = some (.int .i64 l.pot) ∧ w.cell? ⟨b, o + 2, none⟩ = some (.int .i64 l.skip) ∧ w.cell? ⟨b, o + 3, none⟩ = some (.slice l.f.a l.f.n l.f.cap) ∧ w.cell? ⟨b, o + 4, none⟩ = some (.slice l.f.c l.f.m l.f.cap') ∧ w.cell? ⟨b, o + 5, none⟩ = some (.int .i64 l.f.K) :=
  ⟨h 0 (by omega), h 1 (by omega), h 2 (by omega), h 3 (by omega), h 4 (by omega), h 5 (by omega)⟩

theorem open_lineC {H : Type} {enc : TypeId × Value → H} {W : World} {fuel : Nat} {cs : List Value} {x : DataW H × List MemPlace}
    (hf : DataW.trod enc Tryd.prog W 0 (fun _ => true) true fuel 94 cs = some x) :
    ∃ l : LV, cs = l.cs ∧ Ints W l.f.a l.f.n l.f.C ∧ Ints W l.f.c l.f.m l.f.D ∧ l.f.n ≤ maxLen ∧ l.f.m ≤ maxLen := by
  obtain ⟨y0, y1, y2, y3, n, _, hl, h0, h1, h2, h3⟩ := trod_struct4 Tryd.underlying94 hf
  have hl' : cs.length = 6 := hl.trans (by kernel_rfl)
  match cs, hl' with
  | [c0, c1, c2, c3, c4, c5], _ =>
    have k3 : Tryd.prog.cellsOf 3 = 1 := by kernel_rfl
    have k57 : Tryd.prog.cellsOf 25 = 3 := by kernel_rfl
    simp only [k3, k57, List.drop_zero, List.drop_succ_cons, List.take_succ_cons, List.take_zero] at h0 h1 h2 h3
    obtain ⟨a0, rfl, _⟩ := open_num h0
    obtain ⟨a1, rfl, _⟩ := open_num h1
    obtain ⟨a2, rfl, _⟩ := open_num h2
    obtain ⟨f, e, hf'⟩ := open_formC h3
    simp only [FV.cs, List.cons.injEq, and_true] at e
    obtain ⟨rfl, rfl, rfl⟩ := e
    exact ⟨⟨a0, a1, a2, f⟩, rfl, hf'⟩

theorem open_linesC {H : Type} {enc : TypeId × Value → H} {W : World} {fuel : Nat} {v : Value} {y : DataW H × List MemPlace}
    (hf : DataW.trod enc Tryd.prog W 0 (fun _ => true) true fuel 43 [v] = some y) :
    ∃ ad N cap ls, v = .slice ad N cap ∧ ls.length = N ∧ LinesM W ad ls ∧ N ≤ maxLen := by
  obtain ⟨ad, N, cap, fs, hv, hl, hN, hall⟩ := open_sliceC noLV LV.cs (fun l => Ints W l.f.a l.f.n l.f.C ∧ Ints W l.f.c l.f.m l.f.D ∧ l.f.n ≤ maxLen ∧ l.f.m ≤ maxLen) (c := 6) (by omega) Tryd.underlying43 (by kernel_rfl) (fun _ => rfl) (fun fuel cs x hx => open_lineC hx) hf
  exact ⟨ad, N, cap, fs, hv, hl, hall, hN⟩
theorem open_lines {H : Type} {enc : TypeId × Value → H} {W : World} {r : Reach} {b0 : Nat} {v : Value} {d : DataW H} {p : List MemPlace}
    (hv : Value.okWide Tryd.prog W r b0 43 v) (h : DataW.Trod enc Tryd.prog W 0 (fun _ => true) true 43 v d p) :
    ∃ ad N cap ls, v = .slice ad N cap ∧ ls.length = N ∧ LinesM W ad ls ∧ N ≤ maxLen := by
  obtain ⟨a0, len0, cap0, rfl⟩ := okWide_slice Tryd.underlying43 hv
  obtain ⟨fuel, hf⟩ := h
  exact open_linesC (by simpa [Value.cells] using hf)

/-- Six cells set in a row. -/
def six (vs : List Value) (o : Nat) (x0 x1 x2 x3 x4 x5 : Value) : List Value := (((((vs.set o x0).set (o + 1) x1).set (o + 2) x2).set (o + 3) x3).set (o + 4) x4).set (o + 5) x5
theorem six_len (vs : List Value) (o : Nat) (x0 x1 x2 x3 x4 x5 : Value) : (six vs o x0 x1 x2 x3 x4 x5).length = vs.length := by simp [six]
theorem six_ne (vs : List Value) (o : Nat) (x0 x1 x2 x3 x4 x5 : Value) (j : Nat) (h : j < o ∨ o + 6 ≤ j) : (six vs o x0 x1 x2 x3 x4 x5)[j]? = vs[j]? := by
  unfold six
  rw [List.getElem?_set_ne (by omega), List.getElem?_set_ne (by omega), List.getElem?_set_ne (by omega), List.getElem?_set_ne (by omega), List.getElem?_set_ne (by omega), List.getElem?_set_ne (by omega)]
theorem six_at (vs : List Value) (o : Nat) (x0 x1 x2 x3 x4 x5 : Value) (h : o + 6 ≤ vs.length) (r : Nat) (hr : r < 6) : (six vs o x0 x1 x2 x3 x4 x5)[o + r]? = [x0, x1, x2, x3, x4, x5][r]? := by
  have hcase : r = 0 ∨ r = 1 ∨ r = 2 ∨ r = 3 ∨ r = 4 ∨ r = 5 := by omega
  unfold six
  rcases hcase with rfl | rfl | rfl | rfl | rfl | rfl
  · simp only [Nat.add_zero]
    rw [List.getElem?_set_ne (by omega), List.getElem?_set_ne (by omega), List.getElem?_set_ne (by omega), List.getElem?_set_ne (by omega), List.getElem?_set_ne (by omega), List.getElem?_set_self (by omega)]; rfl
  · rw [List.getElem?_set_ne (by omega), List.getElem?_set_ne (by omega), List.getElem?_set_ne (by omega), List.getElem?_set_ne (by omega), List.getElem?_set_self (by simp; omega)]; rfl
  · rw [List.getElem?_set_ne (by omega), List.getElem?_set_ne (by omega), List.getElem?_set_ne (by omega), List.getElem?_set_self (by simp; omega)]; rfl
  · rw [List.getElem?_set_ne (by omega), List.getElem?_set_ne (by omega), List.getElem?_set_self (by simp; omega)]; rfl
  · rw [List.getElem?_set_ne (by omega), List.getElem?_set_self (by simp; omega)]; rfl
  · rw [List.getElem?_set_self (by simp; omega)]; rfl

/-- Block B holds N lines, of which those of gs have been laid; their lists lie in blocks p i and q i, each behind those ahead of it, from lo on. -/
structure ML (W : World) (B lo N : Nat) (gs : List LV) (p q : Nat → Nat) : Prop where
  c : ∃ vs : List Value, W.heap[B]? = some (.cells vs.toArray 94 (0, 0)) ∧ vs.length = N * 6 ∧ ∀ i, i < gs.length → ∀ r, r < 6 → vs[i * 6 + r]? = (gs[i]?.getD noLV).cs[r]?
  l : ∀ i, i < gs.length → (gs[i]?.getD noLV).f.a = some ⟨p i, 0, none⟩ ∧ (gs[i]?.getD noLV).f.c = some ⟨q i, 0, none⟩ ∧ Blk W (p i) (gs[i]?.getD noLV).f.C ∧ Blk W (q i) (gs[i]?.getD noLV).f.D ∧ (gs[i]?.getD noLV).f.C.length = (gs[i]?.getD noLV).f.n ∧ (gs[i]?.getD noLV).f.D.length = (gs[i]?.getD noLV).f.m ∧ (gs[i]?.getD noLV).f.n ≤ 1048576 ∧ (gs[i]?.getD noLV).f.m ≤ 1048576 ∧ lo ≤ p i ∧ p i < q i ∧ q i < W.heap.size ∧ ∀ j, j < i → q j < p i
  b : B < lo
  s : lo ≤ W.heap.size
theorem ML.lt {W : World} {B lo N : Nat} {gs : List LV} {p q : Nat → Nat} (h : ML W B lo N gs p q) : B < W.heap.size := by
  obtain ⟨vs, h1, _⟩ := h.c
  exact lt_of_block h1
theorem ML.below {W W' : World} {B lo N : Nat} {gs : List LV} {p q : Nat → Nat} (h : ML W B lo N gs p q) (b : Below W.heap.size W W') : ML W' B lo N gs p q := by
  obtain ⟨vs, h1, h2, h3⟩ := h.c
  refine ⟨⟨vs, by rw [b.block B (lt_of_block h1)]; exact h1, h2, h3⟩, fun i hi => ?_, h.b, Nat.le_trans h.s b.size⟩
  obtain ⟨a2, a3, a4, a5, a6, a7, a8, a9, a10, a11, a12, a13⟩ := h.l i hi
  have := b.size
  exact ⟨a2, a3, a4.below b, a5.below b, a6, a7, a8, a9, a10, a11, by omega, a13⟩
theorem ML.g {W : World} {B lo N : Nat} {gs : List LV} {p q : Nat → Nat} (h : ML W B lo N gs p q) : LinesG W (some ⟨B, 0, none⟩) gs := by
  intro i hi
  obtain ⟨vs, h1, h2, h3⟩ := h.c
  obtain ⟨a2, a3, a4, a5, a6, a7, a8, a9, _⟩ := h.l i hi
  refine ⟨B, 0, rfl, fun r hr => ?_, ⟨?_, ?_, a8, a9⟩⟩
  · rw [Nat.zero_add, ← h3 i hi r hr]
    simp [World.cell?, h1]
  · rw [a2, ← a6]; exact a4.ints
  · rw [a3, ← a7]; exact a5.ints

/-- One line more is laid. -/
theorem ML.step {W W1 : World} {B lo N k P Q : Nat} {gs : List LV} {p q : Nat → Nat} {kind pot skip : Int} {C D : List Int} {n m : Nat} {K : Int} (h : ML W B lo N gs p q) (hk : gs.length = k) (hkN : k < N) (b : Below W.heap.size W W1) (hP : W.heap.size ≤ P) (hPQ : P < Q) (k1 : Blk W1 P C) (k2 : Blk W1 Q D) (hC : C.length = n) (hD : D.length = m) (hn : n ≤ 1048576) (hm : m ≤ 1048576) :
    ML ((((((W1.setCell ⟨B, k * 6, none⟩ (.int .i64 kind)).setCell ⟨B, k * 6 + 1, none⟩ (.int .i64 pot)).setCell ⟨B, k * 6 + 2, none⟩ (.int .i64 skip)).setCell ⟨B, k * 6 + 3, none⟩ (.slice (some ⟨P, 0, none⟩) n n)).setCell ⟨B, k * 6 + 4, none⟩ (.slice (some ⟨Q, 0, none⟩) m m)).setCell ⟨B, k * 6 + 5, none⟩ (.int .i64 K)) B lo N (gs ++ [⟨kind, pot, skip, ⟨some ⟨P, 0, none⟩, n, n, some ⟨Q, 0, none⟩, m, m, K, C, D⟩⟩]) (fun i => if i = k then P else p i) (fun i => if i = k then Q else q i) := by
  have hB := h.lt
  have hb := h.b
  have hs := h.s
  have h' := h.below b
  obtain ⟨vs, v1, v2, v3⟩ := h'.c
  have kP : P ≠ B := by omega
  have kQ : Q ≠ B := by omega
  have lP := k1.lt
  have lQ := k2.lt
  refine ⟨⟨six vs (k * 6) (.int .i64 kind) (.int .i64 pot) (.int .i64 skip) (.slice (some ⟨P, 0, none⟩) n n) (.slice (some ⟨Q, 0, none⟩) m m) (.int .i64 K), ?_, by rw [six_len]; exact v2, fun i hi r hr => ?_⟩, fun i hi => ?_, h.b, ?_⟩
  · have c0 : Cel W1 B vs 94 := v1
    exact ((((((c0.set _ _).set _ _).set _ _).set _ _).set _ _).set _ _)
  · rw [List.length_append, hk] at hi
    simp only [List.length_cons, List.length_nil] at hi
    by_cases e : i = k
    · subst e
      rw [six_at _ _ _ _ _ _ _ _ (by rw [v2]; omega) r hr, List.getElem?_append_right (by omega), hk]
      simp [LV.cs]
    · rw [six_ne _ _ _ _ _ _ _ _ _ (by omega), List.getElem?_append_left (by omega)]
      exact v3 i (by omega) r hr
  · rw [List.length_append, hk] at hi
    simp only [List.length_cons, List.length_nil] at hi
    have hsz : ((((((W1.setCell ⟨B, k * 6, none⟩ (.int .i64 kind)).setCell ⟨B, k * 6 + 1, none⟩ (.int .i64 pot)).setCell ⟨B, k * 6 + 2, none⟩ (.int .i64 skip)).setCell ⟨B, k * 6 + 3, none⟩ (.slice (some ⟨P, 0, none⟩) n n)).setCell ⟨B, k * 6 + 4, none⟩ (.slice (some ⟨Q, 0, none⟩) m m)).setCell ⟨B, k * 6 + 5, none⟩ (.int .i64 K)).heap.size = W1.heap.size := by rw [size_setCell, size_setCell, size_setCell, size_setCell, size_setCell, size_setCell]
    rw [hsz]
    by_cases e : i = k
    · subst e
      rw [List.getElem?_append_right (by omega), hk]
      simp only [Nat.sub_self, List.getElem?_cons_zero, Option.getD_some, if_true]
      refine ⟨trivial, trivial, ?_, ?_, hC, hD, hn, hm, by omega, hPQ, lQ, fun j hj => ?_⟩
      · exact (((((k1.setOther kP _ _).setOther kP _ _).setOther kP _ _).setOther kP _ _).setOther kP _ _).setOther kP _ _
      · exact (((((k2.setOther kQ _ _).setOther kQ _ _).setOther kQ _ _).setOther kQ _ _).setOther kQ _ _).setOther kQ _ _
      · rw [if_neg (by omega)]
        obtain ⟨a2, a3, a4, a5, a6, a7, a8, a9, a10, a11, a12, a13⟩ := h.l j (by omega)
        omega
    · rw [List.getElem?_append_left (by omega), if_neg e, if_neg e]
      obtain ⟨a2, a3, a4, a5, a6, a7, a8, a9, a10, a11, a12, a13⟩ := h'.l i (by omega)
      have e1 : p i ≠ B := by omega
      have e2 : q i ≠ B := by omega
      refine ⟨a2, a3, ?_, ?_, a6, a7, a8, a9, a10, a11, a12, fun j hj => ?_⟩
      · exact (((((a4.setOther e1 _ _).setOther e1 _ _).setOther e1 _ _).setOther e1 _ _).setOther e1 _ _).setOther e1 _ _
      · exact (((((a5.setOther e2 _ _).setOther e2 _ _).setOther e2 _ _).setOther e2 _ _).setOther e2 _ _).setOther e2 _ _
      · rw [if_neg (by omega)]; exact a13 j hj
  · rw [size_setCell, size_setCell, size_setCell, size_setCell, size_setCell, size_setCell]; exact h'.s

/-- One list of lines holds what the other does. -/
def copiesL (ls gs : List LV) : Prop := ∀ i, i < gs.length → (gs[i]?.getD noLV).kind = (ls[i]?.getD noLV).kind ∧ (gs[i]?.getD noLV).pot = (ls[i]?.getD noLV).pot ∧ (gs[i]?.getD noLV).skip = (ls[i]?.getD noLV).skip ∧ (gs[i]?.getD noLV).f.C = (ls[i]?.getD noLV).f.C ∧ (gs[i]?.getD noLV).f.D = (ls[i]?.getD noLV).f.D ∧ (gs[i]?.getD noLV).f.K = (ls[i]?.getD noLV).f.K ∧ (gs[i]?.getD noLV).f.n = (ls[i]?.getD noLV).f.n ∧ (gs[i]?.getD noLV).f.m = (ls[i]?.getD noLV).f.m

theorem Tryd.infoLine : (Tryd.prog.info? 94).map (fun i => (i.zero, i.size, i.bytes)) = some (some (.agg #[.int .i64 0, .int .i64 0, .int .i64 0, .slice none 0 0, .slice none 0 0, .int .i64 0]), 6, 80) := by kernel_rfl

/-- Two lines are the same. -/
def sameL (f g : LV) : Prop := f.kind = g.kind ∧ f.pot = g.pot ∧ f.skip = g.skip ∧ eqF f.f.C f.f.D f.f.K g.f.C g.f.D g.f.K = true

end Go.Proofs.YtfkcfjkojfnfnaaDoor
namespace Go.Proofs.YtfkcfjkojfnfnaaDoor
open Go.ChangeShapes Go.WideShapes Go.ChangeAt Go.RowKit Go.Joins Go.Deep
set_option linter.unusedVariables false
set_option maxRecDepth 100000

def LV.ok (l : LV) : Bool := lineB l.kind l.pot l.skip l.f.n l.f.m l.f.C l.f.D l.f.K
def LV.tst (l : LV) : Bool := l.kind == 1
/-- How many tests there are. -/
def tests (ls : List LV) : Nat := ls.countP LV.tst
/-- Whether an act is ok. -/
def actB (N : Nat) (ls : List LV) : Bool := decide ((N : Int) ≤ 6) && ls.all LV.ok && decide ((tests ls : Int) ≤ 3)

theorem allL_take_succ {ls : List LV} {k : Nat} (h : k < ls.length) (h1 : (ls.take k).all LV.ok = true) (h2 : (ls[k]?.getD noLV).ok = true) : (ls.take (k + 1)).all LV.ok = true := by
  rw [List.take_succ_eq_append_getElem h, List.all_append, h1]
  rw [List.getElem?_eq_getElem h] at h2
  simpa using h2
theorem allL_no {ls : List LV} {k : Nat} (h : k < ls.length) (h2 : (ls[k]?.getD noLV).ok = false) : ls.all LV.ok = false := by
  rw [List.all_eq_false]
  rw [List.getElem?_eq_getElem h] at h2
  exact ⟨ls[k], List.getElem_mem h, by simpa using h2⟩
theorem tests_succ {ls : List LV} {k : Nat} (h : k < ls.length) : tests (ls.take (k + 1)) = tests (ls.take k) + (if (ls[k]?.getD noLV).tst then 1 else 0) := by
  unfold tests
  rw [List.take_succ_eq_append_getElem h, List.countP_append, List.getElem?_eq_getElem h]
  simp [List.countP_cons]
theorem tests_le (ls : List LV) (k : Nat) : tests (ls.take k) ≤ k := by
  unfold tests
  exact Nat.le_trans List.countP_le_length (by simp; omega)
theorem tests_yes {ls : List LV} {k : Nat} (h : k < ls.length) {g : LV} (hg : ls[k]?.getD noLV = g) (hk : g.kind = 1) : tests (ls.take (k + 1)) = tests (ls.take k) + 1 := by
  rw [tests_succ h, hg, LV.tst, hk]; rfl
theorem tests_no {ls : List LV} {k : Nat} (h : k < ls.length) {g : LV} (hg : ls[k]?.getD noLV = g) (hk : (g.kind == 1) = false) : tests (ls.take (k + 1)) = tests (ls.take k) := by
  rw [tests_succ h, hg, LV.tst, hk]; rfl

set_option maxHeartbeats 1600000 in
theorem sact_any (ad : Option Addr) (N cap : Nat) (ls : List LV) (w : World) (hN : ls.length = N) (hF : LinesG w ad ls) (hN1 : N ≤ 1048576) :
    Calls Tryd.prog 28 #[.slice ad N cap] w fun e w' => e = .returned (.bool (actB N ls)) ∧ Below w.heap.size w w' := by
  have HN : Hid (ls.length = N) := hN
  clear hN
  go_enter Tryd.func28, Tryd.ntmps28
  go_wp2_with fail
  go_loopw [3, 4] (fun t i wr => ∃ k : Nat, k ≤ N ∧ i = .int .i64 k ∧ (∃ j : Nat, j ≤ k ∧ t = .int .i64 j ∧ j = tests (ls.take k)) ∧ Below w.heap.size w wr ∧ (ls.take k).all LV.ok = true) (fun _ i _ => N - (intOf i).toNat)
  case atStart => exact ⟨0, Nat.zero_le _, rfl, ⟨0, Nat.le_refl _, rfl, rfl⟩, Below.refl _ _, by simp⟩
  case round =>
    obtain ⟨k, hk, rfl, ⟨j, hj, rfl, hjt⟩, hb, hall⟩ := hrel
    have HA : Hid ((ls.take k).all LV.ok = true) := hall
    have HJ : Hid (j = tests (ls.take k)) := hjt
    clear hall hjt
    by_cases hlt : k < N
    · obtain ⟨b, off, rfl, hc, hAt⟩ := (hF.below hb) k (by rw [HN.out]; exact hlt)
      generalize HG : ls[k]?.getD noLV = g at *
      have HG' : Hid (ls[k]?.getD noLV = g) := HG
      clear HG hF
      obtain ⟨e0, e1, e2, e3, e4, e5⟩ := six_of hc
      have HC : Hid _ := hc
      clear hc
      obtain ⟨gk, gp, gz, ⟨ga, gn, gcap, gc, gm, gcap', gK, gC, gD⟩⟩ := g
      obtain ⟨iC, iD, hn, hm⟩ := hAt
      simp only at e0 e1 e2 e3 e4 e5 iC iD hn hm
      cases hf : lineB gk gp gz gn gm gC gD gK
      · go_wp2_with fail
        refine (sline_any _ _ _ _ _ _ _ _ _ _ gC gD _ iC iD hn hm).mono ?_
        rintro e w1 ⟨rfl, b1⟩
        have B1 := hb.trans (b1.mono hb.size)
        rw [hf]
        go_wp2
        go_ret
        exact ⟨ret_bool (by rw [actB, allL_no (k := k) (by rw [HN.out]; exact hlt) (by rw [HG'.out]; exact hf)]; simp), B1⟩
      · by_cases h1 : gk = 1
        · subst h1
          have HT : Hid (j + 1 = tests (ls.take (k + 1))) := by show j + 1 = _; rw [tests_yes (by rw [HN.out]; exact hlt) HG'.out rfl, ← HJ.out]
          go_wp2_with fail
          refine (sline_any _ _ _ _ _ _ _ _ _ _ gC gD _ iC iD hn hm).mono ?_
          rintro e w1 ⟨rfl, b1⟩
          have B1 := hb.trans (b1.mono hb.size)
          obtain ⟨f0, f1, f2, f3, f4, f5⟩ := six_of (cells_below HC.out b1)
          simp only at f0
          clear b1 hb iC iD e0 e1 e2 e3 e4 e5 f1 f2 f3 f4 f5
          rw [hf]
          go_wp2
          go_roundw
          case rel => exact ⟨k + 1, by omega, by go_num, ⟨j + 1, by omega, by go_num, HT.out⟩, B1, allL_take_succ (by rw [HN.out]; exact hlt) HA.out (by rw [HG'.out]; exact hf)⟩
          case measure => simp [intOf]; omega
        · have h1' : (gk == 1) = false := by simp [h1]
          have HT : Hid (j = tests (ls.take (k + 1))) := by show j = _; rw [tests_no (by rw [HN.out]; exact hlt) HG'.out h1', ← HJ.out]
          go_wp2_with fail
          refine (sline_any _ _ _ _ _ _ _ _ _ _ gC gD _ iC iD hn hm).mono ?_
          rintro e w1 ⟨rfl, b1⟩
          have B1 := hb.trans (b1.mono hb.size)
          obtain ⟨f0, f1, f2, f3, f4, f5⟩ := six_of (cells_below HC.out b1)
          simp only at f0
          clear b1 hb iC iD e0 e1 e2 e3 e4 e5 f1 f2 f3 f4 f5
          rw [hf]
          go_wp2
          go_roundw
          case rel => exact ⟨k + 1, by omega, by go_num, ⟨j, by omega, rfl, HT.out⟩, B1, allL_take_succ (by rw [HN.out]; exact hlt) HA.out (by rw [HG'.out]; exact hf)⟩
          case measure => simp [intOf]; omega
    · obtain rfl : k = N := by omega
      have HT : Hid (ls.take k = ls) := List.take_of_length_le (by rw [HN.out]; omega)
      have HAB : Hid (actB k ls = (decide ((k : Int) ≤ 6) && decide ((j : Int) ≤ 3))) := by
        show actB k ls = _
        have h1 := HA.out
        have h2 := HJ.out
        rw [HT.out] at h1 h2
        rw [actB, h1, ← h2, Bool.and_true]
      by_cases h6 : (k : Int) ≤ 6
      · go_wp2
        go_ret
        exact ⟨ret_bool (by rw [HAB.out]; simp; omega), hb⟩
      · go_wp2
        go_ret
        exact ⟨ret_bool (by rw [HAB.out]; simp; omega), hb⟩

/-- Steps that have been made since w. -/
structure JS (w : World) (v : Value) (xs : List Value) (W : World) : Prop where
  b : Below w.heap.size w W
  o : W.ownsRow w.heap.size 124 1 v xs.length xs
theorem JS.nil (w : World) : JS w (.slice none 0 0) [] w := ⟨Below.refl _ _, World.ownsRow_nil w _ _ _⟩
theorem JS.below {w W W' : World} {v : Value} {xs : List Value} (j : JS w v xs W) (h : Below W.heap.size W W') : JS w v xs W' := by
  refine ⟨j.b.trans (h.mono j.b.size), j.o.1, ?_⟩
  rcases j.o.2 with h2 | ⟨g, cap, cur, hv, hg, hh, r⟩
  · exact Or.inl h2
  · exact Or.inr ⟨g, cap, cur, hv, hg, by rw [h.block g (lt_of_block hh)]; exact hh, r⟩
theorem JS.alloc {w W : World} {v : Value} {xs : List Value} (j : JS w v xs W) (o : Obj) : JS w v xs (W.alloc o) := j.below ((Below.refl _ _).alloc (Nat.le_refl _) _)
theorem JS.app {w W W' : World} {v : Value} {xs : List Value} {y : Value} {g cap k : Nat} {o : Obj} (j : JS w v xs W) (hk : xs.length = k) (hown : W'.ownsRow w.heap.size 124 1 (.slice (some ⟨g, 0, none⟩) (k + 1) cap) (k + 1) (xs ++ [y])) (hg : (W.alloc o).grownBy W' v.ownBlock) :
    JS w (.slice (some ⟨g, 0, none⟩) (k + 1) cap) (xs ++ [y]) W' := by
  have j' := j.alloc o
  refine ⟨j'.b.grown hg j'.b.size (fun k hk => (j'.o.lt k hk).1), ?_⟩
  rw [List.length_append, hk]
  exact hown
theorem stepV_one (l : LV) : (stepV l).oneCell' = true := by
  unfold stepV
  split
  · rfl
  · split
    · rfl
    · split
      · rfl
      · split <;> rfl
theorem stepV_iface {l : LV} (h : l.ok = true) : ∃ ty v, stepV l = .iface ty v := by
  unfold stepV
  by_cases h1 : l.kind = 1
  · rw [if_pos h1]; exact ⟨_, _, rfl⟩
  by_cases h2 : l.kind = 2
  · rw [if_neg h1, if_pos h2]; exact ⟨_, _, rfl⟩
  by_cases h3 : l.kind = 3
  · rw [if_neg h1, if_neg h2, if_pos h3]; exact ⟨_, _, rfl⟩
  by_cases h4 : l.kind = 4
  · rw [if_neg h1, if_neg h2, if_neg h3, if_pos h4]; exact ⟨_, _, rfl⟩
  simp [LV.ok, lineB, h1, h2, h3, h4] at h
theorem news_one (w : World) (x : Value) (t : TypeId) : ∀ j u, [x][j]? = some u → (w.alloc (.cells #[x] t)).cell? ((⟨w.heap.size, 0, none⟩ : Addr).add j) = some u := fun j u hu => by
  match j, hu with
  | 0, hu =>
    simp only [List.getElem?_cons_zero, Option.some.injEq] at hu
    subst hu
    simp [Addr.add]
theorem Tryd.infoStep : (Tryd.prog.info? 124).map (fun i => (i.zero, i.size, i.bytes)) = some (some .nilIface, 1, 16) := by kernel_rfl

set_option maxHeartbeats 3200000 in
theorem isteps_any (ad : Option Addr) (N cap : Nat) (ls : List LV) (w : World) (hN : ls.length = N) (hF : LinesG w ad ls) (hN1 : N ≤ 1048576) :
    Calls Tryd.prog 62 #[.slice ad N cap] w fun e w' => ∃ sv, e = .returned (.tuple #[sv, .bool (actB N ls)]) ∧ Below w.heap.size w w' ∧ (actB N ls = true → JS w sv (ls.map stepV) w') := by
  have HN : Hid (ls.length = N) := hN
  clear hN
  obtain ⟨i0, hi, hz0, hz1, hz2⟩ := info_parts Tryd.infoStep
  by_cases h6 : 6 < N
  · have HB : Hid (actB N ls = false) := by show actB N ls = false; rw [actB, decide_eq_false (by omega)]; rfl
    go_enter Tryd.func62, Tryd.ntmps62
    go_wp2
    go_ret2
    exact ⟨_, ret_step rfl HB.out.symm, Below.refl _ _, fun h => by rw [HB.out] at h; cases h⟩
  have h6' : N ≤ 6 := by omega
  clear h6
  go_enter Tryd.func62, Tryd.ntmps62
  go_wp2_with fail
  go_loopw [4, 5, 7, 8, 9, 15] (fun v t _ _ _ i wr => ∃ k : Nat, k ≤ N ∧ i = .int .i64 k ∧ (∃ j : Nat, j ≤ k ∧ t = .int .i64 j ∧ j = tests (ls.take k)) ∧ (∃ xs : List Value, xs.length = k ∧ xs = (ls.take k).map stepV ∧ JS w v xs wr) ∧ (ls.take k).all LV.ok = true) (fun _ _ _ _ _ i _ => N - (intOf i).toNat)
  case atStart => exact ⟨0, Nat.zero_le _, rfl, ⟨0, Nat.le_refl _, rfl, rfl⟩, ⟨[], rfl, rfl, JS.nil w⟩, by simp⟩
  case round =>
    obtain ⟨k, hk, rfl, ⟨j, hj, rfl, hjt⟩, ⟨xs, hxl, hxs, jj⟩, hall⟩ := hrel
    have HA : Hid ((ls.take k).all LV.ok = true) := hall
    have HJ : Hid (j = tests (ls.take k)) := hjt
    have HXL : Hid (xs.length = k) := hxl
    have HXS : Hid (xs = (ls.take k).map stepV) := hxs
    clear hall hjt hxl hxs
    by_cases hlt : k < N
    · obtain ⟨b, off, rfl, hc, hAt⟩ := (hF.below jj.b) k (by rw [HN.out]; exact hlt)
      have HXX0 : Hid ((ls.take (k + 1)).map stepV = (ls.take k).map stepV ++ [stepV (ls[k]?.getD noLV)]) := by
        have hl : k < ls.length := by rw [HN.out]; exact hlt
        show _ = _
        rw [List.take_succ_eq_append_getElem hl, List.map_append, List.getElem?_eq_getElem hl]; rfl
      generalize HG : ls[k]?.getD noLV = g at *
      have HG' : Hid (ls[k]?.getD noLV = g) := HG
      clear HG hF
      obtain ⟨e0, e1, e2, e3, e4, e5⟩ := six_of hc
      clear hc
      obtain ⟨gk, gp, gz, ⟨ga, gn, gcap, gc, gm, gcap', gK, gC, gD⟩⟩ := g
      obtain ⟨iC, iD, hn, hm⟩ := hAt
      simp only at e0 e1 e2 e3 e4 e5 iC iD hn hm
      cases hf : lineB gk gp gz gn gm gC gD gK
      · have HB : Hid (actB N ls = false) := by show actB N ls = false; rw [actB, allL_no (k := k) (by rw [HN.out]; exact hlt) (by rw [HG'.out]; exact hf)]; simp
        go_wp2_with fail
        refine (istep_any _ _ _ _ _ _ _ _ _ _ gC gD _ (iC.alloc _) (iD.alloc _) hn hm).mono ?_
        rintro e w1 ⟨rfl, b1⟩
        have j1 := (jj.alloc _).below b1
        rw [hf]
        obtain ⟨sv, hsv⟩ : ∃ sv, sv = stepV ⟨gk, gp, gz, ⟨ga, gn, gcap, gc, gm, gcap', gK, gC, gD⟩⟩ := ⟨_, rfl⟩
        rw [← hsv]
        go_wp2
        go_ret2
        exact ⟨_, ret_step rfl HB.out.symm, j1.b, fun h => by rw [HB.out] at h; cases h⟩
      · obtain ⟨ty, vv, hsv⟩ := stepV_iface (l := ⟨gk, gp, gz, ⟨ga, gn, gcap, gc, gm, gcap', gK, gC, gD⟩⟩) hf
        have HSV : Hid (stepV ⟨gk, gp, gz, ⟨ga, gn, gcap, gc, gm, gcap', gK, gC, gD⟩⟩ = .iface ty vv) := hsv
        have HS1 : Hid (∀ u ∈ [Value.iface ty vv], u.oneCell' = true) := fun u hu => by simp at hu; subst hu; rfl
        have HXX : Hid (xs ++ [.iface ty vv] = (ls.take (k + 1)).map stepV) := by show _ = _; rw [HXX0.out, HXS.out, hsv]
        clear hsv
        by_cases h1 : gk = 1
        · subst h1
          have HT : Hid (j + 1 = tests (ls.take (k + 1))) := by show j + 1 = _; rw [tests_yes (by rw [HN.out]; exact hlt) HG'.out rfl, ← HJ.out]
          go_wp2_with fail
          refine (istep_any _ _ _ _ _ _ _ _ _ _ gC gD _ (iC.alloc _) (iD.alloc _) hn hm).mono ?_
          rintro e w1 ⟨rfl, b1⟩
          have j1 := (jj.alloc _).below b1
          have bx := (Cel.new wr _ _).below b1
          obtain ⟨f0, f1, f2, f3, f4, f5⟩ := bx.six
          have jo := j1.o
          rw [HXL.out] at jo
          have hjb := j1.b.size
          rw [hf, HSV.out]
          clear jj b1 iC iD e0 e1 e2 e3 e4 e5 f1 f2 f3 f4 f5 bx
          go_wp2_with (at_builtin; go_must (refine wpList_append_lies _ rfl (.tmp 31) (.tmp 33) 85 rfl w.heap.size 124 i0 .nilIface 1 16 Tryd.underlying85 hi hz0 hz1 hz2 rfl (by decide) _ _ _ rfl (jo.alloc _) ⟨w1.heap.size, 0, none⟩ 1 1 [.iface ty vv] rfl rfl (news_one _ _ _) HS1.out (by omega) (by unfold maxLen; omega) (by omega) (by rw [World.size_alloc]; omega) _ rfl ?_); intro g cp w2 hown hgrow hat hlt1)
          have j2 := j1.app HXL.out hown hgrow
          clear hown hgrow jo j1 hat
          go_wp2
          go_roundw
          case rel => exact ⟨k + 1, by omega, by go_num, ⟨j + 1, by omega, by go_num, HT.out⟩, ⟨_, by rw [List.length_append, HXL.out]; rfl, HXX.out, j2⟩, allL_take_succ (by rw [HN.out]; exact hlt) HA.out (by rw [HG'.out]; exact hf)⟩
          case measure => simp [intOf]; omega
        · have h1' : (gk == 1) = false := by simp [h1]
          have HT : Hid (j = tests (ls.take (k + 1))) := by show j = _; rw [tests_no (by rw [HN.out]; exact hlt) HG'.out h1', ← HJ.out]
          go_wp2_with fail
          refine (istep_any _ _ _ _ _ _ _ _ _ _ gC gD _ (iC.alloc _) (iD.alloc _) hn hm).mono ?_
          rintro e w1 ⟨rfl, b1⟩
          have j1 := (jj.alloc _).below b1
          have bx := (Cel.new wr _ _).below b1
          obtain ⟨f0, f1, f2, f3, f4, f5⟩ := bx.six
          have jo := j1.o
          rw [HXL.out] at jo
          have hjb := j1.b.size
          rw [hf, HSV.out]
          clear jj b1 iC iD e0 e1 e2 e3 e4 e5 f1 f2 f3 f4 f5 bx
          go_wp2_with (at_builtin; go_must (refine wpList_append_lies _ rfl (.tmp 31) (.tmp 33) 85 rfl w.heap.size 124 i0 .nilIface 1 16 Tryd.underlying85 hi hz0 hz1 hz2 rfl (by decide) _ _ _ rfl (jo.alloc _) ⟨w1.heap.size, 0, none⟩ 1 1 [.iface ty vv] rfl rfl (news_one _ _ _) HS1.out (by omega) (by unfold maxLen; omega) (by omega) (by rw [World.size_alloc]; omega) _ rfl ?_); intro g cp w2 hown hgrow hat hlt1)
          have j2 := j1.app HXL.out hown hgrow
          clear hown hgrow jo j1 hat
          go_wp2
          go_roundw
          case rel => exact ⟨k + 1, by omega, by go_num, ⟨j, by omega, rfl, HT.out⟩, ⟨_, by rw [List.length_append, HXL.out]; rfl, HXX.out, j2⟩, allL_take_succ (by rw [HN.out]; exact hlt) HA.out (by rw [HG'.out]; exact hf)⟩
          case measure => simp [intOf]; omega
    · obtain rfl : k = N := by omega
      have HT : Hid (ls.take k = ls) := List.take_of_length_le (by rw [HN.out]; omega)
      have HAB : Hid (actB k ls = decide ((j : Int) ≤ 3)) := by
        show actB k ls = _
        have h1 := HA.out
        have h2 := HJ.out
        rw [HT.out] at h1 h2
        rw [actB, h1, ← h2, Bool.and_true, decide_eq_true (by omega), Bool.true_and]
      have HX2 : Hid (xs = ls.map stepV) := by show _ = _; rw [HXS.out, HT.out]
      go_wp2
      go_ret2
      exact ⟨_, ret_step rfl HAB.out.symm, jj.b, fun _ => by rw [← HX2.out]; exact jj⟩

theorem iact_any (ad : Option Addr) (N cap : Nat) (ls : List LV) (w : World) (hN : ls.length = N) (hF : LinesG w ad ls) (hN1 : N ≤ 1048576) :
    Calls Tryd.prog 99 #[.slice ad N cap] w fun e w' => e = .returned (.bool (actB N ls)) ∧ Below w.heap.size w w' := by
  go_enter Tryd.func99, Tryd.ntmps99
  go_wp2_with fail
  refine (isteps_any _ _ _ ls _ hN hF hN1).mono ?_
  rintro e w1 ⟨sv, rfl, b1, -⟩
  go_wp2
  go_ret
  exact ⟨rfl, b1⟩

end Go.Proofs.YtfkcfjkojfnfnaaDoor
namespace Go.Proofs.YtfkcfjkojfnfnaaDoor
open Go.RowKit
set_option linter.unusedVariables false

/-- Chunks of three, one behind the other. -/
def three (cs : List (List Value)) : Prop := ∀ c ∈ cs, c.length = 3
theorem flat_len : ∀ (cs : List (List Value)), three cs → cs.flatten.length = cs.length * 3
  | [], _ => rfl
  | c :: cs, h => by
    have h1 := h c (by simp)
    have h2 := flat_len cs (fun d hd => h d (by simp [hd]))
    simp only [List.flatten_cons, List.length_append, h1, h2, List.length_cons]
    omega
theorem flat_get : ∀ (cs : List (List Value)) (k r : Nat), three cs → r < 3 → cs.flatten[k * 3 + r]? = (cs[k]?.getD [])[r]?
  | [], k, r, _, _ => by simp
  | c :: cs, 0, r, h, hr => by
    have h1 := h c (by simp)
    simp only [List.flatten_cons, Nat.zero_mul, Nat.zero_add, List.getElem?_cons_zero, Option.getD_some]
    rw [List.getElem?_append_left (by omega)]
  | c :: cs, k + 1, r, h, hr => by
    have h1 := h c (by simp)
    have h2 := flat_get cs k r (fun d hd => h d (by simp [hd])) hr
    simp only [List.flatten_cons, List.getElem?_cons_succ]
    rw [List.getElem?_append_right (by omega), h1, ← h2]
    congr 1
    omega
theorem flat_set : ∀ (cs : List (List Value)) (k : Nat) (x y z : Value), three cs → k < cs.length → ((cs.flatten.set (k * 3) x).set (k * 3 + 1) y).set (k * 3 + 2) z = (cs.set k [x, y, z]).flatten
  | [], k, x, y, z, _, hk => by simp at hk
  | c :: cs, 0, x, y, z, h, _ => by
    have h1 := h c (by simp)
    match c, h1 with
    | [u, v, t], _ => simp
  | c :: cs, k + 1, x, y, z, h, hk => by
    have h1 := h c (by simp)
    have h2 := flat_set cs k x y z (fun d hd => h d (by simp [hd])) (by simpa using hk)
    simp only [List.flatten_cons, List.set_cons_succ]
    rw [← h2]
    rw [List.set_append_right _ _ (by omega), List.set_append_right _ _ (by omega), List.set_append_right _ _ (by omega), h1]
    have a1 : (k + 1) * 3 - 3 = k * 3 := by omega
    have a2 : (k + 1) * 3 + 1 - 3 = k * 3 + 1 := by omega
    have a3 : (k + 1) * 3 + 2 - 3 = k * 3 + 2 := by omega
    rw [a1, a2, a3]
theorem three_rep (n : Nat) (c : List Value) (h : c.length = 3) : three (List.replicate n c) := fun d hd => by rw [List.eq_of_mem_replicate hd]; exact h
theorem three_app {a b : List (List Value)} (ha : three a) (hb : three b) : three (a ++ b) := fun d hd => by
  rcases List.mem_append.1 hd with h | h
  · exact ha d h
  · exact hb d h
theorem three_map (gs : List FV) : three (gs.map FV.cs) := fun d hd => by
  obtain ⟨g, _, rfl⟩ := List.mem_map.1 hd
  rfl

def zcs : List Value := [.slice none 0 0, .slice none 0 0, .int .i64 0]
theorem made3 (n : Nat) : (madeCells #[.slice none 0 0, .slice none 0 0, .int .i64 0] (n * 3)).toList = (List.replicate n zcs).flatten := by
  apply List.ext_getElem?
  intro j
  have hl := flat_len (List.replicate n zcs) (three_rep n zcs rfl)
  rw [List.length_replicate] at hl
  by_cases hj : j < n * 3
  · have hk : j / 3 < n := by omega
    have e := flat_get (List.replicate n zcs) (j / 3) (j % 3) (three_rep n zcs rfl) (by omega)
    have e2 : j / 3 * 3 + j % 3 = j := by omega
    rw [e2] at e
    rw [e, List.getElem?_replicate, if_pos hk]
    have hm : j % 3 < 3 := by omega
    simp only [madeCells, Option.getD_some]
    simp [hj]
    match j % 3, hm with
    | 0, _ => rfl
    | 1, _ => rfl
    | 2, _ => rfl
  · have h1 : (madeCells #[.slice none 0 0, .slice none 0 0, .int .i64 0] (n * 3)).toList.length ≤ j := by
      rw [Array.length_toList, size_madeCells]; omega
    have h2 : (List.replicate n zcs).flatten.length ≤ j := by omega
    rw [List.getElem?_eq_none h1, List.getElem?_eq_none h2]

/-- Block B holds the chunks; the forms' lists lie in blocks p i and q i, each behind those ahead of it, from lo on. -/
structure MF (W : World) (B lo : Nat) (cs : List (List Value)) (gs : List FV) (p q : Nat → Nat) : Prop where
  c : W.heap[B]? = some (.cells cs.flatten.toArray 25 (0, 0))
  t : three cs
  l : ∀ i, i < gs.length → cs[i]? = some (gs[i]?.getD noFV).cs ∧ (gs[i]?.getD noFV).a = some ⟨p i, 0, none⟩ ∧ (gs[i]?.getD noFV).c = some ⟨q i, 0, none⟩ ∧ Blk W (p i) (gs[i]?.getD noFV).C ∧ Blk W (q i) (gs[i]?.getD noFV).D ∧ (gs[i]?.getD noFV).C.length = (gs[i]?.getD noFV).n ∧ (gs[i]?.getD noFV).D.length = (gs[i]?.getD noFV).m ∧ (gs[i]?.getD noFV).n ≤ 1048576 ∧ (gs[i]?.getD noFV).m ≤ 1048576 ∧ lo ≤ p i ∧ p i < q i ∧ q i < W.heap.size ∧ ∀ j, j < i → q j < p i
  b : B < lo
  s : lo ≤ W.heap.size
theorem MF.below {W W' : World} {B lo : Nat} {cs : List (List Value)} {gs : List FV} {p q : Nat → Nat} (h : MF W B lo cs gs p q) (b : Below W.heap.size W W') : MF W' B lo cs gs p q := by
  refine ⟨by rw [b.block B (lt_of_block h.c)]; exact h.c, h.t, fun i hi => ?_, h.b, Nat.le_trans h.s b.size⟩
  obtain ⟨a1, a2, a3, a4, a5, a6, a7, a8, a9, a10, a11, a12, a13⟩ := h.l i hi
  have := b.size
  exact ⟨a1, a2, a3, a4.below b, a5.below b, a6, a7, a8, a9, a10, a11, by omega, a13⟩
theorem MF.cell {W : World} {B lo : Nat} {cs : List (List Value)} {gs : List FV} {p q : Nat → Nat} (h : MF W B lo cs gs p q) (k r : Nat) (hr : r < 3) : W.cell? ⟨B, k * 3 + r, none⟩ = (cs[k]?.getD [])[r]? := by
  have hc := h.c
  rw [← flat_get cs k r h.t hr]
  simp [World.cell?, hc]
theorem MF.free {W : World} {B lo : Nat} {cs : List (List Value)} {gs : List FV} {p q : Nat → Nat} (h : MF W B lo cs gs p q) (i : Nat) : W.frozen? ⟨B, i, none⟩ = false := by
  have hc := h.c
  simp [World.frozen?, hc]
theorem MF.g {W : World} {B lo : Nat} {cs : List (List Value)} {gs : List FV} {p q : Nat → Nat} (h : MF W B lo cs gs p q) : FormsG W (some ⟨B, 0, none⟩) gs := by
  intro i hi
  obtain ⟨a1, a2, a3, a4, a5, a6, a7, a8, a9, _⟩ := h.l i hi
  have c0 := h.cell i 0 (by omega)
  have c1 := h.cell i 1 (by omega)
  have c2 := h.cell i 2 (by omega)
  rw [a1] at c0 c1 c2
  refine ⟨B, 0, rfl, by rw [Nat.zero_add]; exact c0, by rw [Nat.zero_add]; exact c1, by rw [Nat.zero_add]; exact c2, ⟨?_, ?_, a8, a9⟩⟩
  · rw [a2, ← a6]; exact a4.ints
  · rw [a3, ← a7]; exact a5.ints

/-- One form more is laid. -/
theorem MF.step {W W1 : World} {B lo k P Q : Nat} {cs : List (List Value)} {gs : List FV} {p q : Nat → Nat} {C D : List Int} {n m : Nat} {K : Int} (h : MF W B lo cs gs p q) (hk : gs.length = k) (hkN : k < cs.length) (b : Below W.heap.size W W1) (hP : W.heap.size ≤ P) (hPQ : P < Q) (k1 : Blk W1 P C) (k2 : Blk W1 Q D) (hC : C.length = n) (hD : D.length = m) (hn : n ≤ 1048576) (hm : m ≤ 1048576) :
    MF (((W1.setCell ⟨B, k * 3, none⟩ (.slice (some ⟨P, 0, none⟩) n n)).setCell ⟨B, k * 3 + 1, none⟩ (.slice (some ⟨Q, 0, none⟩) m m)).setCell ⟨B, k * 3 + 2, none⟩ (.int .i64 K)) B lo (cs.set k [.slice (some ⟨P, 0, none⟩) n n, .slice (some ⟨Q, 0, none⟩) m m, .int .i64 K]) (gs ++ [⟨some ⟨P, 0, none⟩, n, n, some ⟨Q, 0, none⟩, m, m, K, C, D⟩]) (fun i => if i = k then P else p i) (fun i => if i = k then Q else q i) := by
  have h1 := h.below b
  have hB := lt_of_block h.c
  have hlo := h.b
  have hQl := k2.lt
  have hs : ∀ (x : Nat) (o : Option Obj), x ≠ B → W1.heap[x]? = o → (((W1.setCell ⟨B, k * 3, none⟩ (.slice (some ⟨P, 0, none⟩) n n)).setCell ⟨B, k * 3 + 1, none⟩ (.slice (some ⟨Q, 0, none⟩) m m)).setCell ⟨B, k * 3 + 2, none⟩ (.int .i64 K)).heap[x]? = o := fun x o hx ho => by
    rw [Below.heap_setCell _ _ _ _ hx, Below.heap_setCell _ _ _ _ hx, Below.heap_setCell _ _ _ _ hx]; exact ho
  refine ⟨?_, ?_, fun i hi => ?_, h.b, by rw [size_setCell, size_setCell, size_setCell]; exact h1.s⟩
  · have e1 := heap_setCell_same W1 B (k * 3) _ _ (.slice (some ⟨P, 0, none⟩) n n) h1.c
    have e2 := heap_setCell_same _ B (k * 3 + 1) _ _ (.slice (some ⟨Q, 0, none⟩) m m) e1
    have e3 := heap_setCell_same _ B (k * 3 + 2) _ _ (.int .i64 K) e2
    rw [e3]
    simp only [List.setIfInBounds_toArray]
    rw [flat_set cs k _ _ _ h.t hkN]
  · intro d hd
    rcases List.mem_or_eq_of_mem_set hd with h2 | h2
    · exact h.t d h2
    · rw [h2]; rfl
  · rw [List.length_append, hk] at hi
    simp only [List.length_cons, List.length_nil] at hi
    by_cases e : i = k
    · subst e
      rw [List.getElem?_append_right (by omega), hk]
      simp only [Nat.sub_self, List.getElem?_cons_zero, Option.getD_some, if_true]
      refine ⟨by rw [List.getElem?_set_self hkN]; rfl, trivial, trivial, hs P _ (by omega) k1, hs Q _ (by omega) k2, hC, hD, hn, hm, by have := h.s; omega, hPQ, by rw [size_setCell, size_setCell, size_setCell]; exact hQl, fun j hj => ?_⟩
      rw [if_neg (by omega)]
      obtain ⟨_, _, _, _, _, _, _, _, _, _, _, a12, _⟩ := h.l j (by omega)
      omega
    · rw [List.getElem?_append_left (by omega)]
      obtain ⟨a1, a2, a3, a4, a5, a6, a7, a8, a9, a10, a11, a12, a13⟩ := h1.l i (by omega)
      simp only [if_neg e]
      refine ⟨by rw [List.getElem?_set_ne (by omega)]; exact a1, a2, a3, hs _ _ (by omega) a4, hs _ _ (by omega) a5, a6, a7, a8, a9, a10, a11, by rw [size_setCell, size_setCell, size_setCell]; exact a12, fun j hj => ?_⟩
      rw [if_neg (by omega)]
      exact a13 j hj

/-- A copy of a form holds what the form holds. -/
def copies (fs gs : List FV) : Prop := ∀ i, i < gs.length → (gs[i]?.getD noFV).C = (fs[i]?.getD noFV).C ∧ (gs[i]?.getD noFV).D = (fs[i]?.getD noFV).D ∧ (gs[i]?.getD noFV).K = (fs[i]?.getD noFV).K ∧ (gs[i]?.getD noFV).n = (fs[i]?.getD noFV).n ∧ (gs[i]?.getD noFV).m = (fs[i]?.getD noFV).m

theorem Tryd.infoForm : (Tryd.prog.info? 25).map (fun i => (i.zero, i.size, i.bytes)) = some (some (.agg #[.slice none 0 0, .slice none 0 0, .int .i64 0]), 3, 56) := by kernel_rfl

end Go.Proofs.YtfkcfjkojfnfnaaDoor
namespace Go.Proofs.YtfkcfjkojfnfnaaDoor
open Go.ChangeShapes Go.WideShapes Go.ChangeAt Go.RowKit Go.Joins Go.Deep
set_option linter.unusedVariables false
set_option maxRecDepth 100000

theorem open_formsC {H : Type} {enc : TypeId × Value → H} {W : World} {fuel : Nat} {v : Value} {y : DataW H × List MemPlace}
    (hf : DataW.trod enc Tryd.prog W 0 (fun _ => true) true fuel 117 [v] = some y) :
    ∃ ad N cap fs, v = .slice ad N cap ∧ fs.length = N ∧ FormsM W ad fs ∧ N ≤ maxLen := by
  obtain ⟨ad, N, cap, fs, hv, hl, hN, hall⟩ := open_sliceC noFV FV.cs (fun f => Ints W f.a f.n f.C ∧ Ints W f.c f.m f.D ∧ f.n ≤ maxLen ∧ f.m ≤ maxLen) (c := 3) (by omega) Tryd.underlying117 (by kernel_rfl) (fun _ => rfl) (fun fuel cs x hx => open_formC hx) hf
  refine ⟨ad, N, cap, fs, hv, hl, fun i hi => ?_, hN⟩
  obtain ⟨b, off, e, hc, hr⟩ := hall i hi
  exact ⟨b, off, e, hc 0 (by omega), hc 1 (by omega), hc 2 (by omega), hr⟩

/-- A row as a value. -/
abbrev rowV (g : Option Addr) (G cg : Nat) (a : Option Addr) (A ca : Nat) (t : Option Addr) (T ct : Nat) (st : Bool) : Value := .agg #[.slice g G cg, .slice a A ca, .slice t T ct, .bool st]

end Go.Proofs.YtfkcfjkojfnfnaaDoor
namespace Go.Proofs.YtfkcfjkojfnfnaaDoor
open Go.RowKit
set_option linter.unusedVariables false
set_option maxRecDepth 100000

/-- Whether a row is ok. -/
def rowB (gs ls ts : List FV) (A T : Nat) (st : Bool) : Bool := gs.all FV.ok && ls.all FV.ok && ts.all FV.ok && (if st then ((A : Int) + T == 0) else ((A : Int) == 3))

/-- A row that lies in memory. -/
structure RowAt (w : World) (g : Option Addr) (G : Nat) (gs : List FV) (a : Option Addr) (A : Nat) (ls : List FV) (t : Option Addr) (T : Nat) (ts : List FV) : Prop where
  g : FormsG w g gs
  a : FormsG w a ls
  t : FormsG w t ts
  hg : gs.length = G
  ha : ls.length = A
  ht : ts.length = T
  zg : G ≤ 1048576
  za : A ≤ 1048576
  zt : T ≤ 1048576
theorem RowAt.below {w w' : World} {g : Option Addr} {G : Nat} {gs : List FV} {a : Option Addr} {A : Nat} {ls : List FV} {t : Option Addr} {T : Nat} {ts : List FV} (h : RowAt w g G gs a A ls t T ts) (b : Below w.heap.size w w') : RowAt w' g G gs a A ls t T ts :=
  ⟨h.g.below b, h.a.below b, h.t.below b, h.hg, h.ha, h.ht, h.zg, h.za, h.zt⟩
theorem RowAt.alloc {w : World} {g : Option Addr} {G : Nat} {gs : List FV} {a : Option Addr} {A : Nat} {ls : List FV} {t : Option Addr} {T : Nat} {ts : List FV} (h : RowAt w g G gs a A ls t T ts) (o : Obj) : RowAt (w.alloc o) g G gs a A ls t T ts := h.below ((Below.refl _ _).alloc (Nat.le_refl _) _)
theorem Cel.quad {w : World} {B : Nat} {x y z u : Value} {t : TypeId} (h : Cel w B [x, y, z, u] t) : w.cell? ⟨B, 0, none⟩ = some x ∧ w.cell? ⟨B, 1, none⟩ = some y ∧ w.cell? ⟨B, 2, none⟩ = some z ∧ w.cell? ⟨B, 3, none⟩ = some u := ⟨h.cell 0, h.cell 1, h.cell 2, h.cell 3⟩

/-- A box that a call lays first, and old memory. -/
structure BX (w : World) (B : Nat) (la : List Value) (ty : TypeId) (W : World) : Prop where
  p : Cel W B la ty
  b : Below w.heap.size w W
theorem BX.new (w : World) (la : List Value) (ty : TypeId) : BX w w.heap.size la ty (w.alloc (.cells la.toArray ty)) := ⟨Cel.new w la ty, (Below.refl _ _).alloc (Nat.le_refl _) _⟩
theorem BX.below {w W W' : World} {B : Nat} {la : List Value} {ty : TypeId} (h : BX w B la ty W) (b : Below W.heap.size W W') : BX w B la ty W' := ⟨h.p.below b, h.b.trans (b.mono h.b.size)⟩
theorem BX.alloc {w W : World} {B : Nat} {la : List Value} {ty : TypeId} (h : BX w B la ty W) (o : Obj) : BX w B la ty (W.alloc o) := h.below ((Below.refl _ _).alloc (Nat.le_refl _) _)

theorem MF.touch {S : Nat → Prop} {W W' : World} {B lo : Nat} {cs : List (List Value)} {gs : List FV} {p q : Nat → Nat} (h : MF W B lo cs gs p q) (t : Touch S W W') (hs : ∀ k, S k → k < B ∨ W.heap.size ≤ k ∨ ∀ i, i < gs.length → (k ≠ B ∧ k ≠ p i ∧ k ≠ q i)) (hB : ¬ S B) : MF W' B lo cs gs p q := by
  have hb := h.b
  refine ⟨by rw [t.block B (lt_of_block h.c) hB]; exact h.c, h.t, fun i hi => ?_, h.b, Nat.le_trans h.s t.size⟩
  obtain ⟨a1, a2, a3, a4, a5, a6, a7, a8, a9, a10, a11, a12, a13⟩ := h.l i hi
  have k1 : Blk W' (p i) (gs[i]?.getD noFV).C := by
    unfold Blk at *
    rw [t.block _ (lt_of_block a4) (fun hh => by
      rcases hs _ hh with e | e | e
      · omega
      · omega
      · exact (e i hi).2.1 rfl)]; exact a4
  have k2 : Blk W' (q i) (gs[i]?.getD noFV).D := by
    unfold Blk at *
    rw [t.block _ (lt_of_block a5) (fun hh => by
      rcases hs _ hh with e | e | e
      · omega
      · omega
      · exact (e i hi).2.2 rfl)]; exact a5
  exact ⟨a1, a2, a3, k1, k2, a6, a7, a8, a9, a10, a11, Nat.lt_of_lt_of_le a12 t.size, a13⟩
theorem MF.set {W : World} {B lo X : Nat} {cs : List (List Value)} {gs : List FV} {p q : Nat → Nat} (h : MF W B lo cs gs p q) (hX : X < B) (i : Nat) (v : Value) : MF (W.setCell ⟨X, i, none⟩ v) B lo cs gs p q :=
  h.touch (S := fun k => k = X) (Touch.setCell (S := fun k => k = X) (Touch.refl _ _) rfl v) (fun k hk => .inl (by omega)) (fun hh => by omega)
theorem MF.q_lt {W : World} {B lo : Nat} {cs : List (List Value)} {gs : List FV} {p q : Nat → Nat} (h : MF W B lo cs gs p q) : ∀ i, i < gs.length → q i < W.heap.size := fun i hi => by
  obtain ⟨a1, a2, a3, a4, a5, a6, a7, a8, a9, a10, a11, a12, a13⟩ := h.l i hi
  exact a12
theorem MF.lt {W : World} {B lo : Nat} {cs : List (List Value)} {gs : List FV} {p q : Nat → Nat} (h : MF W B lo cs gs p q) : B < W.heap.size := lt_of_block h.c

/-- Three slices of forms that a copy of a row has, each behind the one ahead of it. -/
structure RM (W : World) (lo : Nat) (B1 B2 B3 : Nat) (G A T : Nat) (gs ls ts : List FV) (X Y Z : List (List Value)) (p1 q1 p2 q2 p3 q3 : Nat → Nat) : Prop where
  g : MF W B1 (B1 + 1) X gs p1 q1
  a : MF W B2 (B2 + 1) Y ls p2 q2
  t : MF W B3 (B3 + 1) Z ts p3 q3
  hg : gs.length = G
  ha : ls.length = A
  ht : ts.length = T
  xg : X.length = G
  xa : Y.length = A
  xt : Z.length = T
  l1 : lo ≤ B1
  l2 : B1 < B2
  l3 : B2 < B3
  u1 : ∀ i, i < G → q1 i < B2
  u2 : ∀ i, i < A → q2 i < B3

/-- A copy's forms, one by one, are the forms it was made of. -/
theorem copies_eq {fs gs : List FV} {N : Nat} (hg : gs.length = N) {hs : List FV} (hh : hs.length = N) (h1 : copies fs gs) (h2 : copies fs hs) : ∀ i, i < N → eqF (gs[i]?.getD noFV).C (gs[i]?.getD noFV).D (gs[i]?.getD noFV).K (hs[i]?.getD noFV).C (hs[i]?.getD noFV).D (hs[i]?.getD noFV).K = true := fun i hi => by
  obtain ⟨e1, e2, e3, _⟩ := h1 i (by omega)
  obtain ⟨d1, d2, d3, _⟩ := h2 i (by omega)
  rw [e1, e2, e3, d1, d2, d3]
  exact eqF_refl _ _ _
theorem copies_ok {fs gs : List FV} (hl : gs.length = fs.length) (h : copies fs gs) : gs.all FV.ok = fs.all FV.ok := by
  rw [Bool.eq_iff_iff, List.all_eq_true, List.all_eq_true]
  have key : ∀ i, i < gs.length → (gs[i]?.getD noFV).ok = (fs[i]?.getD noFV).ok := fun i hi => by
    obtain ⟨e1, e2, e3, e4, e5⟩ := h i hi
    simp only [FV.ok, e1, e2, e3, e4, e5]
  constructor
  · intro hh x hx
    obtain ⟨i, hi, rfl⟩ := List.getElem_of_mem hx
    have k := key i (by omega)
    rw [List.getElem?_eq_getElem hi, List.getElem?_eq_getElem (by omega)] at k
    simp only [Option.getD_some] at k
    rw [← k]; exact hh _ (List.getElem_mem _)
  · intro hh x hx
    obtain ⟨i, hi, rfl⟩ := List.getElem_of_mem hx
    have k := key i (by omega)
    rw [List.getElem?_eq_getElem hi, List.getElem?_eq_getElem (by omega)] at k
    simp only [Option.getD_some] at k
    rw [k]; exact hh _ (List.getElem_mem _)
theorem RM.at {W : World} {lo B1 B2 B3 G A T : Nat} {gs ls ts : List FV} {X Y Z : List (List Value)} {p1 q1 p2 q2 p3 q3 : Nat → Nat} (h : RM W lo B1 B2 B3 G A T gs ls ts X Y Z p1 q1 p2 q2 p3 q3) (zg : G ≤ 1048576) (za : A ≤ 1048576) (zt : T ≤ 1048576) : RowAt W (some ⟨B1, 0, none⟩) G gs (some ⟨B2, 0, none⟩) A ls (some ⟨B3, 0, none⟩) T ts :=
  ⟨h.g.g, h.a.g, h.t.g, h.hg, h.ha, h.ht, zg, za, zt⟩
theorem RM.below {W W' : World} {lo B1 B2 B3 G A T : Nat} {gs ls ts : List FV} {X Y Z : List (List Value)} {p1 q1 p2 q2 p3 q3 : Nat → Nat} (h : RM W lo B1 B2 B3 G A T gs ls ts X Y Z p1 q1 p2 q2 p3 q3) (b : Below W.heap.size W W') : RM W' lo B1 B2 B3 G A T gs ls ts X Y Z p1 q1 p2 q2 p3 q3 :=
  ⟨h.g.below b, h.a.below b, h.t.below b, h.hg, h.ha, h.ht, h.xg, h.xa, h.xt, h.l1, h.l2, h.l3, h.u1, h.u2⟩

end Go.Proofs.YtfkcfjkojfnfnaaDoor
namespace Go.Proofs.YtfkcfjkojfnfnaaDoor
open Go.RowKit
set_option linter.unusedVariables false
set_option maxRecDepth 100000

/-- A guard holds. -/
def fitB (V A : List Int) (f : FV) : Bool := decide (0 ≤ atV f.C f.D f.K V A)
def fitsB (gs ls ts : List FV) (a t : Nat) (st : Bool) (p q : Nat) (V A : List Int) : Bool := rowB gs ls ts a t st && okN 3 10000 p V && okN 2 9 q A && gs.all (fitB V A)

theorem allP_take_succ {P : FV → Bool} {fs : List FV} {k : Nat} (h : k < fs.length) (h1 : (fs.take k).all P = true) (h2 : P (fs[k]?.getD noFV) = true) : (fs.take (k + 1)).all P = true := by
  rw [List.take_succ_eq_append_getElem h, List.all_append, h1]
  rw [List.getElem?_eq_getElem h] at h2
  simpa using h2
theorem allP_no {P : FV → Bool} {fs : List FV} {k : Nat} (h : k < fs.length) (h2 : P (fs[k]?.getD noFV) = false) : fs.all P = false := by
  rw [List.all_eq_false]
  rw [List.getElem?_eq_getElem h] at h2
  exact ⟨fs[k], List.getElem_mem h, by simpa using h2⟩
theorem all_at {fs : List FV} {k : Nat} (h : fs.all FV.ok = true) (hk : k < fs.length) : (fs[k]?.getD noFV).ok = true := by
  rw [List.getElem?_eq_getElem hk]
  exact List.all_eq_true.1 h _ (List.getElem_mem hk)
theorem rowB_g {gs ls ts : List FV} {a t : Nat} {st : Bool} (h : rowB gs ls ts a t st = true) : gs.all FV.ok = true ∧ ls.all FV.ok = true ∧ ts.all FV.ok = true := by
  simp only [rowB, Bool.and_eq_true] at h
  exact ⟨h.1.1.1, h.1.1.2, h.1.2⟩
theorem okN_nat {c : Nat} {m : Int} {n : Nat} {zs : List Int} (hm : 0 ≤ m) (h : okN c m n zs = true) : n = c ∧ bnd m zs := by
  obtain ⟨h1, h2⟩ := okN_elim hm h
  exact ⟨by omega, h2⟩

end Go.Proofs.YtfkcfjkojfnfnaaDoor
namespace Go.Proofs.YtfkcfjkojfnfnaaDoor
open Go.RowKit
set_option linter.unusedVariables false
set_option maxRecDepth 100000

set_option maxHeartbeats 400000 in
theorem addX_any (n cap B : Nat) (a c : Option Addr) (cap' : Nat) (xs ys : List Int) (M M' : Int) (w : World) (h : OwnX w a B n xs) (h' : Ints w c n ys) (hne : ∀ b o, c = some ⟨b, o, none⟩ → b ≠ B)
    (hn : n ≤ 1048576) (hM : bnd M xs) (hM' : bnd M' ys) (hb : M ≤ 2000000000000000000) (hb' : M' ≤ 2000000000000000000) :
    Calls Tryd.prog 88 #[.slice a n cap, .slice c n cap'] w fun e w' => e = .returned (.tuple #[]) ∧ Touch (fun x => x = B ∧ 0 < n) w w' ∧ OwnX w' a B n (List.zipWith (· + ·) xs ys) := by
  have HX : Hid (xs.length = n) := h.1
  have HY : Hid (ys.length = n) := h'.1
  go_enter Tryd.func88, Tryd.ntmps88
  go_wp2_with fail
  go_loopw [4, 5, 8] (fun _ _ i wr => ∃ j : Nat, j ≤ n ∧ i = .int .i64 j ∧ Touch (fun x => x = B ∧ 0 < n) w wr ∧ OwnX wr a B n (added xs ys j)) (fun _ _ i _ => n - (intOf i).toNat)
  case atStart => exact ⟨0, Nat.zero_le _, rfl, Touch.refl _ _, by rw [added_zero]; exact h⟩
  case round =>
    obtain ⟨j, hj, rfl, ht, ho⟩ := hrel
    by_cases hlt : j < n
    · obtain ⟨rfl, hcs, hfs⟩ := ho.pos (by omega)
      obtain ⟨b, off, rfl, hcell⟩ := h'.pos (by omega)
      have hck : wr.cell? ⟨b, off + j, none⟩ = some (.int .i64 (ys[j]?.getD 0)) := by
        have h0 := hcell j hlt
        have : wr.cell? ⟨b, off + j, none⟩ = w.cell? ⟨b, off + j, none⟩ := World.cell?_of_block (ht.block b (block_lt h0) (fun e => hne b off rfl e.1))
        rw [this, h0]; simp
      have hco : wr.cell? ⟨B, j, none⟩ = some (.int .i64 (xs[j]?.getD 0)) := by
        rw [hcs j hlt, added_get xs ys j (by rw [HX.out, HY.out]) (by rw [HX.out]; exact hlt)]
      have hf := hfs j
      obtain ⟨m1, m2⟩ := hM j
      obtain ⟨m3, m4⟩ := hM' j
      have R : OwnX (wr.setCell ⟨B, j, none⟩ (.int .i64 (xs[j]?.getD 0 + ys[j]?.getD 0))) (some ⟨B, 0, none⟩) B n (added xs ys (j + 1)) := by
        have := ho.set hlt (xs[j]?.getD 0 + ys[j]?.getD 0)
        rwa [added_succ xs ys j (by rw [HX.out, HY.out]) (by rw [HX.out]; exact hlt)] at this
      have R2 : Touch (fun x => x = B ∧ 0 < n) w (wr.setCell ⟨B, j, none⟩ (.int .i64 (xs[j]?.getD 0 + ys[j]?.getD 0))) := ht.setCell ⟨rfl, by omega⟩ _
      clear h ho hcell h' hM hM' hne hcs hfs
      go_wp2
      go_roundw
      case rel => exact ⟨j + 1, by omega, by go_num, R2, R⟩
      case measure => simp [intOf]; omega
    · go_wp2
      go_end0
      obtain rfl : j = n := by omega
      exact ⟨rfl, ht, by rw [added_end xs ys j (by rw [HX.out]; exact Nat.le_refl _) (by rw [HY.out]; exact Nat.le_refl _)] at ho; exact ho⟩

/-- The numbers of a slice, to be appended. -/
theorem newsI {w : World} {b off n : Nat} {zs : List Int} (h : ∀ i, i < n → w.cell? ⟨b, off + i, none⟩ = some (.int .i64 (zs.getD i 0))) (hl : zs.length = n) : ∀ j u, (zs.map (Value.int .i64))[j]? = some u → w.cell? ((⟨b, off, none⟩ : Addr).add j) = some u := fun j u hu => by
  have hj : j < n := by
    have := (List.getElem?_eq_some_iff.1 hu).1
    simpa [hl] using this
  have hadd : (⟨b, off, none⟩ : Addr).add j = ⟨b, off + j, none⟩ := by
    by_cases h0 : j = 0
    · subst h0; simp [Addr.add]
    · simp [Addr.add, h0]
  rw [hadd, h j hj]
  rw [List.getElem?_map, List.getElem?_eq_getElem (by omega)] at hu
  simp only [Option.map_some, Option.some.injEq] at hu
  rw [← hu]
  simp [hl, hj]
theorem oneI (zs : List Int) : ∀ u ∈ zs.map (Value.int .i64), u.oneCell' = true := fun u hu => by
  obtain ⟨x, _, rfl⟩ := List.mem_map.1 hu
  rfl
theorem JA.copied {w W' : World} {zs : List Int} {g cap n : Nat} (hn : zs.length = n) (hown : W'.ownsRow w.heap.size 3 1 (.slice (some ⟨g, 0, none⟩) (0 + n) cap) (0 + n) ([] ++ zs.map (Value.int .i64))) (hg : (w.alloc (.cells #[] 3)).grownBy W' (Value.ownBlock (.slice (some ⟨w.heap.size, 0, none⟩) 0 0))) :
    JA w (.slice (some ⟨g, 0, none⟩) n cap) zs W' := by
  have h0 := JA.lit w
  refine h0.own (ys := zs) ?_ hg
  rw [hn]
  simpa using hown

set_option maxHeartbeats 400000 in
theorem clone_any (a : Option Addr) (n cap : Nat) (zs : List Int) (w : World) (h : Ints w a n zs) (hn : n ≤ 1048576) (h0 : 0 < n) :
    Calls Tryd.prog 64 #[.slice a n cap] w fun e w' => ∃ v, e = .returned v ∧ JA w v zs w' := by
  have HZ : Hid (zs.length = n) := h.1
  obtain ⟨i0, hi, hz0, hz1, hz2⟩ := info_parts Tryd.infoInt
  obtain ⟨b, off, rfl, hcell⟩ := h.pos h0
  have hcl : ∀ i, i < n → (w.alloc (.cells #[] 3)).cell? ⟨b, off + i, none⟩ = some (.int .i64 (zs.getD i 0)) := fun i hi => by
    rw [((Below.refl w.heap.size w).alloc (Nat.le_refl _) _).cell (p := ⟨b, off + i, none⟩) (block_lt (hcell i hi))]; exact hcell i hi
  have HC : Hid _ := newsI hcl HZ.out
  have HL : Hid ((zs.map (Value.int .i64)).length = n * 1) := by show _ = _; rw [List.length_map, HZ.out, Nat.mul_one]
  have HJ : Hid _ := (JA.lit w).o
  clear hcl hcell h
  have hnil : ∀ w, (binOp .eql 23 (.slice (some ⟨b, off, none⟩) n cap) (.slice none 0 0)).run Tryd.prog w = .ok (.bool false) w := fun w => Go.Lib.run_eql_slice_nil w _ _ _ _ _ _ _ Tryd.underlying23
  go_enter Tryd.func64, Tryd.ntmps64
  go_wp2_with (at_builtin; go_must (refine wpList_append_lies _ rfl (.tmp 5) (.tmp 6) 23 rfl w.heap.size 3 i0 (.int .i64 0) 1 8 Tryd.underlying23 hi hz0 hz1 hz2 rfl (by decide) _ 0 [] rfl HJ.out ⟨b, off, none⟩ n cap (zs.map (Value.int .i64)) rfl HL.out HC.out (oneI _) h0 (by unfold maxLen; omega) (by omega) (by rw [World.size_alloc]; omega) _ rfl ?_); intro g cp w1 hown hgrow hat hlt1)
  have j := JA.copied HZ.out hown hgrow
  clear hown hgrow
  go_wp2
  go_ret
  exact ⟨_, rfl, j⟩

end Go.Proofs.YtfkcfjkojfnfnaaDoor
namespace Go.Proofs.YtfkcfjkojfnfnaaDoor
open Go.RowKit
set_option linter.unusedVariables false
set_option maxRecDepth 100000

/-- What a form is. -/
def atF (V U : List Int) (f : FV) : Int := atV f.C f.D f.K V U
theorem atF_bnd {V U : List Int} {f : FV} (h : f.ok = true) (bV : bnd 10000 V) (bU : bnd 9 U) : -1000000000000 ≤ atF V U f ∧ atF V U f ≤ 1000000000000 := by
  obtain ⟨_, _, bC, bD, k1, k2⟩ := formB_elim (show formB f.n f.m f.C f.D f.K = true from h)
  have h1 := dot_bnd (bndP_of bC bV (by omega) (by omega)) 3
  have h2 := dot_bnd (bndP_of bD bU (by omega) (by omega)) 2
  unfold atF atV
  omega
theorem ats_bnd {V U : List Int} {fs : List FV} (h : fs.all FV.ok = true) (bV : bnd 10000 V) (bU : bnd 9 U) : bnd 1000000000000 (fs.map (atF V U)) := fun i => by
  by_cases hi : i < fs.length
  · have := atF_bnd (List.all_eq_true.1 h _ (List.getElem_mem hi)) bV bU
    rw [List.getElem?_map, List.getElem?_eq_getElem hi]
    simpa using this
  · rw [List.getElem?_eq_none (by simp; omega)]
    simp

/-- What an act came to, as a value. -/
abbrev resV (code : Int) (a : Option Addr) (n cap : Nat) : Value := .agg #[.int .i64 code, .slice a n cap]
/-- What a call has made: a code, what is told, what the pots have then; in new memory. -/
def ResD (w w' : World) (e : Ending) (code : Int) (tl pl : List Int) : Prop :=
  ∃ a n cap B1 b m cap' B2, e = .returned (.tuple #[resV code a n cap, .slice b m cap']) ∧ tl.length = n ∧ pl.length = m ∧ Below w.heap.size w w' ∧ OwnX w' a B1 n tl ∧ OwnX w' b B2 m pl ∧ (0 < n → w.heap.size ≤ B1) ∧ (0 < m → w.heap.size ≤ B2) ∧ (0 < n → 0 < m → B1 ≠ B2)
def endCode (P : List Int) : Int := if okN 3 10000 3 P then 1 else 3
def endTells (P T : List Int) : List Int := if okN 3 10000 3 P then T else []
def endPots (V P : List Int) : List Int := if okN 3 10000 3 P then P else V

set_option maxHeartbeats 1600000 in
theorem done_any (v : Option Addr) (cv : Nat) (p : Option Addr) (cp B2 : Nat) (t : Option Addr) (n ct B1 : Nat) (V P T : List Int) (w : World) (hV : Ints w v 3 V) (hP : OwnX w p B2 3 P) (hT : OwnX w t B1 n T) (hne : 0 < n → B1 ≠ B2) (lo : Nat) (h1 : 0 < n → lo ≤ B1) (h2 : lo ≤ B2) (hlo : lo ≤ w.heap.size) :
    Calls Tryd.prog 66 #[.slice v 3 cv, .slice p 3 cp, .slice t n ct] w fun e w' => ∃ a n' cap B1' b m cap' B2', e = .returned (.tuple #[resV (endCode P) a n' cap, .slice b m cap']) ∧ (endTells P T).length = n' ∧ (endPots V P).length = m ∧ Below w.heap.size w w' ∧ OwnX w' a B1' n' (endTells P T) ∧ OwnX w' b B2' m (endPots V P) ∧ (0 < n' → lo ≤ B1') ∧ (0 < m → lo ≤ B2') ∧ (0 < n' → 0 < m → B1' ≠ B2') := by
  have l1 : 0 < n → B1 < w.heap.size := fun h => hT.lt h
  have l2 : B2 < w.heap.size := hP.lt (by omega)
  obtain ⟨i0, hi, hz0, hz1, hz2⟩ := info_parts Tryd.infoInt
  have al : Below w.heap.size w (w.alloc (.cells #[.int .i64 0, .slice none 0 0] 36)) := (Below.refl _ _).alloc (Nat.le_refl _) _
  cases hok : okN 3 10000 3 P
  · have e1 : endCode P = 3 := by rw [endCode, hok]; rfl
    have e2 : endTells P T = [] := by rw [endTells, hok]; rfl
    have e3 : endPots V P = V := by rw [endPots, hok]; rfl
    rw [e1, e2, e3]
    clear e1 e2 e3
    go_enter Tryd.func66, Tryd.ntmps66
    go_wp2_with fail
    refine (ival_any _ _ _ P _ (hP.alloc _).ints (by omega)).mono ?_
    rintro e w1 ⟨rfl, hw1⟩
    rw [hok, hw1]
    clear hw1
    go_wp2_with fail
    refine (clone_any _ _ _ V _ (hV.alloc _) (by omega) (by omega)).mono ?_
    rintro e w2 ⟨r, rfl, j⟩
    have rc := (Cel.new w [.int .i64 0, .slice none 0 0] 36).below j.b
    obtain ⟨a, cap, B, rfl, hX, hB⟩ := j.ownx hV.1
    rw [World.size_alloc] at hB
    have bb := al.trans (j.b.mono al.size)
    have r0 := rc.cell 0
    have r1 := rc.cell 1
    have f0 := rc.free 0
    have f1 := rc.free 1
    simp only [List.getElem?_cons_zero, List.getElem?_cons_succ] at r0 r1
    have hlt := rc.lt
    clear rc j
    go_wp2
    refine bodyPost_ret (v := .tuple #[resV 3 none 0 0, .slice a 3 cap]) (by simp [results, Tryd.results66, go_sem, r0, r1]) rfl ⟨none, 0, 0, 0, a, 3, cap, B, rfl, rfl, hV.1, ?_, OwnX.nil _ _ _, ?_, fun h => by omega, fun h => by have := hB h; omega, fun h => by omega⟩
    · exact (bb.setCell (Nat.le_refl _) _).setCell (Nat.le_refl _) _
    · exact (hX.setOther (fun h => by have := hB h; omega) _ _).setOther (fun h => by have := hB h; omega) _ _
  · have e1 : endCode P = 1 := by rw [endCode, hok]; rfl
    have e2 : endTells P T = T := by rw [endTells, hok]; rfl
    have e3 : endPots V P = P := by rw [endPots, hok]; rfl
    rw [e1, e2, e3]
    clear e1 e2 e3
    go_enter Tryd.func66, Tryd.ntmps66
    go_wp2_with fail
    refine (ival_any _ _ _ P _ (hP.alloc _).ints (by omega)).mono ?_
    rintro e w1 ⟨rfl, hw1⟩
    rw [hok, hw1]
    clear hw1
    go_wp2
    refine bodyPost_ret (v := .tuple #[resV 1 t n ct, .slice p 3 cp]) (by simp [results, Tryd.results66, go_sem]) rfl ⟨t, n, ct, B1, p, 3, cp, B2, rfl, hT.1, hP.1, ?_, ?_, ?_, h1, fun _ => h2, fun h _ => hne h⟩
    · first | exact (Below.refl _ _).alloc (Nat.le_refl _) _ | exact (((Below.refl _ _).alloc (Nat.le_refl _) _).setCell (Nat.le_refl _) _).setCell (Nat.le_refl _) _
    · first | exact hT.alloc _ | exact ((hT.alloc _).setOther (fun h => by have := l1 h; omega) _ _).setOther (fun h => by have := l1 h; omega) _ _
    · first | exact hP.alloc _ | exact ((hP.alloc _).setOther (fun h => by omega) _ _).setOther (fun h => by omega) _ _

set_option maxHeartbeats 1600000 in
theorem end_any (v : Option Addr) (cv : Nat) (p : Option Addr) (cp B2 : Nat) (t : Option Addr) (n ct B1 : Nat) (V P T : List Int) (w : World) (hV : Ints w v 3 V) (hP : OwnX w p B2 3 P) (hT : OwnX w t B1 n T) (hne : 0 < n → B1 ≠ B2) (lo : Nat) (h1 : 0 < n → lo ≤ B1) (h2 : lo ≤ B2) (hlo : lo ≤ w.heap.size) :
    Calls Tryd.prog 68 #[.slice v 3 cv, .slice p 3 cp, .slice t n ct] w fun e w' => ∃ a n' cap B1' b m cap' B2', e = .returned (.tuple #[resV (endCode P) a n' cap, .slice b m cap']) ∧ (endTells P T).length = n' ∧ (endPots V P).length = m ∧ Below w.heap.size w w' ∧ OwnX w' a B1' n' (endTells P T) ∧ OwnX w' b B2' m (endPots V P) ∧ (0 < n' → lo ≤ B1') ∧ (0 < m → lo ≤ B2') ∧ (0 < n' → 0 < m → B1' ≠ B2') := by
  have l1 : 0 < n → B1 < w.heap.size := fun h => hT.lt h
  have l2 : B2 < w.heap.size := hP.lt (by omega)
  obtain ⟨i0, hi, hz0, hz1, hz2⟩ := info_parts Tryd.infoInt
  have al : Below w.heap.size w (w.alloc (.cells #[.int .i64 0, .slice none 0 0] 36)) := (Below.refl _ _).alloc (Nat.le_refl _) _
  cases hok : okN 3 10000 3 P
  · have e1 : endCode P = 3 := by rw [endCode, hok]; rfl
    have e2 : endTells P T = [] := by rw [endTells, hok]; rfl
    have e3 : endPots V P = V := by rw [endPots, hok]; rfl
    rw [e1, e2, e3]
    clear e1 e2 e3
    go_enter Tryd.func68, Tryd.ntmps68
    go_wp2_with fail
    refine (sval_any _ _ _ P _ (hP.alloc _).ints (by omega)).mono ?_
    rintro e w1 ⟨rfl, hw1⟩
    rw [hok]
    have rc0 : Cel w1 w.heap.size [.int .i64 0, .slice none 0 0] 36 := by rw [hw1]; exact Cel.new w _ _
    have b0 : Below w.heap.size w w1 := by rw [hw1]; exact al
    have hV1 := hV.below b0
    have hlt := rc0.lt
    clear hw1 al
    obtain ⟨vb, vo, rfl, hcell⟩ := hV1.pos (by omega)
    have hcl : ∀ i, i < 3 → (w1.alloc (.cells #[] 3)).cell? ⟨vb, vo + i, none⟩ = some (.int .i64 (V.getD i 0)) := fun i hi => by
      rw [((Below.refl w1.heap.size w1).alloc (Nat.le_refl _) _).cell (p := ⟨vb, vo + i, none⟩) (block_lt (hcell i hi))]; exact hcell i hi
    have HC : Hid _ := newsI hcl hV.1
    have HL : Hid ((V.map (Value.int .i64)).length = 3 * 1) := by show _ = _; rw [List.length_map, hV.1]
    have HJ : Hid _ := (JA.lit w1).o
    clear hcl hcell
    go_wp2_with (at_builtin; go_must (refine wpList_append_lies _ rfl (.tmp 12) (.tmp 13) 23 rfl w1.heap.size 3 i0 (.int .i64 0) 1 8 Tryd.underlying23 hi hz0 hz1 hz2 rfl (by decide) _ 0 [] rfl HJ.out ⟨vb, vo, none⟩ 3 cv (V.map (Value.int .i64)) rfl HL.out HC.out (oneI _) (by omega) (by unfold maxLen; omega) (by omega) (by rw [World.size_alloc]; omega) _ rfl ?_); intro g cp2 w2 hown hgrow hat hlt1; have j := JA.copied hV.1 hown hgrow; have rc := rc0.below j.b; have r0 := rc.cell 0; have r1 := rc.cell 1; have f0 := rc.free 0; have f1 := rc.free 1; simp only [List.getElem?_cons_zero, List.getElem?_cons_succ] at r0 r1; have hlt2 := rc.lt; clear hown hgrow hat)
    obtain ⟨a, cap, B, hv2, hX, hB⟩ := j.ownx hV.1
    simp only [Value.slice.injEq, true_and] at hv2
    obtain ⟨rfl, rfl⟩ := hv2
    have bb := b0.trans (j.b.mono b0.size)
    clear rc j rc0
    refine bodyPost_ret (v := .tuple #[resV 3 none 0 0, .slice (some ⟨g, 0, none⟩) 3 cp2]) (by simp [results, Tryd.results68, go_sem, r0, r1]) rfl ⟨none, 0, 0, 0, some ⟨g, 0, none⟩, 3, cp2, B, rfl, rfl, hV.1, ?_, OwnX.nil _ _ _, ?_, fun h => by omega, fun h => by have := hB h; omega, fun h => by omega⟩
    · exact (bb.setCell (Nat.le_refl _) _).setCell (Nat.le_refl _) _
    · exact (hX.setOther (fun h => by have := hB h; omega) _ _).setOther (fun h => by have := hB h; omega) _ _
  · have e1 : endCode P = 1 := by rw [endCode, hok]; rfl
    have e2 : endTells P T = T := by rw [endTells, hok]; rfl
    have e3 : endPots V P = P := by rw [endPots, hok]; rfl
    rw [e1, e2, e3]
    clear e1 e2 e3
    go_enter Tryd.func68, Tryd.ntmps68
    go_wp2_with fail
    refine (sval_any _ _ _ P _ (hP.alloc _).ints (by omega)).mono ?_
    rintro e w1 ⟨rfl, hw1⟩
    rw [hok, hw1]
    clear hw1
    go_wp2
    refine bodyPost_ret (v := .tuple #[resV 1 t n ct, .slice p 3 cp]) (by simp [results, Tryd.results68, go_sem]) rfl ⟨t, n, ct, B1, p, 3, cp, B2, rfl, hT.1, hP.1, ?_, ?_, ?_, h1, fun _ => h2, fun h _ => hne h⟩
    · first | exact (Below.refl _ _).alloc (Nat.le_refl _) _ | exact (((Below.refl _ _).alloc (Nat.le_refl _) _).setCell (Nat.le_refl _) _).setCell (Nat.le_refl _) _
    · first | exact hT.alloc _ | exact ((hT.alloc _).setOther (fun h => by have := l1 h; omega) _ _).setOther (fun h => by have := l1 h; omega) _ _
    · first | exact hP.alloc _ | exact ((hP.alloc _).setOther (fun h => by omega) _ _).setOther (fun h => by omega) _ _

end Go.Proofs.YtfkcfjkojfnfnaaDoor
namespace Go.Proofs.YtfkcfjkojfnfnaaDoor
open Go.RowKit
set_option linter.unusedVariables false

theorem zip_take {xs ys : List Int} {k : Nat} (hx : k < xs.length) (hy : k < ys.length) : (List.zipWith (· + ·) xs ys).take (k + 1) = (List.zipWith (· + ·) xs ys).take k ++ [xs[k]?.getD 0 + ys[k]?.getD 0] := by
  have hl : k < (List.zipWith (· + ·) xs ys).length := by rw [List.length_zipWith]; omega
  rw [List.take_succ_eq_append_getElem hl, List.getElem_zipWith, List.getElem?_eq_getElem hx, List.getElem?_eq_getElem hy]
  rfl

end Go.Proofs.YtfkcfjkojfnfnaaDoor
namespace Go.Proofs.YtfkcfjkojfnfnaaDoor
open Go.RowKit
set_option linter.unusedVariables false
set_option maxRecDepth 100000

theorem BX.touch {S : Nat → Prop} {w W W' : World} {B : Nat} {la : List Value} {ty : TypeId} (h : BX w B la ty W) (t : Touch S W W') (hs : ∀ k, S k → w.heap.size ≤ k) (hn : ¬ S B) : BX w B la ty W' :=
  ⟨h.p.touch t hn, h.b.trans (t.below h.b.size hs)⟩

/-- All that is asked for is ok. -/
def doB (gs ls ts : List FV) (A T : Nat) (st : Bool) (p q : Nat) (V U : List Int) : Bool := rowB gs ls ts A T st && okN 3 10000 p V && okN 2 9 q U
/-- What the pots would have. -/
def doX (ls : List FV) (V U : List Int) : List Int := List.zipWith (· + ·) V (ls.map (atF V U))
def doCode (gs ls ts : List FV) (A T : Nat) (st : Bool) (p q : Nat) (V U : List Int) : Int := if doB gs ls ts A T st p q V U then (if st then 2 else endCode (doX ls V U)) else 0
def doTells (gs ls ts : List FV) (A T : Nat) (st : Bool) (p q : Nat) (V U : List Int) : List Int := if doB gs ls ts A T st p q V U then (if st then [] else endTells (doX ls V U) (ts.map (atF V U))) else []
def doPots (gs ls ts : List FV) (A T : Nat) (st : Bool) (p q : Nat) (V U : List Int) : List Int := if doB gs ls ts A T st p q V U then (if st then V else endPots V (doX ls V U)) else []
theorem do_no {gs ls ts : List FV} {A T : Nat} {st : Bool} {p q : Nat} {V U : List Int} (h : doB gs ls ts A T st p q V U = false) : doCode gs ls ts A T st p q V U = 0 ∧ doTells gs ls ts A T st p q V U = [] ∧ doPots gs ls ts A T st p q V U = [] := by
  simp [doCode, doTells, doPots, h]
theorem do_stop {gs ls ts : List FV} {A T : Nat} {p q : Nat} {V U : List Int} (h : doB gs ls ts A T true p q V U = true) : doCode gs ls ts A T true p q V U = 2 ∧ doTells gs ls ts A T true p q V U = [] ∧ doPots gs ls ts A T true p q V U = V := by
  simp [doCode, doTells, doPots, h]
theorem do_go {gs ls ts : List FV} {A T : Nat} {p q : Nat} {V U : List Int} (h : doB gs ls ts A T false p q V U = true) : doCode gs ls ts A T false p q V U = endCode (doX ls V U) ∧ doTells gs ls ts A T false p q V U = endTells (doX ls V U) (ts.map (atF V U)) ∧ doPots gs ls ts A T false p q V U = endPots V (doX ls V U) := by
  simp [doCode, doTells, doPots, h]
theorem rowB_three {gs ls ts : List FV} {A T : Nat} (h : rowB gs ls ts A T false = true) : A = 3 := by
  simp only [rowB, Bool.and_eq_true] at h
  have := h.2
  simp at this
  omega
theorem Cel.pair {w : World} {B : Nat} {x y : Value} {t : TypeId} (h : Cel w B [x, y] t) : w.cell? ⟨B, 0, none⟩ = some x ∧ w.cell? ⟨B, 1, none⟩ = some y ∧ w.frozen? ⟨B, 0, none⟩ = false ∧ w.frozen? ⟨B, 1, none⟩ = false := ⟨h.cell 0, h.cell 1, h.free 0, h.free 1⟩

end Go.Proofs.YtfkcfjkojfnfnaaDoor
namespace Go.Proofs.YtfkcfjkojfnfnaaDoor
open Go.RowKit
set_option linter.unusedVariables false
set_option maxRecDepth 100000

end Go.Proofs.YtfkcfjkojfnfnaaDoor
namespace Go.Proofs.YtfkcfjkojfnfnaaDoor
open Go.RowKit
set_option linter.unusedVariables false

/-- While they are marked: the block's slices stand; the lists from k on are as they were made. -/
structure MK2 (W : World) (B N s k : Nat) (gs : List FV) (p q : Nat → Nat) (wr : World) : Prop where
  c : ∃ cur : Array Value, wr.heap[B]? = some (.cells cur 25 (0, 0)) ∧ cur.size = N * 3 ∧ ∀ i, i < N → cur[i * 3]? = some (.slice (gs[i]?.getD noFV).a (gs[i]?.getD noFV).n (gs[i]?.getD noFV).cap) ∧ cur[i * 3 + 1]? = some (.slice (gs[i]?.getD noFV).c (gs[i]?.getD noFV).m (gs[i]?.getD noFV).cap')
  o : ∀ i, k ≤ i → i < N → Blk wr (p i) (gs[i]?.getD noFV).C ∧ Blk wr (q i) (gs[i]?.getD noFV).D
  t : Touch (fun x => B ≤ x ∧ x < s) W wr

end Go.Proofs.YtfkcfjkojfnfnaaDoor
namespace Go.Proofs.YtfkcfjkojfnfnaaDoor
open Go.RowKit
set_option linter.unusedVariables false
set_option maxRecDepth 100000

end Go.Proofs.YtfkcfjkojfnfnaaDoor
namespace Go.Proofs.YtfkcfjkojfnfnaaDoor
open Go.RowKit
set_option linter.unusedVariables false
set_option maxRecDepth 100000

set_option maxHeartbeats 800000 in
theorem iatG_any (a : Option Addr) (cap : Nat) (c : Option Addr) (cap' : Nat) (K : Int) (C D : List Int) (v : Option Addr) (cv : Nat) (u : Option Addr) (cu : Nat) (V A : List Int) (w : World)
    (hC : Ints w a 3 C) (hD : Ints w c 2 D) (hV : Ints w v 3 V) (hA : Ints w u 2 A) (P Q : Int) (p1 : bndP P C V) (p2 : bndP Q D A) (zP : 0 ≤ P) (zQ : 0 ≤ Q) (tP : P ≤ 100000000000) (tQ : Q ≤ 100000000000) (bK : -10000000 ≤ K ∧ K ≤ 10000000) :
    Calls Tryd.prog 115 #[formV a 3 cap c 2 cap' K, .slice v 3 cv, .slice u 2 cu] w fun e w' => e = .returned (.int .i64 (atV C D K V A)) ∧ Below w.heap.size w w' := by
  have d1 := dot_bnd p1 3
  have d2 := dot_bnd p2 2
  obtain ⟨K1, K2⟩ := bK
  have q1 : ∀ w' : World, Below w.heap.size w w' → Calls Tryd.prog 130 #[.slice a 3 cap, .slice v 3 cv] w' fun e w'' => e = .returned (.int .i64 (dot C V 3)) ∧ w'' = w' := fun w' hb => psum_any _ _ _ _ _ C V _ _ (hC.below hb) (hV.below hb) (by omega) p1 (by omega) (by omega)
  have q2 : ∀ w' : World, Below w.heap.size w w' → Calls Tryd.prog 130 #[.slice c 2 cap', .slice u 2 cu] w' fun e w'' => e = .returned (.int .i64 (dot D A 2)) ∧ w'' = w' := fun w' hb => psum_any _ _ _ _ _ D A _ _ (hD.below hb) (hA.below hb) (by omega) p2 (by omega) (by omega)
  have Q1 : Hid _ := q1
  have Q2 : Hid _ := q2
  obtain ⟨X, hX⟩ : ∃ X, X = dot C V 3 := ⟨_, rfl⟩
  obtain ⟨Y, hY⟩ : ∃ Y, Y = dot D A 2 := ⟨_, rfl⟩
  have e1 : -1000000000000 ≤ dot C V 3 := by omega
  have e2 : dot C V 3 ≤ 1000000000000 := by omega
  have e3 : -1000000000000 ≤ dot D A 2 := by omega
  have e4 : dot D A 2 ≤ 1000000000000 := by omega
  clear d1 d2 q1 q2 hX hY X Y p1 p2 zP zQ tP tQ hC hD hV hA
  go_enter Tryd.func115, Tryd.ntmps115
  go_wp2_with fail
  go_quiet (first | (go_at_call_of 130 (Value.slice a 3 cap); exact Calls.quiet_of_same (Q1.out _ (by repeat (first | exact (Below.refl _ _).alloc (Nat.le_refl _) _ | refine below_drewN ?_ _ | refine Below.drew ?_)))) | (go_at_call_of 130 (Value.slice c 2 cap'); exact Calls.quiet_of_same (Q2.out _ (by repeat (first | exact (Below.refl _ _).alloc (Nat.le_refl _) _ | refine below_drewN ?_ _ | refine Below.drew ?_)))))
  go_wp2
  go_ret
  exact ⟨rfl, below_drewN ((Below.refl _ _).alloc (Nat.le_refl _) _) _⟩

set_option maxHeartbeats 1600000 in
theorem satG_any (a : Option Addr) (cap : Nat) (c : Option Addr) (cap' : Nat) (K : Int) (C D : List Int) (v : Option Addr) (cv : Nat) (u : Option Addr) (cu : Nat) (V A : List Int) (w : World)
    (hC : Ints w a 3 C) (hD : Ints w c 2 D) (hV : Ints w v 3 V) (hA : Ints w u 2 A) (P Q : Int) (p1 : bndP P C V) (p2 : bndP Q D A) (zP : 0 ≤ P) (zQ : 0 ≤ Q) (tP : P ≤ 100000000000) (tQ : Q ≤ 100000000000) (bK : -10000000 ≤ K ∧ K ≤ 10000000) :
    Calls Tryd.prog 67 #[formV a 3 cap c 2 cap' K, .slice v 3 cv, .slice u 2 cu] w fun e w' => e = .returned (.int .i64 (atV C D K V A)) ∧ Below w.heap.size w w' := by
  obtain ⟨K1, K2⟩ := bK
  have P1 : Hid (bndP P C V) := p1
  have P2 : Hid (bndP Q D A) := p2
  clear p1 p2
  go_enter Tryd.func67, Tryd.ntmps67
  go_wp2_with fail
  go_loopw [7, 8] (fun s i wr => ∃ k : Nat, k ≤ 3 ∧ i = .int .i64 k ∧ s = .int .i64 (K + dot C V k) ∧ Below w.heap.size w wr ∧ Cel wr w.heap.size [.slice a 3 cap, .slice c 2 cap', .int .i64 K] 25) (fun _ i _ => 3 - (intOf i).toNat)
  case atStart => exact ⟨0, by omega, rfl, by simp [dot], (Below.refl _ _).alloc (Nat.le_refl _) _, Cel.new w _ _⟩
  case round =>
    obtain ⟨k, hk, rfl, rfl, hb, hS⟩ := hrel
    by_cases hlt : k < 3
    · obtain ⟨b, off, rfl, hcell⟩ := (hC.below hb).pos (by omega)
      obtain ⟨b', off', rfl, hcell'⟩ := (hV.below hb).pos (by omega)
      have hck := hcell k hlt
      have hck' := hcell' k hlt
      have hlt' : (k : Int) < 3 := by omega
      have s0 := hS.cell 0
      simp only [List.getElem?_cons_zero] at s0
      obtain ⟨d3, d4⟩ := P1.out k
      have d := dot_bnd P1.out k
      have kP : (k : Int) * P ≤ 3 * P := Int.mul_le_mul_of_nonneg_right (by omega) (by omega)
      have d1 : -1000000000000000 ≤ dot C V k := by omega
      have d2 : dot C V k ≤ 1000000000000000 := by omega
      have d7 : -100000000000 ≤ C[k]?.getD 0 * V[k]?.getD 0 := by omega
      have d8 : C[k]?.getD 0 * V[k]?.getD 0 ≤ 100000000000 := by omega
      clear hcell hcell' hC hD hV hA d kP d3 d4
      go_wp2_with fail
      go_quiet (fail)
      go_wp2
      go_roundw
      case rel => exact ⟨k + 1, by omega, by go_num, congrArg (Value.int IntKind.i64) (by simp only [dot]; omega), below_drewN hb _, hS⟩
      case measure => simp [intOf]; omega
    · obtain rfl : k = 3 := by omega
      have d := dot_bnd P1.out 3
      have d1 : -1000000000000000 ≤ dot C V 3 := by omega
      have d2 : dot C V 3 ≤ 1000000000000000 := by omega
      clear d hC hV
      go_wp2_with fail
      go_loopw [7, 9] (fun s i wx => ∃ k : Nat, k ≤ 2 ∧ i = .int .i64 k ∧ s = .int .i64 (K + dot C V 3 + dot D A k) ∧ Below w.heap.size w wx ∧ Cel wx w.heap.size [.slice a 3 cap, .slice c 2 cap', .int .i64 K] 25) (fun _ i _ => 2 - (intOf i).toNat)
      case atStart => exact ⟨0, by omega, rfl, by simp [dot], hb, hS⟩
      case round =>
        clear hb hS
        obtain ⟨j, hj, rfl, rfl, hb, hS⟩ := hrel
        by_cases hlt : j < 2
        · obtain ⟨b, off, rfl, hcell⟩ := (hD.below hb).pos (by omega)
          obtain ⟨b', off', rfl, hcell'⟩ := (hA.below hb).pos (by omega)
          have hck := hcell j hlt
          have hck' := hcell' j hlt
          have hlt' : (j : Int) < 2 := by omega
          have s0 := hS.cell 1
          simp only [List.getElem?_cons_zero, List.getElem?_cons_succ] at s0
          obtain ⟨d5, d6⟩ := P2.out j
          have d := dot_bnd P2.out j
          have kP : (j : Int) * Q ≤ 2 * Q := Int.mul_le_mul_of_nonneg_right (by omega) (by omega)
          have d3 : -1000000000000000 ≤ dot D A j := by omega
          have d4 : dot D A j ≤ 1000000000000000 := by omega
          have d7 : -100000000000 ≤ D[j]?.getD 0 * A[j]?.getD 0 := by omega
          have d8 : D[j]?.getD 0 * A[j]?.getD 0 ≤ 100000000000 := by omega
          clear hcell hcell' hD hA d kP d5 d6
          go_wp2_with fail
          go_quiet (fail)
          go_wp2
          go_roundw
          case rel => exact ⟨j + 1, by omega, by go_num, congrArg (Value.int IntKind.i64) (by simp only [dot]; omega), below_drewN hb _, hS⟩
          case measure => simp [intOf]; omega
        · obtain rfl : j = 2 := by omega
          go_wp2
          go_ret
          exact ⟨ret_int (by unfold atV; omega), hb⟩

/-- How great a pot may be behind so many lines. -/
def bd : Nat → Int
  | 0 => 10000
  | n + 1 => 7 * bd n + 56
theorem bd_pos : ∀ n, 10000 ≤ bd n
  | 0 => by simp [bd]
  | n + 1 => by have := bd_pos n; simp only [bd]; omega
theorem bd_succ (n : Nat) : bd n ≤ bd (n + 1) := by have := bd_pos n; simp only [bd]; omega
theorem bd_mono {n m : Nat} (h : n ≤ m) : bd n ≤ bd m := by
  induction h with
  | refl => exact Int.le_refl _
  | step _ ih => exact Int.le_trans ih (bd_succ _)
theorem bd_six {n : Nat} (h : n ≤ 6) : bd n ≤ 2000000000 := Int.le_trans (bd_mono h) (by simp [bd])
theorem bnd_mono {M M' : Int} {zs : List Int} (h : bnd M zs) (hM : M ≤ M') : bnd M' zs := fun i => by have := h i; omega
theorem small_elim {n m : Nat} {C D : List Int} {K : Int} (h : smallB n m C D K = true) : n = 3 ∧ m = 2 ∧ bnd 2 C ∧ bnd 2 D ∧ -20 ≤ K ∧ K ≤ 20 := by
  simp only [smallB, Bool.and_eq_true] at h
  obtain ⟨⟨h1, h2⟩, h3⟩ := h
  obtain ⟨e1, b1⟩ := okN_elim (by omega) h1
  obtain ⟨e2, b2⟩ := okN_elim (by omega) h2
  have := inB_iff.1 h3
  exact ⟨by omega, by omega, b1, b2, this.1, this.2⟩
/-- A small form is not much greater than the pots are. -/
theorem small_at {C D V U : List Int} {K M : Int} (bC : bnd 2 C) (bD : bnd 2 D) (k1 : -20 ≤ K) (k2 : K ≤ 20) (bV : bnd M V) (bU : bnd 9 U) (hM : 0 ≤ M) : bndP (2 * M) C V ∧ bndP 18 D U ∧ -(6 * M + 56) ≤ atV C D K V U ∧ atV C D K V U ≤ 6 * M + 56 := by
  have p1 := bndP_of bC bV (by omega) hM
  have p2 := bndP_of bD bU (by omega) (by omega)
  have d1 := dot_bnd p1 3
  have d2 := dot_bnd p2 2
  refine ⟨p1, p2, ?_, ?_⟩ <;> unfold atV <;> omega
theorem bnd_set {M : Int} {x : List Int} {k : Nat} {v : Int} (h : bnd M x) (h1 : -M ≤ v) (h2 : v ≤ M) : bnd M (x.set k v) := fun i => by
  by_cases e : i = k
  · subst e
    by_cases hi : i < x.length
    · rw [List.getElem?_set_self hi]; simp; omega
    · rw [List.getElem?_eq_none (by simp; omega)]
      have := h i
      simp
      omega
  · rw [List.getElem?_set_ne (by omega)]; exact h i

/-- The run of an act: whether it stopped, the pots, what was told; i: the line, f: how many steps at most. -/
def goL (U : List Int) (ls : List LV) : Nat → Nat → List Int → List Int → Bool × List Int × List Int
  | 0, _, x, tl => (false, x, tl)
  | f + 1, i, x, tl =>
    if i < ls.length then
      if (ls[i]?.getD noLV).kind = 1 then goL U ls f (if atF x U (ls[i]?.getD noLV).f < 0 then i + 1 + (ls[i]?.getD noLV).skip.toNat else i + 1) x tl
      else if (ls[i]?.getD noLV).kind = 2 then goL U ls f (i + 1) (x.set (ls[i]?.getD noLV).pot.toNat (x[(ls[i]?.getD noLV).pot.toNat]?.getD 0 + atF x U (ls[i]?.getD noLV).f)) tl
      else if (ls[i]?.getD noLV).kind = 3 then goL U ls f (i + 1) x (tl ++ [atF x U (ls[i]?.getD noLV).f])
      else (true, x, tl)
    else (false, x, tl)
theorem goL_end {U : List Int} {ls : List LV} {f i : Nat} {x tl : List Int} (h : ls.length ≤ i) : goL U ls f i x tl = (false, x, tl) := by
  cases f with
  | zero => rfl
  | succ f => rw [goL, if_neg (by omega)]
theorem goL_one {U : List Int} {ls : List LV} {f i : Nat} {x tl : List Int} {g : LV} (h : i < ls.length) (hf : 0 < f) (hg : ls[i]?.getD noLV = g) : goL U ls f i x tl = (if g.kind = 1 then goL U ls (f - 1) (if atF x U g.f < 0 then i + 1 + g.skip.toNat else i + 1) x tl else if g.kind = 2 then goL U ls (f - 1) (i + 1) (x.set g.pot.toNat (x[g.pot.toNat]?.getD 0 + atF x U g.f)) tl else if g.kind = 3 then goL U ls (f - 1) (i + 1) x (tl ++ [atF x U g.f]) else (true, x, tl)) := by
  obtain ⟨n, rfl⟩ : ∃ n, f = n + 1 := ⟨f - 1, by omega⟩
  rw [goL, if_pos h, hg]; rfl
/-- The whole run. -/
def runL (U : List Int) (ls : List LV) (V : List Int) : Bool × List Int × List Int := goL U ls 7 0 V []
/-- Where a run stands. -/
structure At (U : List Int) (ls : List LV) (V : List Int) (i : Nat) (x tl : List Int) : Prop where
  r : ∃ f, 7 ≤ i + f ∧ runL U ls V = goL U ls f i x tl
  b : i ≤ 6 → bnd (bd i) x
  l : x.length = 3
  t : tl.length ≤ i
theorem At.start {U : List Int} {ls : List LV} {V : List Int} (h : bnd 10000 V) (hl : V.length = 3) : At U ls V 0 V [] := ⟨⟨7, by omega, rfl⟩, fun _ => h, hl, Nat.le_refl _⟩
theorem At.done {U : List Int} {ls : List LV} {V : List Int} {i : Nat} {x tl : List Int} (h : At U ls V i x tl) (hi : ls.length ≤ i) : runL U ls V = (false, x, tl) := by
  obtain ⟨f, _, e⟩ := h.r
  rw [e, goL_end hi]
theorem At.one {U : List Int} {ls : List LV} {V : List Int} {i : Nat} {x tl : List Int} {g : LV} (h : At U ls V i x tl) (hi : i < ls.length) (h6 : ls.length ≤ 6) (hg : ls[i]?.getD noLV = g) : ∃ f, 7 ≤ (i + 1) + f ∧ runL U ls V = (if g.kind = 1 then goL U ls f (if atF x U g.f < 0 then i + 1 + g.skip.toNat else i + 1) x tl else if g.kind = 2 then goL U ls f (i + 1) (x.set g.pot.toNat (x[g.pot.toNat]?.getD 0 + atF x U g.f)) tl else if g.kind = 3 then goL U ls f (i + 1) x (tl ++ [atF x U g.f]) else (true, x, tl)) := by
  obtain ⟨f, h1, e⟩ := h.r
  exact ⟨f - 1, by omega, by rw [e, goL_one hi (by omega) hg]⟩
theorem At.skip {U : List Int} {ls : List LV} {V : List Int} {i j : Nat} {x tl : List Int} {g : LV} (h : At U ls V i x tl) (hi : i < ls.length) (h6 : ls.length ≤ 6) (hg : ls[i]?.getD noLV = g) (hk : g.kind = 1) (hj : j = if atF x U g.f < 0 then i + 1 + g.skip.toNat else i + 1) : At U ls V j x tl := by
  obtain ⟨f, h1, e⟩ := h.one hi h6 hg
  rw [if_pos hk, ← hj] at e
  have hij : i + 1 ≤ j := by rw [hj]; split <;> omega
  have ht := h.t
  exact ⟨⟨f, by omega, e⟩, fun h => bnd_mono (‹At U ls V i x tl›.b (by omega)) (bd_mono (by omega)), h.l, by omega⟩
theorem At.add {U : List Int} {ls : List LV} {V : List Int} {i : Nat} {x tl : List Int} {g : LV} (h : At U ls V i x tl) (hi : i < ls.length) (h6 : ls.length ≤ 6) (hg : ls[i]?.getD noLV = g) (hk : g.kind = 2) (h1 : -(6 * bd i + 56) ≤ atF x U g.f) (h2 : atF x U g.f ≤ 6 * bd i + 56) : At U ls V (i + 1) (x.set g.pot.toNat (x[g.pot.toNat]?.getD 0 + atF x U g.f)) tl := by
  obtain ⟨f, h3, e⟩ := h.one hi h6 hg
  rw [if_neg (by omega), if_pos hk] at e
  have ht := h.t
  refine ⟨⟨f, by omega, e⟩, fun _ => ?_, by rw [List.length_set]; exact h.l, by omega⟩
  have hb := h.b (by omega)
  have := hb g.pot.toNat
  have hp := bd_pos i
  exact bnd_set (bnd_mono hb (bd_succ i)) (by simp only [bd]; omega) (by simp only [bd]; omega)
theorem At.tell {U : List Int} {ls : List LV} {V : List Int} {i : Nat} {x tl : List Int} {g : LV} (h : At U ls V i x tl) (hi : i < ls.length) (h6 : ls.length ≤ 6) (hg : ls[i]?.getD noLV = g) (hk : g.kind = 3) : At U ls V (i + 1) x (tl ++ [atF x U g.f]) := by
  obtain ⟨f, h3, e⟩ := h.one hi h6 hg
  rw [if_neg (by omega), if_neg (by omega), if_pos hk] at e
  have ht := h.t
  exact ⟨⟨f, by omega, e⟩, fun _ => bnd_mono (h.b (by omega)) (bd_succ i), h.l, by rw [List.length_append]; simp; omega⟩
theorem At.stop {U : List Int} {ls : List LV} {V : List Int} {i : Nat} {x tl : List Int} {g : LV} (h : At U ls V i x tl) (hi : i < ls.length) (h6 : ls.length ≤ 6) (hg : ls[i]?.getD noLV = g) (h1 : ¬ g.kind = 1) (h2 : ¬ g.kind = 2) (h3 : ¬ g.kind = 3) : (runL U ls V).1 = true := by
  obtain ⟨f, _, e⟩ := h.one hi h6 hg
  rw [if_neg h1, if_neg h2, if_neg h3] at e
  rw [e]

end Go.Proofs.YtfkcfjkojfnfnaaDoor
namespace Go.Proofs.YtfkcfjkojfnfnaaDoor
open Go.RowKit
set_option linter.unusedVariables false
set_option maxRecDepth 100000

/-- All that is asked for is ok. -/
def runB (N : Nat) (ls : List LV) (p : Nat) (V : List Int) (q : Nat) (U : List Int) : Bool := actB N ls && okN 3 10000 p V && okN 2 9 q U
def runCode (N : Nat) (ls : List LV) (p : Nat) (V : List Int) (q : Nat) (U : List Int) : Int := if runB N ls p V q U then (if (runL U ls V).1 then 2 else endCode (runL U ls V).2.1) else 0
def runTells (N : Nat) (ls : List LV) (p : Nat) (V : List Int) (q : Nat) (U : List Int) : List Int := if runB N ls p V q U then (if (runL U ls V).1 then [] else endTells (runL U ls V).2.1 (runL U ls V).2.2) else []
def runPots (N : Nat) (ls : List LV) (p : Nat) (V : List Int) (q : Nat) (U : List Int) : List Int := if runB N ls p V q U then (if (runL U ls V).1 then V else endPots V (runL U ls V).2.1) else []
theorem run_no {N : Nat} {ls : List LV} {p : Nat} {V : List Int} {q : Nat} {U : List Int} (h : runB N ls p V q U = false) : runCode N ls p V q U = 0 ∧ runTells N ls p V q U = [] ∧ runPots N ls p V q U = [] := by
  simp [runCode, runTells, runPots, h]
theorem run_stop {N : Nat} {ls : List LV} {p : Nat} {V : List Int} {q : Nat} {U : List Int} (h : runB N ls p V q U = true) (hs : (runL U ls V).1 = true) : runCode N ls p V q U = 2 ∧ runTells N ls p V q U = [] ∧ runPots N ls p V q U = V := by
  simp [runCode, runTells, runPots, h, hs]
theorem run_go {N : Nat} {ls : List LV} {p : Nat} {V : List Int} {q : Nat} {U : List Int} {x tl : List Int} (h : runB N ls p V q U = true) (hs : runL U ls V = (false, x, tl)) : runCode N ls p V q U = endCode x ∧ runTells N ls p V q U = endTells x tl ∧ runPots N ls p V q U = endPots V x := by
  simp [runCode, runTells, runPots, h, hs]
theorem actB_six {N : Nat} {ls : List LV} (h : actB N ls = true) : N ≤ 6 ∧ ls.all LV.ok = true := by
  simp only [actB, Bool.and_eq_true, decide_eq_true_eq] at h
  exact ⟨by omega, h.1.2⟩
theorem allL_at {ls : List LV} {k : Nat} (h : ls.all LV.ok = true) (hk : k < ls.length) : (ls[k]?.getD noLV).ok = true := by
  rw [List.getElem?_eq_getElem hk]
  exact List.all_eq_true.1 h _ (List.getElem_mem hk)
theorem line_one {pot skip : Int} {n m : Nat} {C D : List Int} {K : Int} (h : lineB 1 pot skip n m C D K = true) : 1 ≤ skip ∧ skip ≤ 6 ∧ smallB n m C D K = true := by
  simp [lineB] at h
  have := inB_iff.1 h.1.2
  exact ⟨this.1, this.2, h.2⟩
theorem line_two {pot skip : Int} {n m : Nat} {C D : List Int} {K : Int} (h : lineB 2 pot skip n m C D K = true) : 0 ≤ pot ∧ pot < 3 ∧ smallB n m C D K = true := by
  simp [lineB] at h
  have := inB_iff.1 h.1.1
  exact ⟨this.1, by omega, h.2⟩
theorem line_three {pot skip : Int} {n m : Nat} {C D : List Int} {K : Int} (h : lineB 3 pot skip n m C D K = true) : smallB n m C D K = true := by
  simp [lineB] at h
  exact h.2
theorem JA.rebase {w w1 W : World} {v : Value} {xs : List Int} (j : JA w1 v xs W) (b : Below w.heap.size w w1) : JA w v xs W := by
  refine ⟨b.trans (j.b.mono b.size), j.o.1, ?_⟩
  have := b.size
  rcases j.o.2 with h2 | ⟨g, cap, cur, hv, hg, r⟩
  · exact Or.inl h2
  · exact Or.inr ⟨g, cap, cur, hv, by omega, r⟩
theorem JA.set {w W : World} {v : Value} {xs : List Int} (j : JA w v xs W) {B : Nat} (hB : w.heap.size ≤ B) (ne : v.ownBlock ≠ some B) (i : Nat) (y : Value) : JA w v xs (W.setCell ⟨B, i, none⟩ y) := by
  refine ⟨j.b.setCell hB _, j.o.1, ?_⟩
  rcases j.o.2 with h2 | ⟨g, cap, cur, hv, hg, hh, r⟩
  · exact Or.inl h2
  · refine Or.inr ⟨g, cap, cur, hv, hg, ?_, r⟩
    have hne : g ≠ B := fun e => ne (by rw [hv, e]; rfl)
    rw [Below.heap_setCell _ _ _ _ hne]; exact hh
/-- x lies apart from a list that has been appended to. -/
theorem OwnX.grown {W W' : World} {a : Option Addr} {B n : Nat} {zs : List Int} {row : Option Nat} {o : Obj} (h : OwnX W a B n zs) (hg : (W.alloc o).grownBy W' row) (hne : row ≠ some B) : OwnX W' a B n zs := by
  refine ⟨h.1, ?_⟩
  rcases h.2 with h0 | ⟨e, cur, hc, hv⟩
  · exact .inl h0
  · refine .inr ⟨e, cur, ?_, hv⟩
    have hl := hc.lt
    have h1 : Cel (W.alloc o) B cur 3 := hc.alloc o
    unfold Cel at *
    rw [hg.block B (by rw [World.size_alloc]; omega) (fun e => hne e.symm)]; exact h1
theorem Cel.grown {W W' : World} {B : Nat} {vs : List Value} {t : TypeId} {row : Option Nat} {o : Obj} (h : Cel W B vs t) (hg : (W.alloc o).grownBy W' row) (hne : row ≠ some B) : Cel W' B vs t := by
  have hl := h.lt
  have h1 : Cel (W.alloc o) B vs t := h.alloc o
  unfold Cel at *
  rw [hg.block B (by rw [World.size_alloc]; omega) (fun e => hne e.symm)]; exact h1

/-- While an act runs: the result's box, old memory, the pots, what was told. -/
structure SR (w w1 : World) (B : Nat) (v : Value) (x tl : List Int) (W : World) : Prop where
  rc : Cel W w.heap.size [.int .i64 0, .slice none 0 0] 36
  b : Below w.heap.size w W
  ox : OwnX W (some ⟨B, 0, none⟩) B 3 x
  j : JA w1 v tl W
  ne : v.ownBlock ≠ some B
theorem SR.below {w w1 W W' : World} {B : Nat} {v : Value} {x tl : List Int} (s : SR w w1 B v x tl W) (h : Below W.heap.size W W') : SR w w1 B v x tl W' := ⟨s.rc.below h, s.b.trans (h.mono s.b.size), s.ox.below h, s.j.below h, s.ne⟩
theorem SR.alloc {w w1 W : World} {B : Nat} {v : Value} {x tl : List Int} (s : SR w w1 B v x tl W) (o : Obj) : SR w w1 B v x tl (W.alloc o) := s.below ((Below.refl _ _).alloc (Nat.le_refl _) _)
theorem SR.set {w w1 W : World} {B : Nat} {v : Value} {x tl : List Int} (s : SR w w1 B v x tl W) (hw : w.heap.size < w1.heap.size) (hB : w1.heap.size ≤ B) {i : Nat} (hi : i < 3) (y : Int) : SR w w1 B v (x.set i y) tl (W.setCell ⟨B, i, none⟩ (.int .i64 y)) :=
  ⟨s.rc.setOther (by omega) _ _, s.b.setCell (by show w.heap.size ≤ B; omega) _, s.ox.set hi y, s.j.set hB s.ne _ _, s.ne⟩
theorem SR.app {w w1 W W' : World} {B : Nat} {v : Value} {x tl : List Int} {y : Int} {g cap k H : Nat} {o : Obj} (s : SR w w1 B v x tl W) (hw : w.heap.size < w1.heap.size) (hk : tl.length = k) (hown : W'.ownsRow w1.heap.size 3 1 (.slice (some ⟨g, 0, none⟩) (k + 1) cap) (k + 1) (tl.map (Value.int .i64) ++ [.int .i64 y])) (hg : (W.alloc o).grownBy W' v.ownBlock) (hat : v.ownBlock = some g ∨ g = H) (hH : B < H) :
    SR w w1 B (.slice (some ⟨g, 0, none⟩) (k + 1) cap) x (tl ++ [y]) W' := by
  have hv : ∀ z, v.ownBlock = some z → w1.heap.size ≤ z := fun z hz => (s.j.o.lt z hz).1
  refine ⟨s.rc.grown hg (fun e => by have := hv _ e; omega), (s.b.alloc s.b.size _).grown hg (by rw [World.size_alloc]; have := s.b.size; omega) (fun z hz => by have := hv z hz; omega), s.ox.grown hg s.ne, s.j.app hk hown hg, ?_⟩
  show some g ≠ some B
  intro e
  simp only [Option.some.injEq] at e
  rcases hat with h | h
  · exact s.ne (by rw [h, e])
  · omega

set_option maxHeartbeats 12800000 in
theorem srun_any (ad : Option Addr) (N cap : Nat) (ls : List LV) (v : Option Addr) (p cv : Nat) (V : List Int) (u : Option Addr) (q cu : Nat) (U : List Int) (w : World) (hN : ls.length = N) (hF : LinesG w ad ls) (hN1 : N ≤ 1048576) (hV : Ints w v p V) (hU : Ints w u q U) (hp : p ≤ 1048576) (hq : q ≤ 1048576) :
    Calls Tryd.prog 26 #[.slice ad N cap, .slice v p cv, .slice u q cu] w fun e w' => ResD w w' e (runCode N ls p V q U) (runTells N ls p V q U) (runPots N ls p V q U) := by
  have rc0 := Cel.new w [.int .i64 0, .slice none 0 0] 36
  have B0 : Below w.heap.size w (w.alloc (.cells #[.int .i64 0, .slice none 0 0] 36)) := (Below.refl _ _).alloc (Nat.le_refl _) _
  have HN : Hid (ls.length = N) := hN
  clear hN
  obtain ⟨i0, hi, hz0, hz1, hz2⟩ := info_parts Tryd.infoInt
  obtain ⟨rb, hrb⟩ : ∃ rb, rb = actB N ls := ⟨_, rfl⟩
  obtain ⟨vb, hvb⟩ : ∃ vb, vb = okN 3 10000 p V := ⟨_, rfl⟩
  obtain ⟨ub, hub⟩ : ∃ ub, ub = okN 2 9 q U := ⟨_, rfl⟩
  have HR : Hid (rb = actB N ls) := hrb
  have HV : Hid (vb = okN 3 10000 p V) := hvb
  have HU : Hid (ub = okN 2 9 q U) := hub
  clear hrb hvb hub
  go_enter Tryd.func26, Tryd.ntmps26
  go_wp2_with fail
  refine (sact_any _ _ _ ls _ HN.out (hF.below B0) hN1).mono ?_
  rintro e w1 ⟨rfl, b1⟩
  have rc1 := rc0.below b1
  have B1 := B0.trans (b1.mono B0.size)
  have hlt1 := rc1.lt
  rw [← HR.out]
  clear b1 rc0 B0
  obtain ⟨d0, d1, f0, f1⟩ := rc1.pair
  cases rb
  · have E : Hid _ := run_no (p := p) (q := q) (V := V) (U := U) (show runB N ls p V q U = false by rw [runB, ← HR.out]; rfl)
    go_wp2
    refine bodyPost_ret (v := .tuple #[resV 0 none 0 0, .slice (some ⟨w1.heap.size, 0, none⟩) 0 0]) (by simp [results, Tryd.results26, go_sem, d0, d1, hlt1]) rfl ?_
    obtain ⟨e1, e2, e3⟩ := E.out
    rw [e1, e2, e3]
    exact ⟨none, 0, 0, 0, _, 0, 0, 0, rfl, rfl, rfl, (((B1.setCell (by simp only []; omega) _).setCell (by simp only []; omega) _).alloc (by rw [size_setCell, size_setCell]; exact B1.size) _), OwnX.nil _ _ _, OwnX.nil _ _ _, fun h => by omega, fun h => by omega, fun h => by omega⟩
  go_wp2_with fail
  refine (sval_any _ _ _ V _ (hV.below B1) hp).mono ?_
  rintro e w2 ⟨rfl, hw2⟩
  rw [← HV.out, hw2]
  clear hw2
  cases vb
  · have E : Hid _ := run_no (p := p) (q := q) (V := V) (U := U) (show runB N ls p V q U = false by rw [runB, ← HR.out, ← HV.out]; rfl)
    go_wp2
    refine bodyPost_ret (v := .tuple #[resV 0 none 0 0, .slice (some ⟨w1.heap.size, 0, none⟩) 0 0]) (by simp [results, Tryd.results26, go_sem, d0, d1, hlt1]) rfl ?_
    obtain ⟨e1, e2, e3⟩ := E.out
    rw [e1, e2, e3]
    exact ⟨none, 0, 0, 0, _, 0, 0, 0, rfl, rfl, rfl, (((B1.setCell (by simp only []; omega) _).setCell (by simp only []; omega) _).alloc (by rw [size_setCell, size_setCell]; exact B1.size) _), OwnX.nil _ _ _, OwnX.nil _ _ _, fun h => by omega, fun h => by omega, fun h => by omega⟩
  go_wp2_with fail
  refine (sarg_any _ _ _ U _ (hU.below B1) hq).mono ?_
  rintro e w2 ⟨rfl, hw2⟩
  rw [← HU.out, hw2]
  clear hw2
  cases ub
  · have E : Hid _ := run_no (p := p) (q := q) (V := V) (U := U) (show runB N ls p V q U = false by rw [runB, ← HR.out, ← HV.out, ← HU.out]; rfl)
    go_wp2
    refine bodyPost_ret (v := .tuple #[resV 0 none 0 0, .slice (some ⟨w1.heap.size, 0, none⟩) 0 0]) (by simp [results, Tryd.results26, go_sem, d0, d1, hlt1]) rfl ?_
    obtain ⟨e1, e2, e3⟩ := E.out
    rw [e1, e2, e3]
    exact ⟨none, 0, 0, 0, _, 0, 0, 0, rfl, rfl, rfl, (((B1.setCell (by simp only []; omega) _).setCell (by simp only []; omega) _).alloc (by rw [size_setCell, size_setCell]; exact B1.size) _), OwnX.nil _ _ _, OwnX.nil _ _ _, fun h => by omega, fun h => by omega, fun h => by omega⟩
  have HB : Hid (runB N ls p V q U = true) := by show _ = _; rw [runB, ← HR.out, ← HV.out, ← HU.out]; rfl
  obtain ⟨h6, hall⟩ := actB_six HR.out.symm
  have HO : Hid (ls.all LV.ok = true) := hall
  obtain ⟨rfl, bV⟩ := okN_nat (c := 3) (by omega) HV.out.symm
  obtain ⟨rfl, bU⟩ := okN_nat (c := 2) (by omega) HU.out.symm
  have HVL : Hid (V.length = 3) := hV.1
  have hV1 := hV.below B1
  obtain ⟨vb, vo, rfl, hcell⟩ := hV1.pos (by omega)
  have HL : Hid ((V.map (Value.int .i64)).length = 3 * 1) := by show _ = _; rw [List.length_map, hV.1]
  have news : ∀ W : World, Below w.heap.size w W → ∀ j u, (V.map (Value.int .i64))[j]? = some u → (W.alloc (.cells #[] 3)).cell? ((⟨vb, vo, none⟩ : Addr).add j) = some u := fun W hW => by
    obtain ⟨b', o', e', hc'⟩ := (hV.below (hW.alloc hW.size (.cells #[] 3))).pos (by omega)
    simp only [Option.some.injEq, Addr.mk.injEq, and_true] at e'
    obtain ⟨rfl, rfl⟩ := e'
    exact newsI hc' hV.1
  have HNW : Hid _ := news
  have HC : Hid _ := news w1 B1
  have HJ : Hid _ := (JA.lit w1).o
  have hAt0 : At U ls V 0 V [] := At.start bV HVL.out
  have HAT : Hid (At U ls V 0 V []) := hAt0
  clear hcell hall news hV1 hAt0
  go_wp2_with (at_builtin; go_must (refine wpList_append_lies _ rfl (.tmp 27) (.tmp 28) 23 rfl w1.heap.size 3 i0 (.int .i64 0) 1 8 Tryd.underlying23 hi hz0 hz1 hz2 rfl (by decide) _ 0 [] rfl HJ.out ⟨vb, vo, none⟩ 3 cv (V.map (Value.int .i64)) rfl HL.out HC.out (oneI _) (by omega) (by unfold maxLen; omega) (by omega) (by rw [World.size_alloc]; omega) _ rfl ?_); intro g2 cp2 w2 hown hgrow hat hlt2)
  have j := JA.copied HVL.out hown hgrow
  obtain ⟨x0, cx, B, hv2, hX, hB⟩ := j.ownx HVL.out
  simp only [Value.slice.injEq, true_and] at hv2
  obtain ⟨rfl, rfl⟩ := hv2
  obtain ⟨eB, _, _⟩ := hX.pos (by omega)
  simp only [Option.some.injEq, Addr.mk.injEq, and_true] at eB
  subst eB
  have hB' := hB (by omega)
  have s2 : SR w w1 g2 (.slice (some ⟨w2.heap.size, 0, none⟩) 0 0) V [] (w2.alloc (.cells #[] 3)) := by
    refine ⟨(rc1.below j.b).alloc _, (B1.trans (j.b.mono B1.size)).alloc (by have := B1.size; have := j.b.size; omega) _, hX.alloc _, (JA.lit w2).rebase j.b, ?_⟩
    show some w2.heap.size ≠ some g2
    intro e
    simp only [Option.some.injEq] at e
    have := hX.lt (by omega)
    omega
  clear j hX hB hown hgrow hat HC HL HJ d0 d1 f0 f1 rc1
  go_wp2_with fail
  go_loopw [9, 10, 11] (fun r i _ wr => ∃ (k : Nat) (x tl : List Int), k ≤ 12 ∧ i = .int .i64 k ∧ At U ls V k x tl ∧ SR w w1 g2 r x tl wr) (fun _ i _ _ => N - (intOf i).toNat)
  case atStart => exact ⟨0, V, [], by omega, rfl, HAT.out, s2⟩
  case round =>
    clear s2 HAT
    obtain ⟨k, x, tl, hk12, rfl, hAt, s⟩ := hrel
    have HAT : Hid (At U ls V k x tl) := hAt
    clear hAt
    have hVr := hV.below s.b
    have hUr := hU.below s.b
    have lB := s.ox.lt (by omega)
    by_cases hlt : k < N
    · obtain ⟨b, off, rfl, hc, hAtL⟩ := (hF.below s.b) k (by rw [HN.out]; exact hlt)
      have hok := allL_at (k := k) HO.out (by rw [HN.out]; exact hlt)
      have hkl : Hid (k < ls.length) := by show k < ls.length; rw [HN.out]; exact hlt
      have h6l : Hid (ls.length ≤ 6) := by show ls.length ≤ 6; rw [HN.out]; exact h6
      have bX := HAT.out.b (by omega)
      have bd6 := bd_six (n := k) (by omega)
      have bdp := bd_pos k
      generalize HG : ls[k]?.getD noLV = g at *
      have HG' : Hid (ls[k]?.getD noLV = g) := HG
      clear HG
      obtain ⟨e0, e1, e2, e3, e4, e5⟩ := six_of hc
      clear hc
      obtain ⟨gk, gp, gz, ⟨ga, gn, gcap, gc, gm, gcap', gK, gC, gD⟩⟩ := g
      obtain ⟨iC, iD, hn, hm⟩ := hAtL
      simp only at e0 e1 e2 e3 e4 e5 iC iD hn hm
      have hok' : lineB gk gp gz gn gm gC gD gK = true := hok
      clear hok
      by_cases hk1 : gk = 1
      · subst hk1
        obtain ⟨z1, z2, hsm⟩ := line_one hok'
        obtain ⟨rfl, rfl, bC, bD, bK1, bK2⟩ := small_elim hsm
        obtain ⟨q1, q2, q3, q4⟩ := small_at bC bD bK1 bK2 bX bU (by omega)
        obtain ⟨y, hy⟩ : ∃ y, atV gC gD gK x U = y := ⟨_, rfl⟩
        have HY : Hid (atV gC gD gK x U = y) := hy
        have HS : Hid (∀ j, (j = if y < 0 then k + 1 + gz.toNat else k + 1) → At U ls V j x tl) := fun j hj => HAT.out.skip hkl.out h6l.out HG'.out rfl (by rw [hj, ← hy]; rfl)
        clear hy hok' hsm bX q3 q4
        by_cases hneg : y < 0
        · go_wp2_with fail
          refine (satG_any _ _ _ _ _ gC gD _ _ _ _ x U _ (iC.alloc _) (iD.alloc _) (s.ox.alloc _).ints (hUr.alloc _) _ _ q1 q2 (by omega) (by omega) (by omega) (by omega) ⟨by omega, by omega⟩).mono ?_
          rintro e w3 ⟨rfl, b3⟩
          rw [HY.out]
          obtain ⟨m0, m1, m2, m3, m4, m5⟩ := ((Cel.new wr _ _).below b3).six
          have s3 := (s.alloc _).below b3
          clear b3 s iC iD e0 e1 e2 e3 e4 e5 q1 q2 hVr hUr
          go_wp2
          go_roundw
          case rel => exact ⟨k + 1 + gz.toNat, x, tl, by omega, by go_num, HS.out _ (by rw [if_pos hneg]), s3⟩
          case measure => simp [intOf]; omega
        · go_wp2_with fail
          refine (satG_any _ _ _ _ _ gC gD _ _ _ _ x U _ (iC.alloc _) (iD.alloc _) (s.ox.alloc _).ints (hUr.alloc _) _ _ q1 q2 (by omega) (by omega) (by omega) (by omega) ⟨by omega, by omega⟩).mono ?_
          rintro e w3 ⟨rfl, b3⟩
          rw [HY.out]
          have s3 := (s.alloc _).below b3
          clear b3 s iC iD e0 e1 e2 e3 e4 e5 q1 q2 hVr hUr
          go_wp2
          go_roundw
          case rel => exact ⟨k + 1, x, tl, by omega, by go_num, HS.out _ (by rw [if_neg (by omega)]), s3⟩
          case measure => simp [intOf]; omega
      · have hk1' : (gk == 1) = false := by simp [hk1]
        by_cases hk2 : gk = 2
        · subst hk2
          obtain ⟨z1, z2, hsm⟩ := line_two hok'
          obtain ⟨rfl, rfl, bC, bD, bK1, bK2⟩ := small_elim hsm
          obtain ⟨q1, q2, q3, q4⟩ := small_at bC bD bK1 bK2 bX bU (by omega)
          obtain ⟨pn, rfl⟩ := Int.eq_ofNat_of_zero_le z1
          have hpn : pn < 3 := by omega
          obtain ⟨xp, hxp⟩ : ∃ xp, x[pn]?.getD 0 = xp := ⟨_, rfl⟩
          have HXP : Hid (x[pn]?.getD 0 = xp) := hxp
          obtain ⟨r1, r2⟩ := bX pn
          rw [hxp] at r1 r2
          obtain ⟨y, hy⟩ : ∃ y, atV gC gD gK x U = y := ⟨_, rfl⟩
          have HY : Hid (atV gC gD gK x U = y) := hy
          rw [hy] at q3 q4
          have HS : Hid (At U ls V (k + 1) (x.set pn (xp + y)) tl) := by
            have := HAT.out.add hkl.out h6l.out HG'.out rfl (by show _ ≤ atV gC gD gK x U; rw [hy]; omega) (by show atV gC gD gK x U ≤ _; rw [hy]; omega)
            simp only [Int.toNat_natCast, hxp] at this
            rw [show atF x U ⟨ga, 3, gcap, gc, 2, gcap', gK, gC, gD⟩ = y from hy] at this
            exact this
          clear hy hxp hok' hsm bX
          have cellp : ∀ W, OwnX W (some ⟨g2, 0, none⟩) g2 3 x → W.cell? ⟨g2, pn, none⟩ = some (.int .i64 xp) ∧ W.frozen? ⟨g2, pn, none⟩ = false := fun W hW => by
            obtain ⟨_, h1, h2⟩ := hW.pos (by omega)
            exact ⟨by rw [h1 pn hpn, HXP.out], h2 pn⟩
          have CP : Hid _ := cellp
          clear cellp
          have sa := s.alloc (.cells #[.int .i64 2, .int .i64 (pn : Int), .int .i64 gz, .slice ga 3 gcap, .slice gc 2 gcap', .int .i64 gK] 94)
          have bxa := Cel.new wr [.int .i64 2, .int .i64 (pn : Int), .int .i64 gz, .slice ga 3 gcap, .slice gc 2 gcap', .int .i64 gK] 94
          have ia := iC.alloc (.cells #[.int .i64 2, .int .i64 (pn : Int), .int .i64 gz, .slice ga 3 gcap, .slice gc 2 gcap', .int .i64 gK] 94)
          have ib := iD.alloc (.cells #[.int .i64 2, .int .i64 (pn : Int), .int .i64 gz, .slice ga 3 gcap, .slice gc 2 gcap', .int .i64 gK] 94)
          have ua := hUr.alloc (.cells #[.int .i64 2, .int .i64 (pn : Int), .int .i64 gz, .slice ga 3 gcap, .slice gc 2 gcap', .int .i64 gK] 94)
          have hpn' : (pn : Int) < 3 := by omega
          go_upto_region 15 with fail
          obtain ⟨Wa, hWa⟩ : ∃ Wa, Wa = wr.alloc (.cells #[.int .i64 2, .int .i64 (pn : Int), .int .i64 gz, .slice ga 3 gcap, .slice gc 2 gcap', .int .i64 gK] 94) := ⟨_, rfl⟩
          rw [← hWa] at sa bxa ia ib ua ⊢
          clear hWa s iC iD e0 e1 e2 e3 e4 e5 hVr hUr
          obtain ⟨ck, fk⟩ := CP.out Wa sa.ox
          obtain ⟨m0, m1, m2, m3, m4, m5⟩ := bxa.six
          have hSS : (Wa.drew.cell? ⟨wr.heap.size, 1, none⟩ = some (.int .i64 (pn : Int)) ∧ Wa.drew.cell? ⟨wr.heap.size, 3, none⟩ = some (.slice ga 3 gcap) ∧ Wa.drew.cell? ⟨wr.heap.size, 4, none⟩ = some (.slice gc 2 gcap') ∧ Wa.drew.cell? ⟨wr.heap.size, 5, none⟩ = some (.int .i64 gK)) ∧ Wa.drew.cell? ⟨g2, pn, none⟩ = some (.int .i64 xp) := ⟨⟨m1, m3, m4, m5⟩, ck⟩
          refine wp_region_ends (fun w' => w'.cell? ⟨wr.heap.size, 1, none⟩ = some (.int .i64 (pn : Int)) ∧ w'.cell? ⟨wr.heap.size, 3, none⟩ = some (.slice ga 3 gcap) ∧ w'.cell? ⟨wr.heap.size, 4, none⟩ = some (.slice gc 2 gcap') ∧ w'.cell? ⟨wr.heap.size, 5, none⟩ = some (.int .i64 gK)) (fun w' => w'.cell? ⟨g2, pn, none⟩ = some (.int .i64 xp)) 14 (by kernel_rfl) ?_
          refine wpAnyE_take0 (i := 0) (v := ?v0) rfl (by kernel_rfl) (by kernel_rfl) (by kernel_rfl) (by decide) (fun _ _ _ h => h) (Or.inl ⟨by rfl, ?hy0⟩) hSS ?_
          case hy0 => (intro wz hSw; (try dsimp only at hSw); go_simp; try (with_reducible rfl))
          refine wpAnyE_take0 (i := 1) (v := ?v1) rfl (by kernel_rfl) (by kernel_rfl) (by kernel_rfl) (by decide) (fun _ _ _ h => h) (Or.inl ⟨by rfl, ?hy1⟩) hSS ?_
          case hy1 => (intro wz hSw; (try dsimp only at hSw); go_simp; try (with_reducible rfl))
          refine wpAnyE_take0 (i := 2) (v := ?v2) rfl (by kernel_rfl) (by kernel_rfl) (by kernel_rfl) (by decide) (fun _ _ _ h => h) (Or.inl ⟨by rfl, ?hy2⟩) hSS ?_
          case hy2 => (intro wz hSw; (try dsimp only at hSw); go_simp; try (with_reducible rfl))
          refine wpAnyE_take0 (i := 3) (v := ?v3) rfl (by kernel_rfl) (by kernel_rfl) (by kernel_rfl) (by decide) (fun _ _ _ h => h) (Or.inl ⟨by rfl, ?hy3⟩) hSS ?_
          case hy3 => (intro wz hSw; (try dsimp only at hSw); go_simp; try (with_reducible rfl))
          refine wpAnyE_take0 (i := 4) (v := ?v4) rfl (by kernel_rfl) (by kernel_rfl) (by kernel_rfl) (by decide) (fun _ _ _ h => h) (Or.inl ⟨by rfl, ?hy4⟩) hSS ?_
          case hy4 => (intro wz hSw; (try dsimp only at hSw); go_simp; try (with_reducible rfl))
          refine wpAnyE_take0 (i := 5) (v := ?v5) rfl (by kernel_rfl) (by kernel_rfl) (by kernel_rfl) (by decide) (fun _ _ _ h => h) (Or.inl ⟨by rfl, ?hy5⟩) hSS ?_
          case hy5 => (intro wz hSw; (try dsimp only at hSw); go_simp; try (with_reducible rfl))
          refine wpAnyE_take0 (i := 6) (v := ?v6) rfl (by kernel_rfl) (by kernel_rfl) (by kernel_rfl) (by decide) (fun _ _ _ h => h) (Or.inl ⟨by rfl, ?hy6⟩) hSS ?_
          case hy6 => (intro wz hSw; (try dsimp only at hSw); go_simp; try (with_reducible rfl))
          refine wpAnyE_take1 (i := 7) (v := ?v7) rfl rfl (by kernel_rfl) (by kernel_rfl) (by kernel_rfl) (by decide) (by rfl) (by simp [Region.binds]) (fun _ _ _ h => h) (Or.inl ⟨by rfl, ?hy7⟩) hSS ?_
          case hy7 => (intro wz hSw; (try dsimp only at hSw); go_simp; try (with_reducible rfl))
          refine wpAnyE_take0 (i := 8) (v := ?v8) rfl (by kernel_rfl) (by kernel_rfl) (by kernel_rfl) (by decide) (fun _ _ _ h => h) (Or.inl ⟨by rfl, ?hy8⟩) hSS ?_
          case hy8 => (intro wz hSw; (try dsimp only at hSw); go_simp; try (with_reducible rfl))
          refine wpAnyE_take0 (i := 9) (v := ?v9) rfl (by kernel_rfl) (by kernel_rfl) (by kernel_rfl) (by decide) (fun _ _ _ h => h) (Or.inl ⟨by rfl, ?hy9⟩) hSS ?_
          case hy9 => (intro wz hSw; (try dsimp only at hSw); go_simp; try (with_reducible rfl))
          refine wpAnyE_take0 (i := 10) (v := ?v10) rfl (by kernel_rfl) (by kernel_rfl) (by kernel_rfl) (by decide) (fun _ _ _ h => h) (Or.inl ⟨by rfl, ?hy10⟩) hSS ?_
          case hy10 => (intro wz hSw; (try dsimp only at hSw); go_simp; try (with_reducible rfl))
          refine wpAnyE_take0 (i := 11) (v := ?v11) rfl (by kernel_rfl) (by kernel_rfl) (by kernel_rfl) (by decide) (fun _ _ _ h => h) (Or.inl ⟨by rfl, ?hy11⟩) hSS ?_
          case hy11 => (intro wz hSw; (try dsimp only at hSw); go_simp; try (with_reducible rfl))
          refine wpAnyE_one (i := 12) (by kernel_rfl) rfl (fun K hK => ?_)
          go_simp
          refine (satG_any _ _ _ _ _ gC gD _ _ _ _ x U _ (ia.below (Below.refl _ _).drew) (ib.below (Below.refl _ _).drew) (sa.ox.ints.below (Below.refl _ _).drew) (ua.below (Below.refl _ _).drew) _ _ q1 q2 (by omega) (by omega) (by omega) (by omega) ⟨by omega, by omega⟩).mono ?_
          rintro ee w3 ⟨rfl, b3⟩
          rw [HY.out]
          have b3' := below_of_drew b3
          obtain ⟨ck3, fk3⟩ := CP.out w3 (sa.ox.below b3')
          have bx3 := bxa.below b3'
          obtain ⟨n0, n1, n2, n3, n4, n5⟩ := bx3.six
          have hSS3 := And.intro (And.intro n1 (And.intro n3 (And.intro n4 n5))) ck3
          obtain ⟨o0, o1, o2, o3, o4, o5⟩ := (bx3.setOther (show wr.heap.size ≠ g2 by omega) pn (.int .i64 (xp + y))).six
          have hSS4 := And.intro o1 (And.intro o3 (And.intro o4 o5))
          have s3 := (sa.below b3').set (i := pn) hlt1 hB' hpn (xp + y)
          have hwr : IntKind.i64.wrap (xp + y) = xp + y := wrap_id (by omega) (by omega)
          dsimp only
          refine hK.out _ _ ⟨hSS3.1, fun _ => hSS3.2⟩ ?_
          clear hK K hSS
          refine wpAnyE_take0 (i := 13) (v := ?v13) rfl (by kernel_rfl) (by kernel_rfl) (by kernel_rfl) (by decide) (fun _ _ _ h => h) (Or.inl ⟨by rfl, ?hy13⟩) hSS3 ?_
          case hy13 => (intro wz hSw; (try dsimp only at hSw); go_simp; try (with_reducible rfl))
          refine wpAnyE_one (i := 14) (by kernel_rfl) rfl (fun K hK => ?_)
          go_simp
          refine hK.out _ _ ⟨hSS3.1, fun _ => hSS3.2⟩ ?_
          clear hK K
          refine wpAnyE_one (i := 15) (by kernel_rfl) rfl (fun K hK => ?_)
          go_simp
          refine hK.out _ _ ⟨hSS4, fun h => absurd (show true = false from h) (by decide)⟩ ?_
          clear hK K
          refine wpAnyE_done (by kernel_rfl) ?_ _
          clear b3 b3' sa bxa ia ib ua bx3 hSS3 hSS4 ck fk ck3 fk3 m0 m1 m2 m3 m4 m5 n0 n1 n2 n3 n4 n5 o0 o1 o2 o3 o4 o5
          go_wp2
          go_roundw
          case rel => exact ⟨k + 1, _, tl, by omega, by go_num, HS.out, s3⟩
          case measure => simp [intOf]; omega
        · have hk2' : (gk == 2) = false := by simp [hk2]
          by_cases hk3 : gk = 3
          · subst hk3
            have hsm := line_three hok'
            obtain ⟨rfl, rfl, bC, bD, bK1, bK2⟩ := small_elim hsm
            obtain ⟨q1, q2, q3, q4⟩ := small_at bC bD bK1 bK2 bX bU (by omega)
            obtain ⟨y, hy⟩ : ∃ y, atV gC gD gK x U = y := ⟨_, rfl⟩
            have HY : Hid (atV gC gD gK x U = y) := hy
            have HS : Hid (At U ls V (k + 1) x (tl ++ [y])) := by
              have := HAT.out.tell hkl.out h6l.out HG'.out rfl
              rw [show atF x U ⟨ga, 3, gcap, gc, 2, gcap', gK, gC, gD⟩ = y from hy] at this
              exact this
            have ht := HAT.out.t
            obtain ⟨tn, htn⟩ : ∃ tn, tl.length = tn := ⟨_, rfl⟩
            have HTN : Hid (tl.length = tn) := htn
            rw [htn] at ht
            clear hy hok' hsm bX q3 q4 htn
            go_wp2_with fail
            refine (satG_any _ _ _ _ _ gC gD _ _ _ _ x U _ (iC.alloc _) (iD.alloc _) (s.ox.alloc _).ints (hUr.alloc _) _ _ q1 q2 (by omega) (by omega) (by omega) (by omega) ⟨by omega, by omega⟩).mono ?_
            rintro e w3 ⟨rfl, b3⟩
            rw [HY.out]
            have s3 := (s.alloc _).below b3
            have jo := s3.j.o
            rw [HTN.out] at jo
            have hjb := s3.j.b.size
            have lB3 := s3.ox.lt (by omega)
            clear b3 s iC iD e0 e1 e2 e3 e4 e5 q1 q2 hVr hUr
            go_wp2_with (at_builtin; go_must (refine wpList_append_lies _ rfl (.tmp 78) (.tmp 84) 23 rfl w1.heap.size 3 i0 (.int .i64 0) 1 8 Tryd.underlying23 hi hz0 hz1 hz2 rfl (by decide) _ _ _ rfl (jo.alloc _) ⟨w3.heap.size, 0, none⟩ 1 1 [.int .i64 y] rfl rfl (news1 _ _ _) (one1 _ _) (by omega) (by unfold maxLen; omega) (by omega) (by rw [World.size_alloc]; omega) _ rfl ?_); intro g4 cp4 w4 hown hgrow hat hlt4)
            have s4 := s3.app hlt1 HTN.out hown hgrow hat (by rw [World.size_alloc]; omega)
            clear hown hgrow jo s3 hat
            go_wp2
            go_roundw
            case rel => exact ⟨k + 1, x, tl ++ [y], by omega, by go_num, HS.out, s4⟩
            case measure => simp [intOf]; omega
          · have hk3' : (gk == 3) = false := by simp [hk3]
            have E : Hid _ := run_stop HB.out (HAT.out.stop hkl.out h6l.out HG'.out hk1 hk2 hk3)
            clear bX hok'
            have sa := s.alloc (.cells #[.int .i64 gk, .int .i64 gp, .int .i64 gz, .slice ga gn gcap, .slice gc gm gcap', .int .i64 gK] 94)
            go_upto_region 10 with fail
            obtain ⟨Wa, hWa⟩ : ∃ Wa, Wa = wr.alloc (.cells #[.int .i64 gk, .int .i64 gp, .int .i64 gz, .slice ga gn gcap, .slice gc gm gcap', .int .i64 gK] 94) := ⟨_, rfl⟩
            rw [← hWa] at sa ⊢
            clear hWa s iC iD e0 e1 e2 e3 e4 e5 hVr hUr
            have HL : Hid ((V.map (Value.int .i64)).length = 3 * 1) := by show _ = _; rw [List.length_map, HVL.out]
            have HC : Hid _ := HNW.out Wa sa.b
            have HJ : Hid _ := (JA.lit Wa).o
            have hwa := sa.rc.lt
            go_wp2_with (at_builtin; go_must (refine wpList_append_lies _ rfl (.tmp 44) (.tmp 45) 23 rfl Wa.heap.size 3 i0 (.int .i64 0) 1 8 Tryd.underlying23 hi hz0 hz1 hz2 rfl (by decide) _ 0 [] rfl HJ.out ⟨vb, vo, none⟩ 3 cv (V.map (Value.int .i64)) rfl HL.out HC.out (oneI _) (by omega) (by unfold maxLen; omega) (by omega) (by rw [World.size_alloc]; omega) _ rfl ?_); intro g5 cp5 w5 hown hgrow hat hlt5; have j := JA.copied HVL.out hown hgrow; have rc5 := sa.rc.below j.b; obtain ⟨d0, d1, f0, f1⟩ := rc5.pair; have hlt6 := rc5.lt; clear hown hgrow hat)
            obtain ⟨x5, cx5, B5, hv5, hX5, hB5⟩ := j.ownx HVL.out
            simp only [Value.slice.injEq, true_and] at hv5
            obtain ⟨rfl, rfl⟩ := hv5
            have bb := sa.b.trans (j.b.mono sa.b.size)
            refine bodyPost_ret (v := .tuple #[resV 2 none 0 0, .slice (some ⟨g5, 0, none⟩) 3 cp5]) (by simp [results, Tryd.results26, go_sem, d0, d1]) rfl ?_
            obtain ⟨e1, e2, e3⟩ := E.out
            rw [e1, e2, e3]
            refine ⟨none, 0, 0, 0, some ⟨g5, 0, none⟩, 3, cp5, B5, rfl, rfl, HVL.out, ?_, OwnX.nil _ _ _, ?_, fun h => by omega, fun h => by have := hB5 h; have := sa.b.size; omega, fun h => by omega⟩
            · exact (bb.setCell (Nat.le_refl _) _).setCell (Nat.le_refl _) _
            · exact (hX5.setOther (fun h => by have := hB5 h; omega) _ _).setOther (fun h => by have := hB5 h; omega) _ _
    · have E : Hid _ := run_go HB.out (HAT.out.done (by rw [HN.out]; omega))
      obtain ⟨tn, htn⟩ : ∃ tn, tl.length = tn := ⟨_, rfl⟩
      have HTN : Hid (tl.length = tn) := htn
      obtain ⟨ta, ctt, BT, hv, hT, hBT⟩ := s.j.ownx HTN.out
      have hne : 0 < tn → BT ≠ g2 := fun h0 e => by
        obtain ⟨e1, _, _⟩ := hT.pos h0
        exact s.ne (by rw [hv, e1, e]; rfl)
      have ox := s.ox
      have sb := s.b
      have rc := s.rc
      clear htn
      subst hv
      clear s
      go_wp2_with fail
      refine (end_any _ _ _ _ g2 _ _ _ BT V x tl _ hVr ox hT hne (w.heap.size + 1) (fun h => by have := hBT h; omega) (by omega) (by have := rc.lt; omega)).mono ?_
      rintro e w6 ⟨ra, rn, rcap, RB1, pb, pm, pcap, RB2, rfl, L1, L2, b6, O1, O2, y1, y2, y3⟩
      have rc6 := rc.below b6
      have b66 := sb.trans (b6.mono sb.size)
      have hlt6 := rc6.lt
      obtain ⟨d0, d1, f0, f1⟩ := rc6.pair
      clear rc6 rc sb ox hT hVr hUr
      go_wp2
      refine bodyPost_ret (v := .tuple #[resV (endCode x) ra rn rcap, .slice pb pm pcap]) (by simp [results, Tryd.results26, go_sem, d0, d1]) rfl ?_
      obtain ⟨e1, e2, e3⟩ := E.out
      rw [e1, e2, e3]
      refine ⟨ra, rn, rcap, RB1, pb, pm, pcap, RB2, rfl, L1, L2, ?_, ?_, ?_, fun h => by have := y1 h; omega, fun h => by have := y2 h; omega, y3⟩
      · exact (b66.setCell (Nat.le_refl _) _).setCell (Nat.le_refl _) _
      · exact (O1.setOther (fun h => by have := y1 h; omega) _ _).setOther (fun h => by have := y1 h; omega) _ _
      · exact (O2.setOther (fun h => by have := y2 h; omega) _ _).setOther (fun h => by have := y2 h; omega) _ _

end Go.Proofs.YtfkcfjkojfnfnaaDoor
namespace Go.Proofs.YtfkcfjkojfnfnaaDoor
open Go.RowKit
set_option linter.unusedVariables false
set_option maxRecDepth 100000

theorem as_testStep_testStep (v : Value) (w : World) : (Instr.typeAssert (.iface 147 v) 124 147 true).run Tryd.prog w = .ok (.tuple #[v, .bool true]) w := by kernel_rfl
theorem as_testStep_addStep (v : Value) (w : World) : (Instr.typeAssert (.iface 147 v) 124 149 true).run Tryd.prog w = .ok (.tuple #[.agg #[.int .i64 0, .slice none 0 0, .slice none 0 0, .int .i64 0], .bool false]) w := by kernel_rfl
theorem as_testStep_printStep (v : Value) (w : World) : (Instr.typeAssert (.iface 147 v) 124 151 true).run Tryd.prog w = .ok (.tuple #[.agg #[.slice none 0 0, .slice none 0 0, .int .i64 0], .bool false]) w := by kernel_rfl
theorem as_testStep_stopStep (v : Value) (w : World) : (Instr.typeAssert (.iface 147 v) 124 152 true).run Tryd.prog w = .ok (.tuple #[.agg #[], .bool false]) w := by kernel_rfl
theorem as_addStep_testStep (v : Value) (w : World) : (Instr.typeAssert (.iface 149 v) 124 147 true).run Tryd.prog w = .ok (.tuple #[.agg #[.int .i64 0, .slice none 0 0, .slice none 0 0, .int .i64 0], .bool false]) w := by kernel_rfl
theorem as_addStep_addStep (v : Value) (w : World) : (Instr.typeAssert (.iface 149 v) 124 149 true).run Tryd.prog w = .ok (.tuple #[v, .bool true]) w := by kernel_rfl
theorem as_addStep_printStep (v : Value) (w : World) : (Instr.typeAssert (.iface 149 v) 124 151 true).run Tryd.prog w = .ok (.tuple #[.agg #[.slice none 0 0, .slice none 0 0, .int .i64 0], .bool false]) w := by kernel_rfl
theorem as_addStep_stopStep (v : Value) (w : World) : (Instr.typeAssert (.iface 149 v) 124 152 true).run Tryd.prog w = .ok (.tuple #[.agg #[], .bool false]) w := by kernel_rfl
theorem as_printStep_testStep (v : Value) (w : World) : (Instr.typeAssert (.iface 151 v) 124 147 true).run Tryd.prog w = .ok (.tuple #[.agg #[.int .i64 0, .slice none 0 0, .slice none 0 0, .int .i64 0], .bool false]) w := by kernel_rfl
theorem as_printStep_addStep (v : Value) (w : World) : (Instr.typeAssert (.iface 151 v) 124 149 true).run Tryd.prog w = .ok (.tuple #[.agg #[.int .i64 0, .slice none 0 0, .slice none 0 0, .int .i64 0], .bool false]) w := by kernel_rfl
theorem as_printStep_printStep (v : Value) (w : World) : (Instr.typeAssert (.iface 151 v) 124 151 true).run Tryd.prog w = .ok (.tuple #[v, .bool true]) w := by kernel_rfl
theorem as_printStep_stopStep (v : Value) (w : World) : (Instr.typeAssert (.iface 151 v) 124 152 true).run Tryd.prog w = .ok (.tuple #[.agg #[], .bool false]) w := by kernel_rfl
theorem as_stopStep_testStep (v : Value) (w : World) : (Instr.typeAssert (.iface 152 v) 124 147 true).run Tryd.prog w = .ok (.tuple #[.agg #[.int .i64 0, .slice none 0 0, .slice none 0 0, .int .i64 0], .bool false]) w := by kernel_rfl
theorem as_stopStep_addStep (v : Value) (w : World) : (Instr.typeAssert (.iface 152 v) 124 149 true).run Tryd.prog w = .ok (.tuple #[.agg #[.int .i64 0, .slice none 0 0, .slice none 0 0, .int .i64 0], .bool false]) w := by kernel_rfl
theorem as_stopStep_printStep (v : Value) (w : World) : (Instr.typeAssert (.iface 152 v) 124 151 true).run Tryd.prog w = .ok (.tuple #[.agg #[.slice none 0 0, .slice none 0 0, .int .i64 0], .bool false]) w := by kernel_rfl
theorem as_stopStep_stopStep (v : Value) (w : World) : (Instr.typeAssert (.iface 152 v) 124 152 true).run Tryd.prog w = .ok (.tuple #[v, .bool true]) w := by kernel_rfl

set_option maxHeartbeats 800000 in
theorem leave_stop (Dd : Nat) (w : World) :
    Calls Tryd.prog 93 #[.pointer (some ⟨Dd, 0, none⟩), .iface 152 (.agg #[])] w fun e w' => e = .panicked [{ v := .iface 129 (.agg #[]), recovered := false }] ∧ Below w.heap.size w w' := by
  have h1 := as_stopStep_testStep
  have h2 := as_stopStep_addStep
  have h3 := as_stopStep_printStep
  have h4 := as_stopStep_stopStep
  go_enter Tryd.func93, Tryd.ntmps93
  go_wp2
  exact ⟨rfl, rfl, (Below.refl _ _).alloc (Nat.le_refl _) _⟩

/-- While the program runs an act: old memory, what it does it with, the pots, what was told. -/
structure DR (w1 : World) (Dd B cp : Nat) (ua : Option Addr) (cu : Nat) (v : Value) (x tl : List Int) (W : World) : Prop where
  b : Below w1.heap.size w1 W
  d : Cel W Dd [.slice (some ⟨B, 0, none⟩) 3 cp, .slice ua 2 cu, v] 90
  ox : OwnX W (some ⟨B, 0, none⟩) B 3 x
  j : JA w1 v tl W
  ne : v.ownBlock ≠ some B
  nd : v.ownBlock ≠ some Dd

section
variable {w1 W W' : World} {Dd B cp : Nat} {ua : Option Addr} {cu : Nat} {v : Value} {x tl : List Int}
theorem DR.below (s : DR w1 Dd B cp ua cu v x tl W) (h : Below W.heap.size W W') : DR w1 Dd B cp ua cu v x tl W' := ⟨s.b.trans (h.mono s.b.size), s.d.below h, s.ox.below h, s.j.below h, s.ne, s.nd⟩
theorem DR.alloc (s : DR w1 Dd B cp ua cu v x tl W) (o : Obj) : DR w1 Dd B cp ua cu v x tl (W.alloc o) := s.below ((Below.refl _ _).alloc (Nat.le_refl _) _)
theorem DR.set (s : DR w1 Dd B cp ua cu v x tl W) (hB : w1.heap.size ≤ B) (hDB : Dd ≠ B) {i : Nat} (hi : i < 3) (y : Int) : DR w1 Dd B cp ua cu v (x.set i y) tl (W.setCell ⟨B, i, none⟩ (.int .i64 y)) :=
  ⟨s.b.setCell hB _, s.d.setOther hDB _ _, s.ox.set hi y, s.j.set hB s.ne _ _, s.ne, s.nd⟩
theorem DR.app {y : Int} {g cap k H : Nat} {o : Obj} (s : DR w1 Dd B cp ua cu v x tl W) (hD : w1.heap.size ≤ Dd) (hDB : Dd ≠ B) (hk : tl.length = k) (hown : W'.ownsRow w1.heap.size 3 1 (.slice (some ⟨g, 0, none⟩) (k + 1) cap) (k + 1) (tl.map (Value.int .i64) ++ [.int .i64 y])) (hg : (W.alloc o).grownBy W' v.ownBlock) (hat : v.ownBlock = some g ∨ g = H) (hH : B < H) (hH2 : Dd < H) :
    DR w1 Dd B cp ua cu (.slice (some ⟨g, 0, none⟩) (k + 1) cap) x (tl ++ [y]) (W'.setCell ⟨Dd, 2, none⟩ (.slice (some ⟨g, 0, none⟩) (k + 1) cap)) := by
  have j' := s.j.app hk hown hg
  have nb : g ≠ B := fun e => by
    rcases hat with h | h
    · exact s.ne (by rw [h, e])
    · omega
  have nd : g ≠ Dd := fun e => by
    rcases hat with h | h
    · exact s.nd (by rw [h, e])
    · omega
  have nb' : Value.ownBlock (.slice (some ⟨g, 0, none⟩) (k + 1) cap) ≠ some B := by show some g ≠ some B; intro e; simp only [Option.some.injEq] at e; exact nb e
  have nd' : Value.ownBlock (.slice (some ⟨g, 0, none⟩) (k + 1) cap) ≠ some Dd := by show some g ≠ some Dd; intro e; simp only [Option.some.injEq] at e; exact nd e
  exact ⟨j'.b.setCell hD _, (s.d.grown hg s.nd).set 2 _, (s.ox.grown hg s.ne).setOther (fun _ => hDB) _ _, j'.set hD nd' _ _, nb', nd'⟩
end

set_option maxHeartbeats 1600000 in
theorem leave_test (w1 : World) (Dd B cp : Nat) (ua : Option Addr) (cu : Nat) (v : Value) (x tl : List Int) (skip : Int) (ga : Option Addr) (gcap : Nat) (gc : Option Addr) (gcap' : Nat) (K : Int) (C D U : List Int) (y P R : Int) (W : World) (s : DR w1 Dd B cp ua cu v x tl W) (iC : Ints W ga 3 C) (iD : Ints W gc 2 D) (iU : Ints W ua 2 U) (hy : atV C D K x U = y)
    (p1 : bndP P C x) (p2 : bndP R D U) (zP : 0 ≤ P) (zQ : 0 ≤ R) (tP : P ≤ 100000000000) (tQ : R ≤ 100000000000) (bK : -10000000 ≤ K ∧ K ≤ 10000000) :
    Calls Tryd.prog 93 #[.pointer (some ⟨Dd, 0, none⟩), .iface 147 (.agg #[.int .i64 skip, .slice ga 3 gcap, .slice gc 2 gcap', .int .i64 K])] W fun e w' => e = .returned (.int .i64 (if y < 0 then skip else 0)) ∧ Below W.heap.size W w' := by
  have h1 := as_testStep_testStep
  have HY : Hid (atV C D K x U = y) := hy
  clear hy
  have al : Below W.heap.size W (W.alloc (.cells #[.int .i64 skip, .slice ga 3 gcap, .slice gc 2 gcap', .int .i64 K] 147)) := (Below.refl _ _).alloc (Nat.le_refl _) _
  have bxa := Cel.new W [.int .i64 skip, .slice ga 3 gcap, .slice gc 2 gcap', .int .i64 K] 147
  have sa := s.below al
  have ia := iC.below al
  have ib := iD.below al
  have iu := iU.below al
  go_enter Tryd.func93, Tryd.ntmps93
  go_upto_region 4 with fail
  obtain ⟨Wa, hWa⟩ : ∃ Wa, Wa = W.alloc (.cells #[.int .i64 skip, .slice ga 3 gcap, .slice gc 2 gcap', .int .i64 K] 147) := ⟨_, rfl⟩
  rw [← hWa] at sa bxa ia ib iu al ⊢
  clear hWa s iC iD iU
  have hn : Wa.cell? ⟨Dd, 0, none⟩ = some (.slice (some ⟨B, 0, none⟩) 3 cp) ∧ Wa.cell? ⟨Dd, 1, none⟩ = some (.slice ua 2 cu) ∧ Wa.cell? ⟨W.heap.size, 1, none⟩ = some (.slice ga 3 gcap) ∧ Wa.cell? ⟨W.heap.size, 2, none⟩ = some (.slice gc 2 gcap') ∧ Wa.cell? ⟨W.heap.size, 3, none⟩ = some (.int .i64 K) := ⟨sa.d.cell 0, sa.d.cell 1, bxa.cell 1, bxa.cell 2, bxa.cell 3⟩
  go_region_held3 (fun w' => w'.cell? ⟨Dd, 0, none⟩ = some (.slice (some ⟨B, 0, none⟩) 3 cp) ∧ w'.cell? ⟨Dd, 1, none⟩ = some (.slice ua 2 cu) ∧ w'.cell? ⟨W.heap.size, 1, none⟩ = some (.slice ga 3 gcap) ∧ w'.cell? ⟨W.heap.size, 2, none⟩ = some (.slice gc 2 gcap') ∧ w'.cell? ⟨W.heap.size, 3, none⟩ = some (.int .i64 K)) (first | with_reducible assumption | exact hn)
    (first
      | (go_at_call 115
         refine (iatG_any _ _ _ _ _ C D _ _ _ _ x U _ (by exact ia.below (Below.refl _ _).drew) (by exact ib.below (Below.refl _ _).drew) (by exact sa.ox.ints.below (Below.refl _ _).drew) (by exact iu.below (Below.refl _ _).drew) P R p1 p2 zP zQ tP tQ bK).mono ?_
         rintro ee w3 ⟨rfl, b3⟩
         rw [HY.out]
         have b3' := below_of_drew b3
         have sd3 := sa.d.below b3'
         have bx3 := bxa.below b3'
         have hn3 : w3.cell? ⟨Dd, 0, none⟩ = some (.slice (some ⟨B, 0, none⟩) 3 cp) ∧ w3.cell? ⟨Dd, 1, none⟩ = some (.slice ua 2 cu) ∧ w3.cell? ⟨W.heap.size, 1, none⟩ = some (.slice ga 3 gcap) ∧ w3.cell? ⟨W.heap.size, 2, none⟩ = some (.slice gc 2 gcap') ∧ w3.cell? ⟨W.heap.size, 3, none⟩ = some (.int .i64 K) := ⟨sd3.cell 0, sd3.cell 1, bx3.cell 1, bx3.cell 2, bx3.cell 3⟩))
  have bb := al.trans (b3'.mono al.size)
  have k0 := bx3.cell 0
  simp only [List.getElem?_cons_zero] at k0
  by_cases hneg : y < 0
  · go_wp2
    go_ret
    exact ⟨rfl, bb⟩
  · go_wp2
    go_ret
    exact ⟨rfl, bb⟩

end Go.Proofs.YtfkcfjkojfnfnaaDoor
namespace Go.Proofs.YtfkcfjkojfnfnaaDoor
open Go.RowKit
set_option linter.unusedVariables false
set_option maxRecDepth 100000

theorem touch_grown {S : Nat → Prop} {w W W' : World} {row : Option Nat} (h : Touch S w W) (g : W.grownBy W' row) (hr : ∀ k, row = some k → S k) : Touch S w W' :=
  ⟨g.os.trans h.os, g.tape.trans h.tape, g.output.trans h.output, Nat.le_trans h.size g.size, fun k hk hs => (g.block k (Nat.lt_of_lt_of_le hk h.size) (fun e => hs (hr k e.symm))).trans (h.block k hk hs)⟩

set_option maxHeartbeats 3200000 in
theorem leave_add (w1 : World) (Dd B cp : Nat) (ua : Option Addr) (cu : Nat) (v : Value) (x tl : List Int) (pn : Nat) (xp : Int) (ga : Option Addr) (gcap : Nat) (gc : Option Addr) (gcap' : Nat) (K : Int) (C D U : List Int) (y P R : Int) (W : World) (s : DR w1 Dd B cp ua cu v x tl W) (iC : Ints W ga 3 C) (iD : Ints W gc 2 D) (iU : Ints W ua 2 U) (hy : atV C D K x U = y)
    (p1 : bndP P C x) (p2 : bndP R D U) (zP : 0 ≤ P) (zQ : 0 ≤ R) (tP : P ≤ 100000000000) (tQ : R ≤ 100000000000) (bK : -10000000 ≤ K ∧ K ≤ 10000000) (hpn : pn < 3) (hxp : x[pn]?.getD 0 = xp) (r1 : -10000000000 ≤ xp) (r2 : xp ≤ 10000000000) (r3 : -1000000000000 ≤ y) (r4 : y ≤ 1000000000000) (hB : w1.heap.size ≤ B) (hDB : Dd ≠ B) :
    Calls Tryd.prog 93 #[.pointer (some ⟨Dd, 0, none⟩), .iface 149 (.agg #[.int .i64 (pn : Int), .slice ga 3 gcap, .slice gc 2 gcap', .int .i64 K])] W fun e w' => e = .returned (.int .i64 0) ∧ DR w1 Dd B cp ua cu v (x.set pn (xp + y)) tl w' ∧ Touch (fun z => z = B) W w' := by
  have h1 := as_addStep_testStep
  have h2 := as_addStep_addStep
  have HY : Hid (atV C D K x U = y) := hy
  have HXP : Hid (x[pn]?.getD 0 = xp) := hxp
  clear hy hxp
  have hwr : IntKind.i64.wrap (xp + y) = xp + y := wrap_id (by omega) (by omega)
  have hpn' : (pn : Int) < 3 := by omega
  have al : Below W.heap.size W (W.alloc (.cells #[.int .i64 (pn : Int), .slice ga 3 gcap, .slice gc 2 gcap', .int .i64 K] 149)) := (Below.refl _ _).alloc (Nat.le_refl _) _
  have bxa := Cel.new W [.int .i64 (pn : Int), .slice ga 3 gcap, .slice gc 2 gcap', .int .i64 K] 149
  have sa := s.below al
  have ia := iC.below al
  have ib := iD.below al
  have iu := iU.below al
  have lB := s.ox.lt (by omega)
  have lD := s.d.lt
  have cellp : ∀ Z, OwnX Z (some ⟨B, 0, none⟩) B 3 x → Z.cell? ⟨B, pn, none⟩ = some (.int .i64 xp) ∧ Z.frozen? ⟨B, pn, none⟩ = false := fun Z hZ => by
    obtain ⟨_, h1, h2⟩ := hZ.pos (by omega)
    exact ⟨by rw [h1 pn hpn, HXP.out], h2 pn⟩
  have CP : Hid _ := cellp
  clear cellp
  go_enter Tryd.func93, Tryd.ntmps93
  go_upto_region 8 with fail
  obtain ⟨Wa, hWa⟩ : ∃ Wa, Wa = W.alloc (.cells #[.int .i64 (pn : Int), .slice ga 3 gcap, .slice gc 2 gcap', .int .i64 K] 149) := ⟨_, rfl⟩
  rw [← hWa] at sa bxa ia ib iu al ⊢
  clear hWa s iC iD iU
  have zal := al.size
  obtain ⟨ck, fk⟩ := CP.out Wa sa.ox
  have hSS : (Wa.drew.cell? ⟨Dd, 0, none⟩ = some (.slice (some ⟨B, 0, none⟩) 3 cp) ∧ Wa.drew.cell? ⟨Dd, 1, none⟩ = some (.slice ua 2 cu) ∧ Wa.drew.cell? ⟨W.heap.size, 0, none⟩ = some (.int .i64 (pn : Int)) ∧ Wa.drew.cell? ⟨W.heap.size, 1, none⟩ = some (.slice ga 3 gcap) ∧ Wa.drew.cell? ⟨W.heap.size, 2, none⟩ = some (.slice gc 2 gcap') ∧ Wa.drew.cell? ⟨W.heap.size, 3, none⟩ = some (.int .i64 K)) ∧ Wa.drew.cell? ⟨B, pn, none⟩ = some (.int .i64 xp) := ⟨⟨sa.d.cell 0, sa.d.cell 1, bxa.cell 0, bxa.cell 1, bxa.cell 2, bxa.cell 3⟩, ck⟩
  refine wp_region_ends (fun w' => w'.cell? ⟨Dd, 0, none⟩ = some (.slice (some ⟨B, 0, none⟩) 3 cp) ∧ w'.cell? ⟨Dd, 1, none⟩ = some (.slice ua 2 cu) ∧ w'.cell? ⟨W.heap.size, 0, none⟩ = some (.int .i64 (pn : Int)) ∧ w'.cell? ⟨W.heap.size, 1, none⟩ = some (.slice ga 3 gcap) ∧ w'.cell? ⟨W.heap.size, 2, none⟩ = some (.slice gc 2 gcap') ∧ w'.cell? ⟨W.heap.size, 3, none⟩ = some (.int .i64 K)) (fun w' => w'.cell? ⟨B, pn, none⟩ = some (.int .i64 xp)) 20 (by kernel_rfl) ?_
  refine wpAnyE_take0 (i := 0) (v := ?v0) rfl (by kernel_rfl) (by kernel_rfl) (by kernel_rfl) (by decide) (fun _ _ _ h => h) (Or.inl ⟨by rfl, ?hy0⟩) hSS ?_
  case hy0 => (intro wz hSw; (try dsimp only at hSw); go_simp; try (with_reducible rfl))
  refine wpAnyE_take0 (i := 1) (v := ?v1) rfl (by kernel_rfl) (by kernel_rfl) (by kernel_rfl) (by decide) (fun _ _ _ h => h) (Or.inl ⟨by rfl, ?hy1⟩) hSS ?_
  case hy1 => (intro wz hSw; (try dsimp only at hSw); go_simp; try (with_reducible rfl))
  refine wpAnyE_take0 (i := 2) (v := ?v2) rfl (by kernel_rfl) (by kernel_rfl) (by kernel_rfl) (by decide) (fun _ _ _ h => h) (Or.inl ⟨by rfl, ?hy2⟩) hSS ?_
  case hy2 => (intro wz hSw; (try dsimp only at hSw); go_simp; try (with_reducible rfl))
  refine wpAnyE_take0 (i := 3) (v := ?v3) rfl (by kernel_rfl) (by kernel_rfl) (by kernel_rfl) (by decide) (fun _ _ _ h => h) (Or.inl ⟨by rfl, ?hy3⟩) hSS ?_
  case hy3 => (intro wz hSw; (try dsimp only at hSw); go_simp; try (with_reducible rfl))
  refine wpAnyE_take0 (i := 4) (v := ?v4) rfl (by kernel_rfl) (by kernel_rfl) (by kernel_rfl) (by decide) (fun _ _ _ h => h) (Or.inl ⟨by rfl, ?hy4⟩) hSS ?_
  case hy4 => (intro wz hSw; (try dsimp only at hSw); go_simp; try (with_reducible rfl))
  refine wpAnyE_take0 (i := 5) (v := ?v5) rfl (by kernel_rfl) (by kernel_rfl) (by kernel_rfl) (by decide) (fun _ _ _ h => h) (Or.inl ⟨by rfl, ?hy5⟩) hSS ?_
  case hy5 => (intro wz hSw; (try dsimp only at hSw); go_simp; try (with_reducible rfl))
  refine wpAnyE_take0 (i := 6) (v := ?v6) rfl (by kernel_rfl) (by kernel_rfl) (by kernel_rfl) (by decide) (fun _ _ _ h => h) (Or.inl ⟨by rfl, ?hy6⟩) hSS ?_
  case hy6 => (intro wz hSw; (try dsimp only at hSw); go_simp; try (with_reducible rfl))
  refine wpAnyE_take1 (i := 7) (v := ?v7) rfl rfl (by kernel_rfl) (by kernel_rfl) (by kernel_rfl) (by decide) (by rfl) (by simp [Region.binds]) (fun _ _ _ h => h) (Or.inl ⟨by rfl, ?hy7⟩) hSS ?_
  case hy7 => (intro wz hSw; (try dsimp only at hSw); go_simp; try (with_reducible rfl))
  refine wpAnyE_take0 (i := 8) (v := ?v8) rfl (by kernel_rfl) (by kernel_rfl) (by kernel_rfl) (by decide) (fun _ _ _ h => h) (Or.inl ⟨by rfl, ?hy8⟩) hSS ?_
  case hy8 => (intro wz hSw; (try dsimp only at hSw); go_simp; try (with_reducible rfl))
  refine wpAnyE_take0 (i := 9) (v := ?v9) rfl (by kernel_rfl) (by kernel_rfl) (by kernel_rfl) (by decide) (fun _ _ _ h => h) (Or.inl ⟨by rfl, ?hy9⟩) hSS ?_
  case hy9 => (intro wz hSw; (try dsimp only at hSw); go_simp; try (with_reducible rfl))
  refine wpAnyE_take0 (i := 10) (v := ?v10) rfl (by kernel_rfl) (by kernel_rfl) (by kernel_rfl) (by decide) (fun _ _ _ h => h) (Or.inl ⟨by rfl, ?hy10⟩) hSS ?_
  case hy10 => (intro wz hSw; (try dsimp only at hSw); go_simp; try (with_reducible rfl))
  refine wpAnyE_take0 (i := 11) (v := ?v11) rfl (by kernel_rfl) (by kernel_rfl) (by kernel_rfl) (by decide) (fun _ _ _ h => h) (Or.inl ⟨by rfl, ?hy11⟩) hSS ?_
  case hy11 => (intro wz hSw; (try dsimp only at hSw); go_simp; try (with_reducible rfl))
  refine wpAnyE_take0 (i := 12) (v := ?v12) rfl (by kernel_rfl) (by kernel_rfl) (by kernel_rfl) (by decide) (fun _ _ _ h => h) (Or.inl ⟨by rfl, ?hy12⟩) hSS ?_
  case hy12 => (intro wz hSw; (try dsimp only at hSw); go_simp; try (with_reducible rfl))
  refine wpAnyE_take0 (i := 13) (v := ?v13) rfl (by kernel_rfl) (by kernel_rfl) (by kernel_rfl) (by decide) (fun _ _ _ h => h) (Or.inl ⟨by rfl, ?hy13⟩) hSS ?_
  case hy13 => (intro wz hSw; (try dsimp only at hSw); go_simp; try (with_reducible rfl))
  refine wpAnyE_take0 (i := 14) (v := ?v14) rfl (by kernel_rfl) (by kernel_rfl) (by kernel_rfl) (by decide) (fun _ _ _ h => h) (Or.inl ⟨by rfl, ?hy14⟩) hSS ?_
  case hy14 => (intro wz hSw; (try dsimp only at hSw); go_simp; try (with_reducible rfl))
  refine wpAnyE_take0 (i := 15) (v := ?v15) rfl (by kernel_rfl) (by kernel_rfl) (by kernel_rfl) (by decide) (fun _ _ _ h => h) (Or.inl ⟨by rfl, ?hy15⟩) hSS ?_
  case hy15 => (intro wz hSw; (try dsimp only at hSw); go_simp; try (with_reducible rfl))
  refine wpAnyE_take0 (i := 16) (v := ?v16) rfl (by kernel_rfl) (by kernel_rfl) (by kernel_rfl) (by decide) (fun _ _ _ h => h) (Or.inl ⟨by rfl, ?hy16⟩) hSS ?_
  case hy16 => (intro wz hSw; (try dsimp only at hSw); go_simp; try (with_reducible rfl))
  refine wpAnyE_take0 (i := 17) (v := ?v17) rfl (by kernel_rfl) (by kernel_rfl) (by kernel_rfl) (by decide) (fun _ _ _ h => h) (Or.inl ⟨by rfl, ?hy17⟩) hSS ?_
  case hy17 => (intro wz hSw; (try dsimp only at hSw); go_simp; try (with_reducible rfl))
  refine wpAnyE_one (i := 18) (by kernel_rfl) rfl (fun Kn hK => ?_)
  go_simp
  refine (iatG_any _ _ _ _ _ C D _ _ _ _ x U _ (ia.below (Below.refl _ _).drew) (ib.below (Below.refl _ _).drew) (sa.ox.ints.below (Below.refl _ _).drew) (iu.below (Below.refl _ _).drew) P R p1 p2 zP zQ tP tQ bK).mono ?_
  rintro ee w3 ⟨rfl, b3⟩
  rw [HY.out]
  have b3' := below_of_drew b3
  have z3 := b3'.size
  have s3 := sa.below b3'
  have bx3 := bxa.below b3'
  obtain ⟨ck3, fk3⟩ := CP.out w3 s3.ox
  have hSS3 : (w3.cell? ⟨Dd, 0, none⟩ = some (.slice (some ⟨B, 0, none⟩) 3 cp) ∧ w3.cell? ⟨Dd, 1, none⟩ = some (.slice ua 2 cu) ∧ w3.cell? ⟨W.heap.size, 0, none⟩ = some (.int .i64 (pn : Int)) ∧ w3.cell? ⟨W.heap.size, 1, none⟩ = some (.slice ga 3 gcap) ∧ w3.cell? ⟨W.heap.size, 2, none⟩ = some (.slice gc 2 gcap') ∧ w3.cell? ⟨W.heap.size, 3, none⟩ = some (.int .i64 K)) ∧ w3.cell? ⟨B, pn, none⟩ = some (.int .i64 xp) := ⟨⟨s3.d.cell 0, s3.d.cell 1, bx3.cell 0, bx3.cell 1, bx3.cell 2, bx3.cell 3⟩, ck3⟩
  have s4 := s3.set hB hDB hpn (xp + y)
  have bx4 := bx3.setOther (show W.heap.size ≠ B by omega) pn (.int .i64 (xp + y))
  have hSS4 : (w3.setCell ⟨B, pn, none⟩ (.int .i64 (xp + y))).cell? ⟨Dd, 0, none⟩ = some (.slice (some ⟨B, 0, none⟩) 3 cp) ∧ (w3.setCell ⟨B, pn, none⟩ (.int .i64 (xp + y))).cell? ⟨Dd, 1, none⟩ = some (.slice ua 2 cu) ∧ (w3.setCell ⟨B, pn, none⟩ (.int .i64 (xp + y))).cell? ⟨W.heap.size, 0, none⟩ = some (.int .i64 (pn : Int)) ∧ (w3.setCell ⟨B, pn, none⟩ (.int .i64 (xp + y))).cell? ⟨W.heap.size, 1, none⟩ = some (.slice ga 3 gcap) ∧ (w3.setCell ⟨B, pn, none⟩ (.int .i64 (xp + y))).cell? ⟨W.heap.size, 2, none⟩ = some (.slice gc 2 gcap') ∧ (w3.setCell ⟨B, pn, none⟩ (.int .i64 (xp + y))).cell? ⟨W.heap.size, 3, none⟩ = some (.int .i64 K) := ⟨s4.d.cell 0, s4.d.cell 1, bx4.cell 0, bx4.cell 1, bx4.cell 2, bx4.cell 3⟩
  dsimp only
  refine hK.out _ _ ⟨hSS3.1, fun _ => hSS3.2⟩ ?_
  clear hK hSS
  refine wpAnyE_take0 (i := 19) (v := ?v19) rfl (by kernel_rfl) (by kernel_rfl) (by kernel_rfl) (by decide) (fun _ _ _ h => h) (Or.inl ⟨by rfl, ?hy19⟩) hSS3 ?_
  case hy19 => (intro wz hSw; (try dsimp only at hSw); go_simp; try (with_reducible rfl))
  refine wpAnyE_one (i := 20) (by kernel_rfl) rfl (fun Kn hK => ?_)
  go_simp
  refine hK.out _ _ ⟨hSS3.1, fun _ => hSS3.2⟩ ?_
  clear hK
  refine wpAnyE_one (i := 21) (by kernel_rfl) rfl (fun Kn hK => ?_)
  go_simp
  refine hK.out _ _ ⟨hSS4, fun h => absurd (show true = false from h) (by decide)⟩ ?_
  clear hK
  refine wpAnyE_done (by kernel_rfl) ?_ _
  have zz : Touch (fun z => z = B) W (w3.setCell ⟨B, pn, none⟩ (.int .i64 (xp + y))) := Touch.setCell (S := fun z => z = B) ((Touch.of al).trans (Touch.of b3')) rfl _
  clear b3 b3' sa bxa ia ib iu bx3 bx4 hSS3 hSS4 ck fk ck3 fk3 s3 al
  go_wp2
  go_ret
  exact ⟨rfl, s4, zz⟩

set_option maxHeartbeats 3200000 in
theorem leave_tell (w1 : World) (Dd B cp : Nat) (ua : Option Addr) (cu : Nat) (v : Value) (x tl : List Int) (tn : Nat) (ga : Option Addr) (gcap : Nat) (gc : Option Addr) (gcap' : Nat) (K : Int) (C D U : List Int) (y P R : Int) (W : World) (s : DR w1 Dd B cp ua cu v x tl W) (iC : Ints W ga 3 C) (iD : Ints W gc 2 D) (iU : Ints W ua 2 U) (hy : atV C D K x U = y)
    (p1 : bndP P C x) (p2 : bndP R D U) (zP : 0 ≤ P) (zQ : 0 ≤ R) (tP : P ≤ 100000000000) (tQ : R ≤ 100000000000) (bK : -10000000 ≤ K ∧ K ≤ 10000000) (htn : tl.length = tn) (ht6 : tn ≤ 100) (hB : w1.heap.size ≤ B) (hD : w1.heap.size ≤ Dd) (hDB : Dd ≠ B) :
    Calls Tryd.prog 93 #[.pointer (some ⟨Dd, 0, none⟩), .iface 151 (.agg #[.slice ga 3 gcap, .slice gc 2 gcap', .int .i64 K])] W fun e w' => e = .returned (.int .i64 0) ∧ (∃ v', DR w1 Dd B cp ua cu v' x (tl ++ [y]) w' ∧ ∀ F, F < W.heap.size → v.ownBlock ≠ some F → v'.ownBlock ≠ some F) ∧ Touch (fun z => z = Dd ∨ v.ownBlock = some z) W w' := by
  have h1 := as_printStep_testStep
  have h2 := as_printStep_addStep
  have h3 := as_printStep_printStep
  obtain ⟨i0, hi, hz0, hz1, hz2⟩ := info_parts Tryd.infoInt
  have HY : Hid (atV C D K x U = y) := hy
  have HTN : Hid (tl.length = tn) := htn
  clear hy htn
  have al : Below W.heap.size W (W.alloc (.cells #[.slice ga 3 gcap, .slice gc 2 gcap', .int .i64 K] 151)) := (Below.refl _ _).alloc (Nat.le_refl _) _
  have bxa := Cel.new W [.slice ga 3 gcap, .slice gc 2 gcap', .int .i64 K] 151
  have sa := s.below al
  have ia := iC.below al
  have ib := iD.below al
  have iu := iU.below al
  have lB := s.ox.lt (by omega)
  have lD := s.d.lt
  have lv : ∀ z, v.ownBlock = some z → z < W.heap.size := fun z hz => (s.j.o.lt z hz).2
  have HLV : Hid _ := lv
  clear lv
  go_enter Tryd.func93, Tryd.ntmps93
  go_upto_region 11 with fail
  obtain ⟨Wa, hWa⟩ : ∃ Wa, Wa = W.alloc (.cells #[.slice ga 3 gcap, .slice gc 2 gcap', .int .i64 K] 151) := ⟨_, rfl⟩
  rw [← hWa] at sa bxa ia ib iu al ⊢
  clear hWa s iC iD iU
  have zal := al.size
  have hSS : (Wa.drew.cell? ⟨Dd, 0, none⟩ = some (.slice (some ⟨B, 0, none⟩) 3 cp) ∧ Wa.drew.cell? ⟨Dd, 1, none⟩ = some (.slice ua 2 cu) ∧ Wa.drew.cell? ⟨W.heap.size, 0, none⟩ = some (.slice ga 3 gcap) ∧ Wa.drew.cell? ⟨W.heap.size, 1, none⟩ = some (.slice gc 2 gcap') ∧ Wa.drew.cell? ⟨W.heap.size, 2, none⟩ = some (.int .i64 K)) ∧ Wa.drew.cell? ⟨Dd, 2, none⟩ = some v := ⟨⟨sa.d.cell 0, sa.d.cell 1, bxa.cell 0, bxa.cell 1, bxa.cell 2⟩, sa.d.cell 2⟩
  refine wp_region_ends (fun w' => w'.cell? ⟨Dd, 0, none⟩ = some (.slice (some ⟨B, 0, none⟩) 3 cp) ∧ w'.cell? ⟨Dd, 1, none⟩ = some (.slice ua 2 cu) ∧ w'.cell? ⟨W.heap.size, 0, none⟩ = some (.slice ga 3 gcap) ∧ w'.cell? ⟨W.heap.size, 1, none⟩ = some (.slice gc 2 gcap') ∧ w'.cell? ⟨W.heap.size, 2, none⟩ = some (.int .i64 K)) (fun w' => w'.cell? ⟨Dd, 2, none⟩ = some v) 18 (by kernel_rfl) ?_
  refine wpAnyE_take0 (i := 0) (v := ?v0) rfl (by kernel_rfl) (by kernel_rfl) (by kernel_rfl) (by decide) (fun _ _ _ h => h) (Or.inl ⟨by rfl, ?hy0⟩) hSS ?_
  case hy0 => (intro wz hSw; (try dsimp only at hSw); go_simp; try (with_reducible rfl))
  refine wpAnyE_take0 (i := 1) (v := ?v1) rfl (by kernel_rfl) (by kernel_rfl) (by kernel_rfl) (by decide) (fun _ _ _ h => h) (Or.inl ⟨by rfl, ?hy1⟩) hSS ?_
  case hy1 => (intro wz hSw; (try dsimp only at hSw); go_simp; try (with_reducible rfl))
  refine wpAnyE_take0 (i := 2) (v := ?v2) rfl (by kernel_rfl) (by kernel_rfl) (by kernel_rfl) (by decide) (fun _ _ _ h => h) (Or.inl ⟨by rfl, ?hy2⟩) hSS ?_
  case hy2 => (intro wz hSw; (try dsimp only at hSw); go_simp; try (with_reducible rfl))
  refine wpAnyE_take0 (i := 3) (v := ?v3) rfl (by kernel_rfl) (by kernel_rfl) (by kernel_rfl) (by decide) (fun _ _ _ h => h) (Or.inl ⟨by rfl, ?hy3⟩) hSS ?_
  case hy3 => (intro wz hSw; (try dsimp only at hSw); go_simp; try (with_reducible rfl))
  refine wpAnyE_take1 (i := 4) (v := ?v4) rfl rfl (by kernel_rfl) (by kernel_rfl) (by kernel_rfl) (by decide) (by rfl) (by simp [Region.binds]) (fun _ _ _ h => h) (Or.inl ⟨by rfl, ?hy4⟩) hSS ?_
  case hy4 => (intro wz hSw; (try dsimp only at hSw); go_simp; try (with_reducible rfl))
  refine wpAnyE_take0 (i := 5) (v := ?v5) rfl (by kernel_rfl) (by kernel_rfl) (by kernel_rfl) (by decide) (fun _ _ _ h => h) (Or.inl ⟨by rfl, ?hy5⟩) hSS ?_
  case hy5 => (intro wz hSw; (try dsimp only at hSw); go_simp; try (with_reducible rfl))
  refine wpAnyE_take0 (i := 6) (v := ?v6) rfl (by kernel_rfl) (by kernel_rfl) (by kernel_rfl) (by decide) (fun _ _ _ h => h) (Or.inl ⟨by rfl, ?hy6⟩) hSS ?_
  case hy6 => (intro wz hSw; (try dsimp only at hSw); go_simp; try (with_reducible rfl))
  refine wpAnyE_take0 (i := 7) (v := ?v7) rfl (by kernel_rfl) (by kernel_rfl) (by kernel_rfl) (by decide) (fun _ _ _ h => h) (Or.inl ⟨by rfl, ?hy7⟩) hSS ?_
  case hy7 => (intro wz hSw; (try dsimp only at hSw); go_simp; try (with_reducible rfl))
  refine wpAnyE_take0 (i := 8) (v := ?v8) rfl (by kernel_rfl) (by kernel_rfl) (by kernel_rfl) (by decide) (fun _ _ _ h => h) (Or.inl ⟨by rfl, ?hy8⟩) hSS ?_
  case hy8 => (intro wz hSw; (try dsimp only at hSw); go_simp; try (with_reducible rfl))
  refine wpAnyE_take0 (i := 9) (v := ?v9) rfl (by kernel_rfl) (by kernel_rfl) (by kernel_rfl) (by decide) (fun _ _ _ h => h) (Or.inl ⟨by rfl, ?hy9⟩) hSS ?_
  case hy9 => (intro wz hSw; (try dsimp only at hSw); go_simp; try (with_reducible rfl))
  refine wpAnyE_take0 (i := 10) (v := ?v10) rfl (by kernel_rfl) (by kernel_rfl) (by kernel_rfl) (by decide) (fun _ _ _ h => h) (Or.inl ⟨by rfl, ?hy10⟩) hSS ?_
  case hy10 => (intro wz hSw; (try dsimp only at hSw); go_simp; try (with_reducible rfl))
  refine wpAnyE_take0 (i := 11) (v := ?v11) rfl (by kernel_rfl) (by kernel_rfl) (by kernel_rfl) (by decide) (fun _ _ _ h => h) (Or.inl ⟨by rfl, ?hy11⟩) hSS ?_
  case hy11 => (intro wz hSw; (try dsimp only at hSw); go_simp; try (with_reducible rfl))
  refine wpAnyE_take0 (i := 12) (v := ?v12) rfl (by kernel_rfl) (by kernel_rfl) (by kernel_rfl) (by decide) (fun _ _ _ h => h) (Or.inl ⟨by rfl, ?hy12⟩) hSS ?_
  case hy12 => (intro wz hSw; (try dsimp only at hSw); go_simp; try (with_reducible rfl))
  refine wpAnyE_take0 (i := 13) (v := ?v13) rfl (by kernel_rfl) (by kernel_rfl) (by kernel_rfl) (by decide) (fun _ _ _ h => h) (Or.inl ⟨by rfl, ?hy13⟩) hSS ?_
  case hy13 => (intro wz hSw; (try dsimp only at hSw); go_simp; try (with_reducible rfl))
  refine wpAnyE_take0 (i := 14) (v := ?v14) rfl (by kernel_rfl) (by kernel_rfl) (by kernel_rfl) (by decide) (fun _ _ _ h => h) (Or.inl ⟨by rfl, ?hy14⟩) hSS ?_
  case hy14 => (intro wz hSw; (try dsimp only at hSw); go_simp; try (with_reducible rfl))
  refine wpAnyE_one (i := 15) (by kernel_rfl) rfl (fun Kn hK => ?_)
  go_simp
  refine (iatG_any _ _ _ _ _ C D _ _ _ _ x U _ (ia.below (Below.refl _ _).drew) (ib.below (Below.refl _ _).drew) (sa.ox.ints.below (Below.refl _ _).drew) (iu.below (Below.refl _ _).drew) P R p1 p2 zP zQ tP tQ bK).mono ?_
  rintro ee w3 ⟨rfl, b3⟩
  rw [HY.out]
  have b3' := below_of_drew b3
  have z3 := b3'.size
  have s3 := sa.below b3'
  have bx3 := bxa.below b3'
  have jo := s3.j.o
  rw [HTN.out] at jo
  have hjb := s3.j.b.size
  have s3a := s3.alloc (.cells #[.int .i64 y] 3)
  have bx3a := bx3.alloc (.cells #[.int .i64 y] 3)
  have hSS3 : (w3.cell? ⟨Dd, 0, none⟩ = some (.slice (some ⟨B, 0, none⟩) 3 cp) ∧ w3.cell? ⟨Dd, 1, none⟩ = some (.slice ua 2 cu) ∧ w3.cell? ⟨W.heap.size, 0, none⟩ = some (.slice ga 3 gcap) ∧ w3.cell? ⟨W.heap.size, 1, none⟩ = some (.slice gc 2 gcap') ∧ w3.cell? ⟨W.heap.size, 2, none⟩ = some (.int .i64 K)) ∧ w3.cell? ⟨Dd, 2, none⟩ = some v := ⟨⟨s3.d.cell 0, s3.d.cell 1, bx3.cell 0, bx3.cell 1, bx3.cell 2⟩, s3.d.cell 2⟩
  have hSS4 : ((w3.alloc (.cells #[.int .i64 y] 3)).cell? ⟨Dd, 0, none⟩ = some (.slice (some ⟨B, 0, none⟩) 3 cp) ∧ (w3.alloc (.cells #[.int .i64 y] 3)).cell? ⟨Dd, 1, none⟩ = some (.slice ua 2 cu) ∧ (w3.alloc (.cells #[.int .i64 y] 3)).cell? ⟨W.heap.size, 0, none⟩ = some (.slice ga 3 gcap) ∧ (w3.alloc (.cells #[.int .i64 y] 3)).cell? ⟨W.heap.size, 1, none⟩ = some (.slice gc 2 gcap') ∧ (w3.alloc (.cells #[.int .i64 y] 3)).cell? ⟨W.heap.size, 2, none⟩ = some (.int .i64 K)) ∧ (w3.alloc (.cells #[.int .i64 y] 3)).cell? ⟨Dd, 2, none⟩ = some v := ⟨⟨s3a.d.cell 0, s3a.d.cell 1, bx3a.cell 0, bx3a.cell 1, bx3a.cell 2⟩, s3a.d.cell 2⟩
  dsimp only
  refine hK.out _ _ ⟨hSS3.1, fun _ => hSS3.2⟩ ?_
  clear hK hSS
  refine wpAnyE_one (i := 16) (by kernel_rfl) rfl (fun Kn hK => ?_)
  go_simp
  refine hK.out _ _ ⟨hSS4.1, fun _ => hSS4.2⟩ ?_
  clear hK
  refine wpAnyE_one (i := 17) (by kernel_rfl) rfl (fun Kn hK => ?_)
  refine step_append_lies _ (by rfl) _ _ _ (by rfl) w1.heap.size 3 i0 (.int .i64 0) 1 8 Tryd.underlying23 hi hz0 hz1 hz2 rfl (by decide) v tn (tl.map (Value.int .i64)) (by rfl) (jo.alloc _) ⟨w3.heap.size, 0, none⟩ 1 1 [.int .i64 y] (by rfl) rfl (news1 _ _ _) (one1 _ _) (by omega) (by unfold maxLen; omega) (by omega) (by rw [World.size_alloc]; omega) _ rfl ?_
  intro g4 cp4 w4 hown hgrow hat hlt4
  have d4 := s3.d.grown hgrow s3.nd
  have bx4 := bx3.grown hgrow (fun e => by have := HLV.out _ e; omega)
  have fd4 := d4.free 2
  have cd4 := d4.cell 2
  simp only [List.getElem?_cons_zero, List.getElem?_cons_succ] at cd4
  have s5 := s3.app hD hDB HTN.out hown hgrow hat (by rw [World.size_alloc]; omega) (by rw [World.size_alloc]; omega)
  have bx5 := bx4.setOther (show W.heap.size ≠ Dd by omega) 2 (.slice (some ⟨g4, 0, none⟩) (tn + 1) cp4)
  have hSS5 : (w4.cell? ⟨Dd, 0, none⟩ = some (.slice (some ⟨B, 0, none⟩) 3 cp) ∧ w4.cell? ⟨Dd, 1, none⟩ = some (.slice ua 2 cu) ∧ w4.cell? ⟨W.heap.size, 0, none⟩ = some (.slice ga 3 gcap) ∧ w4.cell? ⟨W.heap.size, 1, none⟩ = some (.slice gc 2 gcap') ∧ w4.cell? ⟨W.heap.size, 2, none⟩ = some (.int .i64 K)) ∧ w4.cell? ⟨Dd, 2, none⟩ = some v := ⟨⟨d4.cell 0, d4.cell 1, bx4.cell 0, bx4.cell 1, bx4.cell 2⟩, cd4⟩
  have hSS6 : (w4.setCell ⟨Dd, 2, none⟩ (.slice (some ⟨g4, 0, none⟩) (tn + 1) cp4)).cell? ⟨Dd, 0, none⟩ = some (.slice (some ⟨B, 0, none⟩) 3 cp) ∧ (w4.setCell ⟨Dd, 2, none⟩ (.slice (some ⟨g4, 0, none⟩) (tn + 1) cp4)).cell? ⟨Dd, 1, none⟩ = some (.slice ua 2 cu) ∧ (w4.setCell ⟨Dd, 2, none⟩ (.slice (some ⟨g4, 0, none⟩) (tn + 1) cp4)).cell? ⟨W.heap.size, 0, none⟩ = some (.slice ga 3 gcap) ∧ (w4.setCell ⟨Dd, 2, none⟩ (.slice (some ⟨g4, 0, none⟩) (tn + 1) cp4)).cell? ⟨W.heap.size, 1, none⟩ = some (.slice gc 2 gcap') ∧ (w4.setCell ⟨Dd, 2, none⟩ (.slice (some ⟨g4, 0, none⟩) (tn + 1) cp4)).cell? ⟨W.heap.size, 2, none⟩ = some (.int .i64 K) := ⟨s5.d.cell 0, s5.d.cell 1, bx5.cell 0, bx5.cell 1, bx5.cell 2⟩
  have zz : Touch (fun z => z = Dd ∨ v.ownBlock = some z) W (w4.setCell ⟨Dd, 2, none⟩ (.slice (some ⟨g4, 0, none⟩) (tn + 1) cp4)) :=
    Touch.setCell (S := fun z => z = Dd ∨ v.ownBlock = some z) (touch_grown (((Touch.of al).trans (Touch.of b3')).trans (Touch.of ((Below.refl _ _).alloc (Nat.le_refl _) _))) hgrow (fun z hz => .inr hz)) (.inl rfl) _
  have nf : ∀ F, F < W.heap.size → v.ownBlock ≠ some F → Value.ownBlock (.slice (some ⟨g4, 0, none⟩) (tn + 1) cp4) ≠ some F := fun F hF hne e => by
    have e' : g4 = F := by
      have : some g4 = some F := e
      simpa using this
    rcases hat with h | h
    · exact hne (by rw [h, e'])
    · rw [World.size_alloc] at h; omega
  refine hK.out _ _ ⟨hSS5.1, fun _ => hSS5.2⟩ ?_
  clear hK
  refine wpAnyE_one (i := 18) (by kernel_rfl) rfl (fun Kn hK => ?_)
  go_simp
  refine hK.out _ _ ⟨hSS5.1, fun _ => hSS5.2⟩ ?_
  clear hK
  refine wpAnyE_one (i := 19) (by kernel_rfl) rfl (fun Kn hK => ?_)
  go_simp
  refine hK.out _ _ ⟨hSS5.1, fun _ => hSS5.2⟩ ?_
  clear hK
  refine wpAnyE_one (i := 20) (by kernel_rfl) rfl (fun Kn hK => ?_)
  go_simp
  refine hK.out _ _ ⟨hSS6, fun h => absurd (show true = false from h) (by decide)⟩ ?_
  clear hK
  refine wpAnyE_done (by kernel_rfl) ?_ _
  clear b3 b3' sa bxa ia ib iu bx3 bx4 bx5 hSS3 hSS4 hSS5 hSS6 s3 s3a bx3a al d4 fd4 cd4 hown hgrow jo
  go_wp2
  go_ret
  exact ⟨rfl, ⟨_, s5, nf⟩, zz⟩

end Go.Proofs.YtfkcfjkojfnfnaaDoor
namespace Go.Proofs.YtfkcfjkojfnfnaaDoor
open Go.RowKit
set_option linter.unusedVariables false
set_option maxRecDepth 100000

theorem as_nil_sign (w : World) : (Instr.typeAssert .nilIface 20 129 true).run Tryd.prog w = .ok (.tuple #[.agg #[], .bool false]) w := by kernel_rfl
theorem as_sign_sign (w : World) : (Instr.typeAssert (.iface 129 (.agg #[])) 20 129 true).run Tryd.prog w = .ok (.tuple #[.agg #[], .bool true]) w := by kernel_rfl
theorem ne_nil_nil (w : World) : (binOp .neq 20 .nilIface .nilIface).run Tryd.prog w = .ok (.bool false) w := by kernel_rfl
theorem ne_sign_nil (w : World) : (binOp .neq 20 (.iface 129 (.agg #[])) .nilIface).run Tryd.prog w = .ok (.bool true) w := by kernel_rfl

theorem catch_idle (F : Nat) (b : Bool) (w : World) (hc : w.cell? ⟨F, 0, none⟩ = some (.bool b)) (hz : w.frozen? ⟨F, 0, none⟩ = false) :
    CallsD Tryd.prog 92 #[.pointer (some ⟨F, 0, none⟩)] .returning w fun e u' w' => e = .returned (.tuple #[]) ∧ u' = .returning ∧ w' = w.setCell ⟨F, 0, none⟩ (.bool false) := by
  have h1 := as_nil_sign
  have h2 := ne_nil_nil
  refine callsD_of_wpS Tryd.func92 rfl fun c₀ cs hu => ?_
  apply wpS_seq
  apply wpS_region
  simp [wpOpsS, go_sem, recoverD, hu, Tryd.ntmps92, Exit.thenS]
  refine wpS_of_wp ?_
  go_wp2
  cases c₀
  simp_all [bodyPostS, results, Tryd.results92]

set_option maxHeartbeats 1600000 in
theorem catch_stop (F : Nat) (b : Bool) (older : List PanicEntry) (w : World) (hc : w.cell? ⟨F, 0, none⟩ = some (.bool b)) (hz : w.frozen? ⟨F, 0, none⟩ = false) :
    CallsD Tryd.prog 92 #[.pointer (some ⟨F, 0, none⟩)] (.panicking ({ v := .iface 129 (.agg #[]), recovered := false } :: older)) w fun e u' w' => e = .returned (.tuple #[]) ∧ u' = .panicking ({ v := .iface 129 (.agg #[]), recovered := true } :: older) ∧ w' = w.setCell ⟨F, 0, none⟩ (.bool true) := by
  have h1 := as_sign_sign
  have h2 := ne_sign_nil
  refine callsD_of_wpS Tryd.func92 rfl fun c₀ cs hu => ?_
  apply wpS_seq
  apply wpS_region
  simp [wpOpsS, go_sem, recoverD, hu, Tryd.ntmps92, Exit.thenS]
  refine wpS_of_wp ?_
  go_wp2
  simp [bodyPostS, results, Tryd.results92]

theorem DR.other {w1 W : World} {Dd B cp : Nat} {ua : Option Addr} {cu : Nat} {v : Value} {x tl : List Int} (s : DR w1 Dd B cp ua cu v x tl W) {F : Nat} (h1 : w1.heap.size ≤ F) (h2 : Dd ≠ F) (h3 : F ≠ B) (nF : v.ownBlock ≠ some F) (i : Nat) (y : Value) : DR w1 Dd B cp ua cu v x tl (W.setCell ⟨F, i, none⟩ y) :=
  ⟨s.b.setCell h1 _, s.d.setOther h2 _ _, s.ox.setOther (fun _ => h3) _ _, s.j.set h1 nF _ _, s.ne, s.nd⟩

set_option maxHeartbeats 6400000 in
theorem stops_any (w1 : World) (Dd B cp : Nat) (ua : Option Addr) (cu : Nat) (v : Value) (ad : Option Addr) (N : Nat) (ls : List LV) (V U : List Int) (sa : Option Addr) (scap G : Nat) (W : World)
    (hN : ls.length = N) (h6 : N ≤ 6) (hF : LinesG w1 ad ls) (hall : ls.all LV.ok = true) (hsa : 0 < N → sa = some ⟨G, 0, none⟩) (hst : ∀ i, i < N → w1.cell? ⟨G, i, none⟩ = some (stepV (ls[i]?.getD noLV))) (iU : Ints w1 ua 2 U) (bU : bnd 9 U) (bV : bnd 10000 V) (hVL : V.length = 3)
    (s0 : DR w1 Dd B cp ua cu v V [] W) (hB : w1.heap.size ≤ B) (hD : w1.heap.size ≤ Dd) (hDB : Dd ≠ B) :
    Calls Tryd.prog 65 #[.pointer (some ⟨Dd, 0, none⟩), .slice sa N scap] W fun e w' => e = .returned (.bool (runL U ls V).1) ∧ Below w1.heap.size w1 w' ∧ ((runL U ls V).1 = false → ∃ v' , DR w1 Dd B cp ua cu v' (runL U ls V).2.1 (runL U ls V).2.2 w' ∧ (runL U ls V).2.2.length ≤ 100) := by
  have HN : Hid (ls.length = N) := hN
  have HO : Hid (ls.all LV.ok = true) := hall
  have HST : Hid _ := hst
  have HSA : Hid _ := hsa
  clear hN hall hst hsa
  have hmf : ∀ (fn : Fn) (first cap : Array Value) (w : World), (Instr.makeFunc fn first cap).run Tryd.prog w = .ok (.func fn first cap) w := fun _ _ _ _ => rfl
  have sF := s0.alloc (.cells #[.bool false] 4)
  have cF := Cel.new W [.bool false] 4
  have nF : v.ownBlock ≠ some W.heap.size := fun e => by have := (s0.j.o.lt _ e).2; omega
  have lB := s0.ox.lt (by omega)
  have lD := s0.d.lt
  have HAT : Hid (At U ls V 0 V []) := At.start bV hVL
  clear s0
  go_enter_defers Tryd.func65, Tryd.ntmps65
  go_wp2_with fail
  go_loopw [5] (fun i wr => ∃ (k : Nat) (x tl : List Int) (v' : Value), k ≤ 12 ∧ i = .int .i64 k ∧ At U ls V k x tl ∧ DR w1 Dd B cp ua cu v' x tl wr ∧ Cel wr W.heap.size [.bool false] 4 ∧ v'.ownBlock ≠ some W.heap.size) (fun i _ => N - (intOf i).toNat)
  case atStart => exact ⟨0, V, [], v, by omega, rfl, HAT.out, sF, cF, nF⟩
  case round =>
    clear sF cF nF HAT
    obtain ⟨k, x, tl, v', hk12, rfl, hAt, s, cF, nF⟩ := hrel
    have HAT : Hid (At U ls V k x tl) := hAt
    clear hAt
    have c0 := cF.cell 0
    have f0 := cF.free 0
    simp only [List.getElem?_cons_zero] at c0
    have zw := s.b.size
    have z1 : w1.heap.size ≤ W.heap.size := by omega
    by_cases hlt : k < N
    · obtain ⟨b, off, rfl, hc, hAtL⟩ := (hF.below s.b) k (by rw [HN.out]; exact hlt)
      have hok := allL_at (k := k) HO.out (by rw [HN.out]; exact hlt)
      have hkl : Hid (k < ls.length) := by show k < ls.length; rw [HN.out]; exact hlt
      have h6l : Hid (ls.length ≤ 6) := by show ls.length ≤ 6; rw [HN.out]; exact h6
      have bX := HAT.out.b (by omega)
      have bd6 := bd_six (n := k) (by omega)
      have bdp := bd_pos k
      obtain rfl := HSA.out (by omega)
      have hstep : wr.cell? ⟨G, k, none⟩ = some (stepV (ls[k]?.getD noLV)) := by
        have h0 := HST.out k hlt
        rw [s.b.cell (p := ⟨G, k, none⟩) (block_lt h0)]; exact h0
      generalize HG : ls[k]?.getD noLV = g at *
      have HG' : Hid (ls[k]?.getD noLV = g) := HG
      clear HG hc
      obtain ⟨gk, gp, gz, ⟨ga, gn, gcap, gc, gm, gcap', gK, gC, gD⟩⟩ := g
      obtain ⟨iC, iD, hn, hm⟩ := hAtL
      simp only at iC iD hn hm
      have iUr := iU.below s.b
      have hok' : lineB gk gp gz gn gm gC gD gK = true := hok
      clear hok
      by_cases hk1 : gk = 1
      · subst hk1
        obtain ⟨z1', z2', hsm⟩ := line_one hok'
        obtain ⟨rfl, rfl, bC, bD, bK1, bK2⟩ := small_elim hsm
        obtain ⟨q1, q2, q3, q4⟩ := small_at bC bD bK1 bK2 bX bU (by omega)
        obtain ⟨y, hy⟩ : ∃ y, atV gC gD gK x U = y := ⟨_, rfl⟩
        have HY : Hid (atV gC gD gK x U = y) := hy
        have HS : Hid (∀ j, (j = if y < 0 then k + 1 + gz.toNat else k + 1) → At U ls V j x tl) := fun j hj => HAT.out.skip hkl.out h6l.out HG'.out rfl (by rw [hj, ← hy]; rfl)
        have hstep' : wr.cell? ⟨G, k, none⟩ = some (.iface 147 (.agg #[.int .i64 gz, .slice ga 3 gcap, .slice gc 2 gcap', .int .i64 gK])) := by rw [hstep]; rfl
        clear hy hok' hsm bX q3 q4 hstep
        by_cases hneg : y < 0
        · go_wp2_with fail
          refine (leave_test w1 Dd B cp ua cu v' x tl _ _ _ _ _ _ gC gD U y _ _ _ s iC iD iUr HY.out q1 q2 (by omega) (by omega) (by omega) (by omega) ⟨by omega, by omega⟩).mono ?_
          rintro e w3 ⟨rfl, b3⟩
          rw [if_pos hneg]
          have s3 := s.below b3
          have cF3 := cF.below b3
          clear b3 s iC iD iUr q1 q2 c0 f0 cF hstep'
          go_wp2
          go_roundw
          case rel => exact ⟨k + 1 + gz.toNat, x, tl, v', by omega, by go_num, HS.out _ (by rw [if_pos hneg]), s3, cF3, nF⟩
          case measure => simp [intOf]; omega
        · go_wp2_with fail
          refine (leave_test w1 Dd B cp ua cu v' x tl _ _ _ _ _ _ gC gD U y _ _ _ s iC iD iUr HY.out q1 q2 (by omega) (by omega) (by omega) (by omega) ⟨by omega, by omega⟩).mono ?_
          rintro e w3 ⟨rfl, b3⟩
          rw [if_neg (by omega)]
          have s3 := s.below b3
          have cF3 := cF.below b3
          clear b3 s iC iD iUr q1 q2 c0 f0 cF hstep'
          go_wp2
          go_roundw
          case rel => exact ⟨k + 1, x, tl, v', by omega, by go_num, HS.out _ (by rw [if_neg (by omega)]), s3, cF3, nF⟩
          case measure => simp [intOf]; omega
      by_cases hk2 : gk = 2
      · subst hk2
        obtain ⟨z1', z2', hsm⟩ := line_two hok'
        obtain ⟨rfl, rfl, bC, bD, bK1, bK2⟩ := small_elim hsm
        obtain ⟨q1, q2, q3, q4⟩ := small_at bC bD bK1 bK2 bX bU (by omega)
        obtain ⟨pn, rfl⟩ := Int.eq_ofNat_of_zero_le z1'
        have hpn : pn < 3 := by omega
        obtain ⟨xp, hxp⟩ : ∃ xp, x[pn]?.getD 0 = xp := ⟨_, rfl⟩
        have HXP : Hid (x[pn]?.getD 0 = xp) := hxp
        obtain ⟨r1, r2⟩ := bX pn
        rw [hxp] at r1 r2
        obtain ⟨y, hy⟩ : ∃ y, atV gC gD gK x U = y := ⟨_, rfl⟩
        have HY : Hid (atV gC gD gK x U = y) := hy
        rw [hy] at q3 q4
        have HS : Hid (At U ls V (k + 1) (x.set pn (xp + y)) tl) := by
          have := HAT.out.add hkl.out h6l.out HG'.out rfl (by show _ ≤ atV gC gD gK x U; rw [hy]; omega) (by show atV gC gD gK x U ≤ _; rw [hy]; omega)
          simp only [Int.toNat_natCast, hxp] at this
          rw [show atF x U ⟨ga, 3, gcap, gc, 2, gcap', gK, gC, gD⟩ = y from hy] at this
          exact this
        have hstep' : wr.cell? ⟨G, k, none⟩ = some (.iface 149 (.agg #[.int .i64 (pn : Int), .slice ga 3 gcap, .slice gc 2 gcap', .int .i64 gK])) := by rw [hstep]; rfl
        clear hy hxp hok' hsm bX hstep
        go_wp2_with fail
        refine (leave_add w1 Dd B cp ua cu v' x tl pn xp _ _ _ _ _ gC gD U y _ _ _ s iC iD iUr HY.out q1 q2 (by omega) (by omega) (by omega) (by omega) ⟨by omega, by omega⟩ hpn HXP.out (by omega) (by omega) (by omega) (by omega) hB hDB).mono ?_
        rintro e w3 ⟨rfl, s3, t3⟩
        have cF3 := cF.touch t3 (fun e => by omega)
        clear t3 s iC iD iUr q1 q2 c0 f0 cF hstep'
        go_wp2
        go_roundw
        case rel => exact ⟨k + 1, _, tl, v', by omega, by go_num, HS.out, s3, cF3, nF⟩
        case measure => simp [intOf]; omega
      by_cases hk3 : gk = 3
      · subst hk3
        have hsm := line_three hok'
        obtain ⟨rfl, rfl, bC, bD, bK1, bK2⟩ := small_elim hsm
        obtain ⟨q1, q2, q3, q4⟩ := small_at bC bD bK1 bK2 bX bU (by omega)
        obtain ⟨y, hy⟩ : ∃ y, atV gC gD gK x U = y := ⟨_, rfl⟩
        have HY : Hid (atV gC gD gK x U = y) := hy
        have HS : Hid (At U ls V (k + 1) x (tl ++ [y])) := by
          have := HAT.out.tell hkl.out h6l.out HG'.out rfl
          rw [show atF x U ⟨ga, 3, gcap, gc, 2, gcap', gK, gC, gD⟩ = y from hy] at this
          exact this
        have ht := HAT.out.t
        have hstep' : wr.cell? ⟨G, k, none⟩ = some (.iface 151 (.agg #[.slice ga 3 gcap, .slice gc 2 gcap', .int .i64 gK])) := by rw [hstep]; rfl
        have lF := cF.lt
        clear hy hok' hsm bX q3 q4 hstep
        go_wp2_with fail
        refine (leave_tell w1 Dd B cp ua cu v' x tl tl.length _ _ _ _ _ gC gD U y _ _ _ s iC iD iUr HY.out q1 q2 (by omega) (by omega) (by omega) (by omega) ⟨by omega, by omega⟩ rfl (by omega) hB hD hDB).mono ?_
        rintro e w3 ⟨rfl, ⟨v2, s3, nf⟩, t3⟩
        have cF3 := cF.touch t3 (fun e => by
          rcases e with e | e
          · omega
          · exact nF e)
        have nF3 := nf _ lF nF
        clear t3 s iC iD iUr q1 q2 c0 f0 cF hstep' nf
        go_wp2
        go_roundw
        case rel => exact ⟨k + 1, x, tl ++ [y], v2, by omega, by go_num, HS.out, s3, cF3, nF3⟩
        case measure => simp [intOf]; omega
      have hk4 : gk = 4 := by
        apply Classical.byContradiction
        intro h4
        simp [lineB, hk1, hk2, hk3, h4] at hok'
      subst hk4
      have hstop : (runL U ls V).1 = true := HAT.out.stop hkl.out h6l.out HG'.out hk1 hk2 hk3
      have HSTOP : Hid ((runL U ls V).1 = true) := hstop
      have hstep' : wr.cell? ⟨G, k, none⟩ = some (.iface 152 (.agg #[])) := by rw [hstep]; rfl
      clear hstop hstep hok' bX
      go_wp2_with fail
      refine (leave_stop _ _).mono ?_
      rintro e w3 ⟨rfl, b3⟩
      have s3 := s.below b3
      have cF3 := cF.below b3
      clear b3 s cF c0 f0
      go_wp2
      refine leaves_cons (f := 92) (args := #[.pointer (some ⟨W.heap.size, 0, none⟩)]) (by simp) (by simp [go_sem]) ?_
      refine (catch_stop W.heap.size false [] _ (cF3.cell 0) (cF3.free 0)).mono ?_
      rintro e u' w'' ⟨rfl, rfl, rfl⟩
      have cF4 := (cF3.set 0 (.bool true)).cell 0
      simp only [List.set_cons_zero, List.getElem?_cons_zero] at cF4
      have b4 : Below w1.heap.size w1 (w3.setCell ⟨W.heap.size, 0, none⟩ (.bool true)) := s3.b.setCell z1 _
      simp [Leaves, settle, results, Tryd.results65, go_sem, cF4]
      exact ⟨HSTOP.out, b4, fun h => by rw [HSTOP.out] at h; cases h⟩
    · have hd := HAT.out.done (by rw [HN.out]; omega)
      have HD : Hid (runL U ls V = (false, x, tl)) := hd
      have ht := HAT.out.t
      clear hd
      go_wp2
      have cF1 := cF.set 0 (.bool false)
      refine leaves_cons (f := 92) (args := #[.pointer (some ⟨W.heap.size, 0, none⟩)]) (by simp) (by simp [go_sem]) ?_
      refine (catch_idle W.heap.size false _ (cF1.cell 0) (cF1.free 0)).mono ?_
      rintro e u' w'' ⟨rfl, rfl, rfl⟩
      have cF2 := (cF1.set 0 (.bool false)).cell 0
      have s2 := (s.other (F := W.heap.size) z1 (by omega) (by omega) nF 0 (.bool false)).other (F := W.heap.size) z1 (by omega) (by omega) nF 0 (.bool false)
      simp only [List.set_cons_zero, List.getElem?_cons_zero] at cF2
      simp [Leaves, settle, results, Tryd.results65, go_sem, cF2]
      rw [HD.out]
      exact ⟨rfl, s2.b, fun _ => ⟨⟨v', s2⟩, by show tl.length ≤ 100; omega⟩⟩

end Go.Proofs.YtfkcfjkojfnfnaaDoor
namespace Go.Proofs.YtfkcfjkojfnfnaaDoor
open Go.RowKit
set_option linter.unusedVariables false
set_option maxRecDepth 100000

theorem JS.open {w W : World} {v : Value} {ls : List LV} {N : Nat} (j : JS w v (ls.map stepV) W) (hN : ls.length = N) : ∃ sa cap G, v = .slice sa N cap ∧ (0 < N → sa = some ⟨G, 0, none⟩) ∧ ∀ i, i < N → W.cell? ⟨G, i, none⟩ = some (stepV (ls[i]?.getD noLV)) := by
  have hl : (ls.map stepV).length = N := by rw [List.length_map, hN]
  rcases j.o.2 with ⟨hv, h⟩ | ⟨g, cap', cur, hv, hg, hh, hcl, _, hs, ht⟩
  · rw [hl] at h
    subst h
    exact ⟨none, 0, 0, hv, fun h => by omega, fun i h => by omega⟩
  · have o := j.o
    rw [hl] at hv o
    rw [hv] at o
    refine ⟨some ⟨g, 0, none⟩, cap', g, hv, fun _ => rfl, fun i hi => ?_⟩
    rw [o.cellAt i (by omega), List.getElem?_map, List.getElem?_eq_getElem (by omega)]
    rfl

set_option maxHeartbeats 6400000 in
theorem irun_any (ad : Option Addr) (N cap : Nat) (ls : List LV) (v : Option Addr) (p cv : Nat) (V : List Int) (u : Option Addr) (q cu : Nat) (U : List Int) (w : World) (hN : ls.length = N) (hF : LinesG w ad ls) (hN1 : N ≤ 1048576) (hV : Ints w v p V) (hU : Ints w u q U) (hp : p ≤ 1048576) (hq : q ≤ 1048576) :
    Calls Tryd.prog 25 #[.slice ad N cap, .slice v p cv, .slice u q cu] w fun e w' => ResD w w' e (runCode N ls p V q U) (runTells N ls p V q U) (runPots N ls p V q U) := by
  have rc0 := Cel.new w [.int .i64 0, .slice none 0 0] 36
  have B0 : Below w.heap.size w (w.alloc (.cells #[.int .i64 0, .slice none 0 0] 36)) := (Below.refl _ _).alloc (Nat.le_refl _) _
  have HN : Hid (ls.length = N) := hN
  clear hN
  obtain ⟨rb, hrb⟩ : ∃ rb, rb = actB N ls := ⟨_, rfl⟩
  obtain ⟨vb, hvb⟩ : ∃ vb, vb = okN 3 10000 p V := ⟨_, rfl⟩
  obtain ⟨ub, hub⟩ : ∃ ub, ub = okN 2 9 q U := ⟨_, rfl⟩
  have HR : Hid (rb = actB N ls) := hrb
  have HV : Hid (vb = okN 3 10000 p V) := hvb
  have HU : Hid (ub = okN 2 9 q U) := hub
  clear hrb hvb hub
  go_enter Tryd.func25, Tryd.ntmps25
  go_wp2_with fail
  refine (isteps_any _ _ _ ls _ HN.out (hF.below B0) hN1).mono ?_
  rintro e w1 ⟨sv, rfl, b1, hj⟩
  have rc1 := rc0.below b1
  have B1 := B0.trans (b1.mono B0.size)
  have hlt1 := rc1.lt
  rw [← HR.out] at hj ⊢
  clear b1 rc0 B0
  obtain ⟨d0, d1, f0, f1⟩ := rc1.pair
  cases rb
  · have E : Hid _ := run_no (p := p) (q := q) (V := V) (U := U) (show runB N ls p V q U = false by rw [runB, ← HR.out]; rfl)
    go_wp2
    refine bodyPost_ret (v := .tuple #[resV 0 none 0 0, .slice none 0 0]) (by simp [results, Tryd.results25, go_sem, d0, d1]) rfl ?_
    obtain ⟨e1, e2, e3⟩ := E.out
    rw [e1, e2, e3]
    exact ⟨none, 0, 0, 0, _, 0, 0, 0, rfl, rfl, rfl, (B1.setCell (by simp only []; omega) _).setCell (by simp only []; omega) _, OwnX.nil _ _ _, OwnX.nil _ _ _, fun h => by omega, fun h => by omega, fun h => by omega⟩
  have js : Hid _ := hj rfl
  clear hj
  go_wp2_with fail
  refine (ival_any _ _ _ V _ (hV.below B1) hp).mono ?_
  rintro e w2 ⟨rfl, hw2⟩
  rw [← HV.out, hw2]
  clear hw2
  cases vb
  · have E : Hid _ := run_no (p := p) (q := q) (V := V) (U := U) (show runB N ls p V q U = false by rw [runB, ← HR.out, ← HV.out]; rfl)
    go_wp2
    refine bodyPost_ret (v := .tuple #[resV 0 none 0 0, .slice none 0 0]) (by simp [results, Tryd.results25, go_sem, d0, d1]) rfl ?_
    obtain ⟨e1, e2, e3⟩ := E.out
    rw [e1, e2, e3]
    exact ⟨none, 0, 0, 0, _, 0, 0, 0, rfl, rfl, rfl, (B1.setCell (by simp only []; omega) _).setCell (by simp only []; omega) _, OwnX.nil _ _ _, OwnX.nil _ _ _, fun h => by omega, fun h => by omega, fun h => by omega⟩
  go_wp2_with fail
  refine (iarg_any _ _ _ U _ (hU.below B1) hq).mono ?_
  rintro e w2 ⟨rfl, hw2⟩
  rw [← HU.out, hw2]
  clear hw2
  cases ub
  · have E : Hid _ := run_no (p := p) (q := q) (V := V) (U := U) (show runB N ls p V q U = false by rw [runB, ← HR.out, ← HV.out, ← HU.out]; rfl)
    go_wp2
    refine bodyPost_ret (v := .tuple #[resV 0 none 0 0, .slice none 0 0]) (by simp [results, Tryd.results25, go_sem, d0, d1]) rfl ?_
    obtain ⟨e1, e2, e3⟩ := E.out
    rw [e1, e2, e3]
    exact ⟨none, 0, 0, 0, _, 0, 0, 0, rfl, rfl, rfl, (B1.setCell (by simp only []; omega) _).setCell (by simp only []; omega) _, OwnX.nil _ _ _, OwnX.nil _ _ _, fun h => by omega, fun h => by omega, fun h => by omega⟩
  have HB : Hid (runB N ls p V q U = true) := by show _ = _; rw [runB, ← HR.out, ← HV.out, ← HU.out]; rfl
  obtain ⟨h6, hall⟩ := actB_six HR.out.symm
  have HO : Hid (ls.all LV.ok = true) := hall
  obtain ⟨rfl, bV⟩ := okN_nat (c := 3) (by omega) HV.out.symm
  obtain ⟨rfl, bU⟩ := okN_nat (c := 2) (by omega) HU.out.symm
  have HVL : Hid (V.length = 3) := hV.1
  obtain ⟨sa, scap, G, rfl, hsa, hst⟩ := js.out.open HN.out
  have HSA : Hid _ := hsa
  have HST : Hid _ := hst
  clear hsa hst js hall
  go_wp2_with fail
  refine (clone_any _ _ _ V _ (hV.below B1) (by omega) (by omega)).mono ?_
  rintro e w2 ⟨r, rfl, j⟩
  have rc2 := rc1.below j.b
  have B2 := B1.trans (j.b.mono B1.size)
  have jb := j.b
  obtain ⟨x0, cx, B, rfl, hX, hB⟩ := j.ownx HVL.out
  have hB' := hB (by omega)
  obtain ⟨eB, _, _⟩ := hX.pos (by omega)
  subst eB
  have lB := hX.lt (by omega)
  have s0 : DR w1 w2.heap.size B cx u cu (.slice none 0 0) V [] (w2.alloc (.cells #[.slice (some ⟨B, 0, none⟩) 3 cx, .slice u 2 cu, .slice none 0 0] 90)) := by
    refine ⟨jb.alloc jb.size _, Cel.new w2 _ _, hX.alloc _, ⟨jb.alloc jb.size _, World.ownsRow_nil _ _ _ _⟩, ?_, ?_⟩ <;> (intro h; cases h)
  have rc2a := rc2.alloc (.cells #[.slice (some ⟨B, 0, none⟩) 3 cx, .slice u 2 cu, .slice none 0 0] 90)
  have rc1' : Hid (Cel w1 w.heap.size [.int .i64 0, .slice none 0 0] 36) := rc1
  clear d0 d1 f0 f1 rc1 j hB hX rc2
  have z2 := jb.size
  go_wp2_with fail
  refine (stops_any w1 w2.heap.size B cx u cu (.slice none 0 0) ad N ls V U sa scap G _ HN.out h6 (hF.below B1) HO.out HSA.out HST.out (hU.below B1) bU bV HVL.out s0 hB' z2 (by omega)).mono ?_
  rintro e w3 ⟨rfl, b3, hgo⟩
  have B3 : Below w.heap.size w w3 := B1.trans (b3.mono B1.size)
  obtain ⟨cw0, cw1⟩ : w1.heap.size ≤ w3.heap.size ∧ w.heap.size < w1.heap.size := ⟨b3.size, hlt1⟩
  have rc3 : Cel w3 w.heap.size [.int .i64 0, .slice none 0 0] 36 := by
    have := rc1'.out
    unfold Cel at *
    rw [b3.block _ hlt1]; exact this
  obtain ⟨⟨stp, x, tl⟩, hrun⟩ : ∃ r, runL U ls V = r := ⟨_, rfl⟩
  rw [hrun] at hgo ⊢
  have HRUN : Hid (runL U ls V = (stp, x, tl)) := hrun
  clear hrun s0 rc2a
  obtain ⟨d0, d1, f0, f1⟩ := rc3.pair
  cases stp
  case true =>
    have E : Hid _ := run_stop HB.out (by rw [HRUN.out])
    clear hgo
    go_wp2_with fail
    refine (clone_any _ _ _ V _ (hV.below B3) (by omega) (by omega)).mono ?_
    rintro e w4 ⟨r, rfl, j⟩
    have rc4 := rc3.below j.b
    obtain ⟨x4, cx4, B4, rfl, hX4, hB4⟩ := j.ownx HVL.out
    have bb := B3.trans (j.b.mono B3.size)
    clear d0 d1 f0 f1
    obtain ⟨d0, d1, f0, f1⟩ := rc4.pair
    have hlt4 := rc4.lt
    clear rc4 j rc3
    go_wp2
    refine bodyPost_ret (v := .tuple #[resV 2 none 0 0, .slice x4 3 cx4]) (by simp [results, Tryd.results25, go_sem, d0, d1]) rfl ?_
    obtain ⟨e1, e2, e3⟩ := E.out
    rw [e1, e2, e3]
    refine ⟨none, 0, 0, 0, x4, 3, cx4, B4, rfl, rfl, HVL.out, ?_, OwnX.nil _ _ _, ?_, fun h => by omega, fun h => by have := hB4 h; omega, fun h => by omega⟩
    · exact (bb.setCell (Nat.le_refl _) _).setCell (Nat.le_refl _) _
    · exact (hX4.setOther (fun h => by have := hB4 h; omega) _ _).setOther (fun h => by have := hB4 h; omega) _ _
  case false =>
    have E : Hid _ := run_go HB.out HRUN.out
    obtain ⟨v', s3, htl⟩ := hgo rfl
    clear hgo
    obtain ⟨tn, htn⟩ : ∃ tn, tl.length = tn := ⟨_, rfl⟩
    have HTN : Hid (tl.length = tn) := htn
    obtain ⟨ta, ctt, BT, hv, hT, hBT⟩ := s3.j.ownx HTN.out
    have hne : 0 < tn → BT ≠ B := fun h0 e => by
      obtain ⟨e1, _, _⟩ := hT.pos h0
      exact s3.ne (by rw [hv, e1, e]; rfl)
    have ox := s3.ox
    have c0 := s3.d.cell 0
    have c2 := s3.d.cell 2
    simp only [List.getElem?_cons_zero, List.getElem?_cons_succ] at c0 c2
    clear htn s3
    subst hv
    go_wp2_with fail
    refine (done_any _ _ _ _ B _ _ _ BT V x tl _ (hV.below B3) ox hT hne (w.heap.size + 1) (fun h => by have := hBT h; omega) (by omega) (by omega)).mono ?_
    rintro e w6 ⟨ra, rn, rcap, RB1, pb, pm, pcap, RB2, rfl, L1, L2, b6, O1, O2, y1, y2, y3⟩
    have rc6 := rc3.below b6
    have b66 := B3.trans (b6.mono B3.size)
    have hlt6 := rc6.lt
    clear d0 d1 f0 f1
    obtain ⟨d0, d1, f0, f1⟩ := rc6.pair
    clear rc6 rc3 ox hT c0 c2
    go_wp2
    refine bodyPost_ret (v := .tuple #[resV (endCode x) ra rn rcap, .slice pb pm pcap]) (by simp [results, Tryd.results25, go_sem, d0, d1]) rfl ?_
    obtain ⟨e1, e2, e3⟩ := E.out
    rw [e1, e2, e3]
    refine ⟨ra, rn, rcap, RB1, pb, pm, pcap, RB2, rfl, L1, L2, ?_, ?_, ?_, fun h => by have := y1 h; omega, fun h => by have := y2 h; omega, y3⟩
    · exact (b66.setCell (Nat.le_refl _) _).setCell (Nat.le_refl _) _
    · exact (O1.setOther (fun h => by have := y1 h; omega) _ _).setOther (fun h => by have := y1 h; omega) _ _
    · exact (O2.setOther (fun h => by have := y2 h; omega) _ _).setOther (fun h => by have := y2 h; omega) _ _

end Go.Proofs.YtfkcfjkojfnfnaaDoor
namespace Go.Proofs.YtfkcfjkojfnfnaaDoor
open Go.RowKit
set_option linter.unusedVariables false

theorem two_of {A : List Int} (h : A.length = 2) : ∃ x y, A = [x, y] := by
  match A, h with
  | [x, y], _ => exact ⟨x, y, rfl⟩
theorem three_of {A : List Int} (h : A.length = 3) : ∃ x y z, A = [x, y, z] := by
  match A, h with
  | [x, y, z], _ => exact ⟨x, y, z, rfl⟩
/-- Within what a form's numbers may be. -/
def inM (x : Int) : Prop := -10000000 ≤ x ∧ x ≤ 10000000
theorem okP_of {x y z s t K : Int} (hx : inM x) (hy : inM y) (hz : inM z) (hs : inM s) (ht : inM t) (hK : inM K) : okP ([x, y, z], [s, t], K) = true := by
  unfold inM at *
  simp [okP, formB, okN, allB, inB]
  omega
theorem okP_shape {f : Frm} (h : okP f = true) : ∃ x y z s t K, f = ([x, y, z], [s, t], K) ∧ inM x ∧ inM y ∧ inM z ∧ inM s ∧ inM t ∧ inM K := by
  obtain ⟨C, D, K⟩ := f
  obtain ⟨l1, l2, b1, b2, b3, b4⟩ := formB_elim h
  obtain ⟨x, y, z, rfl⟩ := three_of l1
  obtain ⟨s, t, rfl⟩ := two_of l2
  have c0 := b1 0
  have c1 := b1 1
  have c2 := b1 2
  have d0 := b2 0
  have d1 := b2 1
  simp only [List.getElem?_cons_zero, List.getElem?_cons_succ, Option.getD_some] at c0 c1 c2 d0 d1
  exact ⟨x, y, z, s, t, K, rfl, c0, c1, c2, d0, d1, ⟨b3, b4⟩⟩
theorem okP_no {x y z s t K : Int} (h : okP ([x, y, z], [s, t], K) = true) : inM x ∧ inM y ∧ inM z ∧ inM s ∧ inM t ∧ inM K := by
  obtain ⟨x', y', z', s', t', K', e, h⟩ := okP_shape h
  simp only [Prod.mk.injEq, List.cons.injEq, and_true] at e
  obtain ⟨⟨rfl, rfl, rfl⟩, ⟨rfl, rfl⟩, rfl⟩ := e
  exact h
theorem timP_no {f : Frm} {k : Int} (h : timB f k = false) : timP f k = ([], [], 0) := by unfold timP; rw [h]; rfl
theorem timP_yes {f : Frm} {k : Int} (h : timB f k = true) : timP f k = (mulL k f.1, mulL k f.2.1, k * f.2.2) := by unfold timP; rw [h]; rfl
theorem timB_ok {f : Frm} {k : Int} (h : timB f k = true) : okP f = true ∧ -10000000 ≤ k ∧ k ≤ 10000000 := by
  unfold timB timOk at h
  simp only [Bool.and_eq_true] at h
  exact ⟨h.1.1, inB_iff.1 h.1.2⟩
theorem timB_not {f : Frm} {k : Int} (h : okP f = false) : timB f k = false := by
  unfold okP at h
  unfold timB timOk
  rw [h]; rfl
theorem tim_shape {x y z s t K k : Int} (h : okP ([x, y, z], [s, t], K) = true) (h1 : -10000000 ≤ k) (h2 : k ≤ 10000000) (h3 : okP ([k * x, k * y, k * z], [k * s, k * t], k * K) = true) : timP ([x, y, z], [s, t], K) k = ([k * x, k * y, k * z], [k * s, k * t], k * K) := by
  have hb : timB ([x, y, z], [s, t], K) k = true := by
    unfold timB timOk
    unfold okP at h h3
    rw [h, inB_iff.2 ⟨h1, h2⟩]
    exact h3
  rw [timP_yes hb]
  rfl
theorem tim_one {f : Frm} (h : okP f = true) : timP f 1 = f := by
  obtain ⟨x, y, z, s, t, K, rfl, _⟩ := okP_shape h
  have e := tim_shape (k := 1) h (by omega) (by omega) (by simpa using h)
  simpa using e
theorem tim_nil {f : Frm} (h : okP f = true) : timP f 0 = zeroP := by
  obtain ⟨x, y, z, s, t, K, rfl, _⟩ := okP_shape h
  have e := tim_shape (k := 0) h (by omega) (by omega) (by simp; decide)
  simpa [zeroP] using e
theorem tim_neg {x y z s t K : Int} (h : okP ([x, y, z], [s, t], K) = true) : timP ([x, y, z], [s, t], K) (-1) = ([-x, -y, -z], [-s, -t], -K) ∧ okP ([-x, -y, -z], [-s, -t], -K) = true := by
  obtain ⟨a1, a2, a3, a4, a5, a6⟩ := okP_no h
  have h' : okP ([-x, -y, -z], [-s, -t], -K) = true := okP_of (by unfold inM at *; omega) (by unfold inM at *; omega) (by unfold inM at *; omega) (by unfold inM at *; omega) (by unfold inM at *; omega) (by unfold inM at *; omega)
  have e := tim_shape (k := -1) h (by omega) (by omega) (by simpa using h')
  exact ⟨by simpa using e, h'⟩
theorem tim_back {f : Frm} (h : okP f = true) : timP (timP f (-1)) (-1) = f := by
  obtain ⟨x, y, z, s, t, K, rfl, _⟩ := okP_shape h
  obtain ⟨e, h'⟩ := tim_neg h
  rw [e, (tim_neg h').1]
  simp
theorem add_neg {f : Frm} (h : okP f = true) : addP f (timP f (-1)) = zeroP := by
  obtain ⟨x, y, z, s, t, K, rfl, _⟩ := okP_shape h
  obtain ⟨e, h'⟩ := tim_neg h
  rw [e]
  have hb : addB ([x, y, z], [s, t], K) ([-x, -y, -z], [-s, -t], -K) = true := by
    unfold addB addOk
    unfold okP at h h'
    rw [h, h']
    simp [lin, formB, okN, allB, inB]
    omega
  unfold addP
  rw [hb]
  simp [keepL, keepK, lin, zeroP]
  omega
theorem dot_mul {xs V : List Int} {n : Int} {k : Nat} (h : xs.length = k) : ∀ j, j ≤ k → dot (mulL n xs) V j = n * dot xs V j
  | 0, _ => by simp [dot]
  | j + 1, hj => by
    have ih := dot_mul (V := V) (n := n) h j (by omega)
    have e := mulL_get (n := n) (zs := xs) (i := j) (by omega)
    simp only [dot, ih, e]
    rw [Int.mul_add, Int.mul_assoc]
theorem at_bnd {f : Frm} {V A : List Int} : -10000000000000 ≤ atP f V A ∧ atP f V A ≤ 10000000000000 := by
  unfold atP
  cases h : atOk f.1.length f.2.1.length V.length A.length f.1 f.2.1 f.2.2 V A
  · rw [atN_no h]; omega
  · rw [atN_yes h]
    unfold atOk at h
    simp only [Bool.and_eq_true] at h
    obtain ⟨⟨h1, h2⟩, h3⟩ := h
    obtain ⟨_, _, b1, b2, b3, b4⟩ := formB_elim h1
    have v1 := (okN_elim (by omega) h2).2
    have a1 := (okN_elim (by omega) h3).2
    have d1 := dot_bnd (bndP_of b1 v1 (by omega) (by omega)) 3
    have d2 := dot_bnd (bndP_of b2 a1 (by omega) (by omega)) 2
    unfold atV
    omega
theorem tim_at {f : Frm} {k : Int} {V A : List Int} (h : atB (timP f k) V A = true) : atB f V A = true ∧ atP (timP f k) V A = k * atP f V A := by
  have hb : timB f k = true := by
    cases hb : timB f k
    · rw [timP_no hb] at h
      unfold atB atOk at h
      simp [formB, okN] at h
    · rfl
  obtain ⟨h1, _, _⟩ := timB_ok hb
  have h' := h
  unfold atB atOk at h'
  simp only [Bool.and_eq_true] at h'
  obtain ⟨⟨_, hV⟩, hA⟩ := h'
  have t1 : atB f V A = true := by unfold okP at h1; unfold atB atOk; rw [h1, hV, hA]; rfl
  refine ⟨t1, ?_⟩
  have l1 := formB_elim h1
  unfold atP
  rw [atN_yes h, atN_yes t1, timP_yes hb]
  unfold atV
  rw [dot_mul l1.1 3 (by omega), dot_mul l1.2.1 2 (by omega)]
  dsimp only
  rw [Int.mul_add, Int.mul_add]

end Go.Proofs.YtfkcfjkojfnfnaaDoor
namespace Go.Proofs.YtfkcfjkojfnfnaaDoor
open Go.RowKit
set_option linter.unusedVariables false
set_option maxRecDepth 100000

theorem goL_len (U : List Int) (ls : List LV) : ∀ (f i : Nat) (x tl : List Int), (goL U ls f i x tl).2.1.length = x.length ∧ (goL U ls f i x tl).2.2.length ≤ tl.length + f
  | 0, i, x, tl => by simp [goL]
  | f + 1, i, x, tl => by
    unfold goL
    split
    · split
      · have h := goL_len U ls f (if atF x U (ls[i]?.getD noLV).f < 0 then i + 1 + (ls[i]?.getD noLV).skip.toNat else i + 1) x tl
        exact ⟨h.1, by omega⟩
      · split
        · have h := goL_len U ls f (i + 1) (x.set (ls[i]?.getD noLV).pot.toNat (x[(ls[i]?.getD noLV).pot.toNat]?.getD 0 + atF x U (ls[i]?.getD noLV).f)) tl
          exact ⟨by rw [h.1, List.length_set], by omega⟩
        · split
          · have h := goL_len U ls f (i + 1) x (tl ++ [atF x U (ls[i]?.getD noLV).f])
            rw [List.length_append] at h
            exact ⟨h.1, by simp only [List.length_cons, List.length_nil] at h; omega⟩
          · simp
    · simp
theorem goL_stop (U : List Int) (ls : List LV) (s : LV) (hs : s.kind = 4) : ∀ (f i : Nat) (x tl : List Int), (goL U (ls ++ [s]) f i x tl).1 = true ∨ (goL U (ls ++ [s]) f i x tl = goL U ls f i x tl ∧ (goL U ls f i x tl).1 = false)
  | 0, i, x, tl => by right; simp [goL]
  | f + 1, i, x, tl => by
    by_cases hi : i < ls.length
    · have e : (ls ++ [s])[i]?.getD noLV = ls[i]?.getD noLV := by rw [List.getElem?_append_left hi]
      unfold goL
      rw [if_pos hi, if_pos (by rw [List.length_append]; omega), e]
      split
      · exact goL_stop U ls s hs f _ x tl
      · split
        · exact goL_stop U ls s hs f _ _ tl
        · split
          · exact goL_stop U ls s hs f _ x _
          · left; rfl
    · by_cases hl : i = ls.length
      · left
        subst hl
        unfold goL
        rw [if_pos (by rw [List.length_append]; simp)]
        have e : (ls ++ [s])[ls.length]?.getD noLV = s := by simp
        rw [e, hs]
        rfl
      · right
        unfold goL
        rw [if_neg hi, if_neg (by rw [List.length_append]; simp; omega)]
        exact ⟨rfl, rfl⟩
theorem runTells_le (N : Nat) (ls : List LV) (p : Nat) (V : List Int) (q : Nat) (U : List Int) : (runTells N ls p V q U).length ≤ 7 := by
  have h := (goL_len U ls 7 0 V []).2
  unfold runTells
  split
  · split
    · simp
    · unfold endTells
      split
      · unfold runL; simpa using h
      · simp
  · simp
theorem runPots_le (N : Nat) (ls : List LV) (p : Nat) (V : List Int) (q : Nat) (U : List Int) : (runPots N ls p V q U).length ≤ V.length := by
  have h := (goL_len U ls 7 0 V []).1
  unfold runPots
  split
  · split
    · exact Nat.le_refl _
    · unfold endPots
      split
      · unfold runL; omega
      · exact Nat.le_refl _
  · simp
/-- A call has done an act: what came of it, and what the pots have. -/
def RunM (w w' : World) (e : Ending) (code : Int) (tl pl : List Int) : Prop := ∃ a n cap b m cap', e = .returned (.tuple #[resV code a n cap, .slice b m cap']) ∧ Ints w' a n tl ∧ Ints w' b m pl ∧ Below w.heap.size w w'
theorem RunM.of {w w' : World} {e : Ending} {code : Int} {tl pl : List Int} (h : ResD w w' e code tl pl) : RunM w w' e code tl pl := by
  obtain ⟨a, n, cap, B1, b, m, cap', B2, he, h1, h2, hb, o1, o2, _⟩ := h
  exact ⟨a, n, cap, b, m, cap', he, o1.ints, o2.ints, hb⟩

end Go.Proofs.YtfkcfjkojfnfnaaDoor
