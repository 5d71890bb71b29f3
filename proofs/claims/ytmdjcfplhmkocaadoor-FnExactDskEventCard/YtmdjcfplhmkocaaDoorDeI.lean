/-
  What happens by a line, as the program reads it: a kind and its numbers.
-/
import Derived.Test.YtmdjcfplhmkocaaDoorDeM
import Derived.Test.YtmdjcfplhmkocaaDoorDeP
import Derived.Test.YtmdjcfplhmkocaaDoorRdL
import Derived.Test.YtmdjcfplhmkocaaDoorTwn
import Derived.Test.YtmdjcfplhmkocaaDoorOwn
import Derived.Test.YtmdjcfplhmkocaaDoorShelf3
namespace Go.Proofs.YtmdjcfplhmkocaaDoor
open Go.RowKit Go.MapKept
set_option linter.unusedVariables false
set_option maxRecDepth 100000

abbrev evV (k t c : Int) (a : Option Addr) (n cap : Nat) : Value := .agg #[.int .i64 k, .int .i64 t, .int .i64 c, .slice a n cap]
/-- An event (kind, place, act, arguments), and whether there is one. -/
abbrev EvR := Int × Int × Int × List Int × Bool
def noE : EvR := (0, 0, 0, [], false)
def bareL (k t : Int) (zs : List Int) : EvR := if zs.length = 0 then (k, t, 0, [], true) else noE
def oneL (k : Int) (zs : List Int) : EvR := if zs.length = 1 ∧ (0 : Int) ≤ zs[0]?.getD 0 then (k, zs[0]?.getD 0, 0, [], true) else noE
def callL (zs : List Int) : EvR := if zs.length = 4 ∧ (0 : Int) ≤ zs[0]?.getD 0 ∧ (0 : Int) ≤ zs[1]?.getD 0 then (1, zs[0]?.getD 0, zs[1]?.getD 0, zs.drop 2, true) else noE
/-- What a reader answers, in new memory. -/
def EvP (r : EvR) (w : World) (e : Ending) (w' : World) : Prop := ∃ a n cap, e = .returned (.tuple #[evV r.1 r.2.1 r.2.2.1 a n cap, .bool r.2.2.2.2]) ∧ r.2.2.2.1.length = n ∧ JA w (.slice a n cap) r.2.2.2.1 w'
theorem EvP.no {w w' : World} (h : Below w.heap.size w w') : EvP noE w (.returned (.tuple #[evV 0 0 0 none 0 0, .bool false])) w' := ⟨none, 0, 0, rfl, rfl, ⟨h, World.ownsRow_nil _ _ _ _⟩⟩
theorem EvP.plain {w w' : World} {k t : Int} (h : Below w.heap.size w w') : EvP (k, t, 0, [], true) w (.returned (.tuple #[evV k t 0 none 0 0, .bool true])) w' := ⟨none, 0, 0, rfl, rfl, ⟨h, World.ownsRow_nil _ _ _ _⟩⟩

theorem below2 {w : World} (o p : Obj) : Below w.heap.size w ((w.alloc o).alloc p) := ((Below.refl w.heap.size w).alloc (Nat.le_refl _) o).alloc (by simp) p
theorem zs_at {W : World} {b off n : Nat} {zs : List Int} (h : Ints W (some ⟨b, off, none⟩) n zs) {i : Nat} (hi : i < n) : W.cell? ⟨b, off + i, none⟩ = some (.int .i64 (zs[i]?.getD 0)) := by
  obtain ⟨b', o', e, hc⟩ := h.pos (by omega)
  cases e
  rw [hc i hi]; simp

set_option maxHeartbeats 3200000 in
theorem ibare_any (k : Int) (hk : k = 7 ∨ k = 10) (a : Option Addr) (n cap : Nat) (zs : List Int) (w : World) (h : Ints w a n zs) :
    Calls Tryd.prog 28 #[.int .i64 k, .slice a n cap] w (EvP (bareL k 0 zs) w) := by
  have hl : zs.length = n := h.1
  by_cases hn : n = 0
  · rw [show bareL k 0 zs = (k, 0, 0, [], true) from by rw [bareL, if_pos (by omega)]]
    subst hn
    clear hl h
    have hi : ¬ (0 : Int) < ((0 : Nat) : Int) := by omega
    rcases hk with rfl | rfl
    · go_enter Tryd.func28, Tryd.ntmps28
      go_wp2
      exact bodyPost_ret (v := .tuple #[evV 7 0 0 none 0 0, .bool true]) (by simp [results, Tryd.results28, go_sem]) rfl (EvP.plain (below2 _ _))
    · go_enter Tryd.func28, Tryd.ntmps28
      go_wp2
      exact bodyPost_ret (v := .tuple #[evV 10 0 0 none 0 0, .bool true]) (by simp [results, Tryd.results28, go_sem]) rfl (EvP.plain (below2 _ _))
  · rw [show bareL k 0 zs = noE from by rw [bareL, if_neg (by omega)]]
    clear hl h
    have hi : (0 : Int) < (n : Int) := by omega
    rcases hk with rfl | rfl
    · go_enter Tryd.func28, Tryd.ntmps28
      go_wp2
      exact bodyPost_ret (v := .tuple #[evV 0 0 0 none 0 0, .bool false]) (by simp [results, Tryd.results28, go_sem]) rfl (EvP.no (below2 _ _))
    · go_enter Tryd.func28, Tryd.ntmps28
      go_wp2
      exact bodyPost_ret (v := .tuple #[evV 0 0 0 none 0 0, .bool false]) (by simp [results, Tryd.results28, go_sem]) rfl (EvP.no (below2 _ _))

set_option maxHeartbeats 6400000 in
theorem ione_any (k : Int) (hk : k = 2 ∨ k = 3 ∨ k = 4 ∨ k = 5 ∨ k = 6 ∨ k = 8 ∨ k = 9) (a : Option Addr) (n cap : Nat) (zs : List Int) (w : World) (h : Ints w a n zs) (hcap : n ≤ cap) (hn1 : n ≤ 121) :
    Calls Tryd.prog 28 #[.int .i64 k, .slice a n cap] w (EvP (oneL k zs) w) := by
  have hl : zs.length = n := h.1
  by_cases hn : n = 0
  · rw [show oneL k zs = noE from by rw [oneL, if_neg (by omega)]]
    subst hn
    clear hl h
    rcases hk with rfl | rfl | rfl | rfl | rfl | rfl | rfl
    · go_enter Tryd.func28, Tryd.ntmps28
      go_wp2
      exact bodyPost_ret (v := .tuple #[evV 0 0 0 none 0 0, .bool false]) (by simp [results, Tryd.results28, go_sem]) rfl (EvP.no (below2 _ _))
    · go_enter Tryd.func28, Tryd.ntmps28
      go_wp2
      exact bodyPost_ret (v := .tuple #[evV 0 0 0 none 0 0, .bool false]) (by simp [results, Tryd.results28, go_sem]) rfl (EvP.no (below2 _ _))
    · go_enter Tryd.func28, Tryd.ntmps28
      go_wp2
      exact bodyPost_ret (v := .tuple #[evV 0 0 0 none 0 0, .bool false]) (by simp [results, Tryd.results28, go_sem]) rfl (EvP.no (below2 _ _))
    · go_enter Tryd.func28, Tryd.ntmps28
      go_wp2
      exact bodyPost_ret (v := .tuple #[evV 0 0 0 none 0 0, .bool false]) (by simp [results, Tryd.results28, go_sem]) rfl (EvP.no (below2 _ _))
    · go_enter Tryd.func28, Tryd.ntmps28
      go_wp2
      exact bodyPost_ret (v := .tuple #[evV 0 0 0 none 0 0, .bool false]) (by simp [results, Tryd.results28, go_sem]) rfl (EvP.no (below2 _ _))
    · go_enter Tryd.func28, Tryd.ntmps28
      go_wp2
      exact bodyPost_ret (v := .tuple #[evV 0 0 0 none 0 0, .bool false]) (by simp [results, Tryd.results28, go_sem]) rfl (EvP.no (below2 _ _))
    · go_enter Tryd.func28, Tryd.ntmps28
      go_wp2
      exact bodyPost_ret (v := .tuple #[evV 0 0 0 none 0 0, .bool false]) (by simp [results, Tryd.results28, go_sem]) rfl (EvP.no (below2 _ _))
  · have B0 := below2 (w := w) (.cells #[.int .i64 0, .int .i64 0, .int .i64 0, .slice none 0 0] 26) (.cells #[.int .i64 k, .int .i64 0, .int .i64 0, .slice none 0 0] 26)
    have hi := (h.below B0)
    obtain ⟨b, off, rfl, -⟩ := h.pos (by omega)
    have c0 := zs_at hi (i := 0) (by omega)
    obtain ⟨z, hz⟩ : ∃ z, zs[0]?.getD 0 = z := ⟨_, rfl⟩
    rw [hz, Nat.add_zero] at c0
    clear h hi B0
    have p0 : (0 : Int) < (n : Int) := by omega
    have p1 : ¬ (n : Int) = 0 := by omega
    have p2 : ((n : Int) == 0) = false := by simpa using p1
    by_cases hz0 : z < 0
    · rw [show oneL k zs = noE from by rw [oneL, if_neg (by rw [hz]; omega)]]
      clear hl hz
      rcases hk with rfl | rfl | rfl | rfl | rfl | rfl | rfl
      · go_enter Tryd.func28, Tryd.ntmps28
        go_wp2
        exact bodyPost_ret (v := .tuple #[evV 0 0 0 none 0 0, .bool false]) (by simp [results, Tryd.results28, go_sem]) rfl (EvP.no (below2 _ _))
      · go_enter Tryd.func28, Tryd.ntmps28
        go_wp2
        exact bodyPost_ret (v := .tuple #[evV 0 0 0 none 0 0, .bool false]) (by simp [results, Tryd.results28, go_sem]) rfl (EvP.no (below2 _ _))
      · go_enter Tryd.func28, Tryd.ntmps28
        go_wp2
        exact bodyPost_ret (v := .tuple #[evV 0 0 0 none 0 0, .bool false]) (by simp [results, Tryd.results28, go_sem]) rfl (EvP.no (below2 _ _))
      · go_enter Tryd.func28, Tryd.ntmps28
        go_wp2
        exact bodyPost_ret (v := .tuple #[evV 0 0 0 none 0 0, .bool false]) (by simp [results, Tryd.results28, go_sem]) rfl (EvP.no (below2 _ _))
      · go_enter Tryd.func28, Tryd.ntmps28
        go_wp2
        exact bodyPost_ret (v := .tuple #[evV 0 0 0 none 0 0, .bool false]) (by simp [results, Tryd.results28, go_sem]) rfl (EvP.no (below2 _ _))
      · go_enter Tryd.func28, Tryd.ntmps28
        go_wp2
        exact bodyPost_ret (v := .tuple #[evV 0 0 0 none 0 0, .bool false]) (by simp [results, Tryd.results28, go_sem]) rfl (EvP.no (below2 _ _))
      · go_enter Tryd.func28, Tryd.ntmps28
        go_wp2
        exact bodyPost_ret (v := .tuple #[evV 0 0 0 none 0 0, .bool false]) (by simp [results, Tryd.results28, go_sem]) rfl (EvP.no (below2 _ _))
    · have p3 : (1 : Int) ≤ (n : Int) := by omega
      have p4 : (n : Int) ≤ (cap : Int) := by omega
      by_cases h1 : n = 1
      · rw [show oneL k zs = (k, z, 0, [], true) from by rw [oneL, if_pos ⟨by omega, by rw [hz]; omega⟩, hz]]
        subst h1
        clear hl hz
        rcases hk with rfl | rfl | rfl | rfl | rfl | rfl | rfl
        · go_enter Tryd.func28, Tryd.ntmps28
          go_wp2
          all_goals exact bodyPost_ret (v := .tuple #[evV 2 z 0 none 0 0, .bool true]) (by simp [results, Tryd.results28, go_sem]) rfl (EvP.plain (below2 _ _))
        · go_enter Tryd.func28, Tryd.ntmps28
          go_wp2
          all_goals exact bodyPost_ret (v := .tuple #[evV 3 z 0 none 0 0, .bool true]) (by simp [results, Tryd.results28, go_sem]) rfl (EvP.plain (below2 _ _))
        · go_enter Tryd.func28, Tryd.ntmps28
          go_wp2
          all_goals exact bodyPost_ret (v := .tuple #[evV 4 z 0 none 0 0, .bool true]) (by simp [results, Tryd.results28, go_sem]) rfl (EvP.plain (below2 _ _))
        · go_enter Tryd.func28, Tryd.ntmps28
          go_wp2
          all_goals exact bodyPost_ret (v := .tuple #[evV 5 z 0 none 0 0, .bool true]) (by simp [results, Tryd.results28, go_sem]) rfl (EvP.plain (below2 _ _))
        · go_enter Tryd.func28, Tryd.ntmps28
          go_wp2
          all_goals exact bodyPost_ret (v := .tuple #[evV 6 z 0 none 0 0, .bool true]) (by simp [results, Tryd.results28, go_sem]) rfl (EvP.plain (below2 _ _))
        · go_enter Tryd.func28, Tryd.ntmps28
          go_wp2
          all_goals exact bodyPost_ret (v := .tuple #[evV 8 z 0 none 0 0, .bool true]) (by simp [results, Tryd.results28, go_sem]) rfl (EvP.plain (below2 _ _))
        · go_enter Tryd.func28, Tryd.ntmps28
          go_wp2
          all_goals exact bodyPost_ret (v := .tuple #[evV 9 z 0 none 0 0, .bool true]) (by simp [results, Tryd.results28, go_sem]) rfl (EvP.plain (below2 _ _))
      · rw [show oneL k zs = noE from by rw [oneL, if_neg (by omega)]]
        have p5 : (0 : Int) < (n : Int) - 1 := by omega
        clear hl hz
        rcases hk with rfl | rfl | rfl | rfl | rfl | rfl | rfl
        · go_enter Tryd.func28, Tryd.ntmps28
          go_wp2
          exact bodyPost_ret (v := .tuple #[evV 0 0 0 none 0 0, .bool false]) (by simp [results, Tryd.results28, go_sem]) rfl (EvP.no (below2 _ _))
        · go_enter Tryd.func28, Tryd.ntmps28
          go_wp2
          exact bodyPost_ret (v := .tuple #[evV 0 0 0 none 0 0, .bool false]) (by simp [results, Tryd.results28, go_sem]) rfl (EvP.no (below2 _ _))
        · go_enter Tryd.func28, Tryd.ntmps28
          go_wp2
          exact bodyPost_ret (v := .tuple #[evV 0 0 0 none 0 0, .bool false]) (by simp [results, Tryd.results28, go_sem]) rfl (EvP.no (below2 _ _))
        · go_enter Tryd.func28, Tryd.ntmps28
          go_wp2
          exact bodyPost_ret (v := .tuple #[evV 0 0 0 none 0 0, .bool false]) (by simp [results, Tryd.results28, go_sem]) rfl (EvP.no (below2 _ _))
        · go_enter Tryd.func28, Tryd.ntmps28
          go_wp2
          exact bodyPost_ret (v := .tuple #[evV 0 0 0 none 0 0, .bool false]) (by simp [results, Tryd.results28, go_sem]) rfl (EvP.no (below2 _ _))
        · go_enter Tryd.func28, Tryd.ntmps28
          go_wp2
          exact bodyPost_ret (v := .tuple #[evV 0 0 0 none 0 0, .bool false]) (by simp [results, Tryd.results28, go_sem]) rfl (EvP.no (below2 _ _))
        · go_enter Tryd.func28, Tryd.ntmps28
          go_wp2
          exact bodyPost_ret (v := .tuple #[evV 0 0 0 none 0 0, .bool false]) (by simp [results, Tryd.results28, go_sem]) rfl (EvP.no (below2 _ _))

end Go.Proofs.YtmdjcfplhmkocaaDoor
