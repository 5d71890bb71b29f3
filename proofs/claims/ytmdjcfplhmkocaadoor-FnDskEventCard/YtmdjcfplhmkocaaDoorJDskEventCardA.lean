/-
  Lemmas that the claim's last text rests on: DeI, DeS, DeJ, DeN, DeO, DeQ, DeR, DeT, DeU, RdM, DeV.
-/
import Derived.Test.YtmdjcfplhmkocaaDoorDeM
import Derived.Test.YtmdjcfplhmkocaaDoorDeP
import Derived.Test.YtmdjcfplhmkocaaDoorRdL
import Derived.Test.YtmdjcfplhmkocaaDoorTwn
import Derived.Test.YtmdjcfplhmkocaaDoorOwn
import Derived.Test.YtmdjcfplhmkocaaDoorShelf3
import Derived.Test.YtmdjcfplhmkocaaDoorOwn0
namespace Go.Proofs.YtmdjcfplhmkocaaDoor
open Go.RowKit Go.MapKept
set_option linter.unusedVariables false
set_option maxRecDepth 100000

abbrev evV (k t c : Int) (a : Option Addr) (n cap : Nat) : Value := .agg #[.int .i64 k, .int .i64 t, .int .i64 c, .slice a n cap]
/-- An event (kind, place, act, arguments), and whether there is one. -/
abbrev EvR := Int × Int × Int × List Int × Bool
def noE : EvR := (0, 0, 0, [], false)
def bareL (k t : Int) (zs : List Int) : EvR := if zs.length = 0 then (k, t, 0, [], true) else noE
def oneL (k : Int) (zs : List Int) : EvR := if zs.length = 1 ∧ (0 : Int) ≤ zs[0]?.getD 0 then (k, zs[0]?.getD 0, 0, [], true) else noE
def callL (zs : List Int) : EvR := if zs.length = 4 ∧ (0 : Int) ≤ zs[0]?.getD 0 ∧ (0 : Int) ≤ zs[1]?.getD 0 then (1, zs[0]?.getD 0, zs[1]?.getD 0, zs.drop 2, true) else noE
/-- What a reader answers, in new memory. -/
def EvP (r : EvR) (w : World) (e : Ending) (w' : World) : Prop := ∃ a n cap, e = .returned (.tuple #[evV r.1 r.2.1 r.2.2.1 a n cap, .bool r.2.2.2.2]) ∧ r.2.2.2.1.length = n ∧ JA w (.slice a n cap) r.2.2.2.1 w'
theorem EvP.no {w w' : World} (h : Below w.heap.size w w') : EvP noE w (.returned (.tuple #[evV 0 0 0 none 0 0, .bool false])) w' := ⟨none, 0, 0, rfl, rfl, ⟨h, World.ownsRow_nil _ _ _ _⟩⟩
theorem EvP.plain {w w' : World} {k t : Int} (h : Below w.heap.size w w') : EvP (k, t, 0, [], true) w (.returned (.tuple #[evV k t 0 none 0 0, .bool true])) w' := ⟨none, 0, 0, rfl, rfl, ⟨h, World.ownsRow_nil _ _ _ _⟩⟩

theorem below2 {w : World} (o p : Obj) : Below w.heap.size w ((w.alloc o).alloc p) := ((Below.refl w.heap.size w).alloc (Nat.le_refl _) o).alloc (by simp) p
theorem zs_at {W : World} {b off n : Nat} {zs : List Int} (h : Ints W (some ⟨b, off, none⟩) n zs) {i : Nat} (hi : i < n) : W.cell? ⟨b, off + i, none⟩ = some (.int .i64 (zs[i]?.getD 0)) := by
  obtain ⟨b', o', e, hc⟩ := h.pos (by omega)
  cases e
  rw [hc i hi]; simp

set_option maxHeartbeats 3200000 in
theorem ibare_any (k : Int) (hk : k = 7 ∨ k = 10) (a : Option Addr) (n cap : Nat) (zs : List Int) (w : World) (h : Ints w a n zs) :
    Calls Tryd.prog 28 #[.int .i64 k, .slice a n cap] w (EvP (bareL k 0 zs) w) := by
  have hl : zs.length = n := h.1
  by_cases hn : n = 0
  · rw [show bareL k 0 zs = (k, 0, 0, [], true) from by rw [bareL, if_pos (by omega)]]
    subst hn
    clear hl h
    have hi : ¬ (0 : Int) < ((0 : Nat) : Int) := by omega
    rcases hk with rfl | rfl
    · go_enter Tryd.func28, Tryd.ntmps28
      go_wp2
      exact bodyPost_ret (v := .tuple #[evV 7 0 0 none 0 0, .bool true]) (by simp [results, Tryd.results28, go_sem]) rfl (EvP.plain (below2 _ _))
    · go_enter Tryd.func28, Tryd.ntmps28
      go_wp2
      exact bodyPost_ret (v := .tuple #[evV 10 0 0 none 0 0, .bool true]) (by simp [results, Tryd.results28, go_sem]) rfl (EvP.plain (below2 _ _))
  · rw [show bareL k 0 zs = noE from by rw [bareL, if_neg (by omega)]]
    clear hl h
    have hi : (0 : Int) < (n : Int) := by omega
    rcases hk with rfl | rfl
    · go_enter Tryd.func28, Tryd.ntmps28
      go_wp2
      exact bodyPost_ret (v := .tuple #[evV 0 0 0 none 0 0, .bool false]) (by simp [results, Tryd.results28, go_sem]) rfl (EvP.no (below2 _ _))
    · go_enter Tryd.func28, Tryd.ntmps28
      go_wp2
      exact bodyPost_ret (v := .tuple #[evV 0 0 0 none 0 0, .bool false]) (by simp [results, Tryd.results28, go_sem]) rfl (EvP.no (below2 _ _))

set_option maxHeartbeats 6400000 in
theorem ione_any (k : Int) (hk : k = 2 ∨ k = 3 ∨ k = 4 ∨ k = 5 ∨ k = 6 ∨ k = 8 ∨ k = 9) (a : Option Addr) (n cap : Nat) (zs : List Int) (w : World) (h : Ints w a n zs) (hcap : n ≤ cap) (hn1 : n ≤ 121) :
    Calls Tryd.prog 28 #[.int .i64 k, .slice a n cap] w (EvP (oneL k zs) w) := by
  have hl : zs.length = n := h.1
  by_cases hn : n = 0
  · rw [show oneL k zs = noE from by rw [oneL, if_neg (by omega)]]
    subst hn
    clear hl h
    rcases hk with rfl | rfl | rfl | rfl | rfl | rfl | rfl
    · go_enter Tryd.func28, Tryd.ntmps28
      go_wp2
      exact bodyPost_ret (v := .tuple #[evV 0 0 0 none 0 0, .bool false]) (by simp [results, Tryd.results28, go_sem]) rfl (EvP.no (below2 _ _))
    · go_enter Tryd.func28, Tryd.ntmps28
      go_wp2
      exact bodyPost_ret (v := .tuple #[evV 0 0 0 none 0 0, .bool false]) (by simp [results, Tryd.results28, go_sem]) rfl (EvP.no (below2 _ _))
    · go_enter Tryd.func28, Tryd.ntmps28
      go_wp2
      exact bodyPost_ret (v := .tuple #[evV 0 0 0 none 0 0, .bool false]) (by simp [results, Tryd.results28, go_sem]) rfl (EvP.no (below2 _ _))
    · go_enter Tryd.func28, Tryd.ntmps28
      go_wp2
      exact bodyPost_ret (v := .tuple #[evV 0 0 0 none 0 0, .bool false]) (by simp [results, Tryd.results28, go_sem]) rfl (EvP.no (below2 _ _))
    · go_enter Tryd.func28, Tryd.ntmps28
      go_wp2
      exact bodyPost_ret (v := .tuple #[evV 0 0 0 none 0 0, .bool false]) (by simp [results, Tryd.results28, go_sem]) rfl (EvP.no (below2 _ _))
    · go_enter Tryd.func28, Tryd.ntmps28
      go_wp2
      exact bodyPost_ret (v := .tuple #[evV 0 0 0 none 0 0, .bool false]) (by simp [results, Tryd.results28, go_sem]) rfl (EvP.no (below2 _ _))
    · go_enter Tryd.func28, Tryd.ntmps28
      go_wp2
      exact bodyPost_ret (v := .tuple #[evV 0 0 0 none 0 0, .bool false]) (by simp [results, Tryd.results28, go_sem]) rfl (EvP.no (below2 _ _))
  · have B0 := below2 (w := w) (.cells #[.int .i64 0, .int .i64 0, .int .i64 0, .slice none 0 0] 26) (.cells #[.int .i64 k, .int .i64 0, .int .i64 0, .slice none 0 0] 26)
    have hi := (h.below B0)
    obtain ⟨b, off, rfl, -⟩ := h.pos (by omega)
    have c0 := zs_at hi (i := 0) (by omega)
    obtain ⟨z, hz⟩ : ∃ z, zs[0]?.getD 0 = z := ⟨_, rfl⟩
    rw [hz, Nat.add_zero] at c0
    clear h hi B0
    have p0 : (0 : Int) < (n : Int) := by omega
    have p1 : ¬ (n : Int) = 0 := by omega
    have p2 : ((n : Int) == 0) = false := by simpa using p1
    by_cases hz0 : z < 0
    · rw [show oneL k zs = noE from by rw [oneL, if_neg (by rw [hz]; omega)]]
      clear hl hz
      rcases hk with rfl | rfl | rfl | rfl | rfl | rfl | rfl
      · go_enter Tryd.func28, Tryd.ntmps28
        go_wp2
        exact bodyPost_ret (v := .tuple #[evV 0 0 0 none 0 0, .bool false]) (by simp [results, Tryd.results28, go_sem]) rfl (EvP.no (below2 _ _))
      · go_enter Tryd.func28, Tryd.ntmps28
        go_wp2
        exact bodyPost_ret (v := .tuple #[evV 0 0 0 none 0 0, .bool false]) (by simp [results, Tryd.results28, go_sem]) rfl (EvP.no (below2 _ _))
      · go_enter Tryd.func28, Tryd.ntmps28
        go_wp2
        exact bodyPost_ret (v := .tuple #[evV 0 0 0 none 0 0, .bool false]) (by simp [results, Tryd.results28, go_sem]) rfl (EvP.no (below2 _ _))
      · go_enter Tryd.func28, Tryd.ntmps28
        go_wp2
        exact bodyPost_ret (v := .tuple #[evV 0 0 0 none 0 0, .bool false]) (by simp [results, Tryd.results28, go_sem]) rfl (EvP.no (below2 _ _))
      · go_enter Tryd.func28, Tryd.ntmps28
        go_wp2
        exact bodyPost_ret (v := .tuple #[evV 0 0 0 none 0 0, .bool false]) (by simp [results, Tryd.results28, go_sem]) rfl (EvP.no (below2 _ _))
      · go_enter Tryd.func28, Tryd.ntmps28
        go_wp2
        exact bodyPost_ret (v := .tuple #[evV 0 0 0 none 0 0, .bool false]) (by simp [results, Tryd.results28, go_sem]) rfl (EvP.no (below2 _ _))
      · go_enter Tryd.func28, Tryd.ntmps28
        go_wp2
        exact bodyPost_ret (v := .tuple #[evV 0 0 0 none 0 0, .bool false]) (by simp [results, Tryd.results28, go_sem]) rfl (EvP.no (below2 _ _))
    · have p3 : (1 : Int) ≤ (n : Int) := by omega
      have p4 : (n : Int) ≤ (cap : Int) := by omega
      by_cases h1 : n = 1
      · rw [show oneL k zs = (k, z, 0, [], true) from by rw [oneL, if_pos ⟨by omega, by rw [hz]; omega⟩, hz]]
        subst h1
        clear hl hz
        rcases hk with rfl | rfl | rfl | rfl | rfl | rfl | rfl
        · go_enter Tryd.func28, Tryd.ntmps28
          go_wp2
          all_goals exact bodyPost_ret (v := .tuple #[evV 2 z 0 none 0 0, .bool true]) (by simp [results, Tryd.results28, go_sem]) rfl (EvP.plain (below2 _ _))
        · go_enter Tryd.func28, Tryd.ntmps28
          go_wp2
          all_goals exact bodyPost_ret (v := .tuple #[evV 3 z 0 none 0 0, .bool true]) (by simp [results, Tryd.results28, go_sem]) rfl (EvP.plain (below2 _ _))
        · go_enter Tryd.func28, Tryd.ntmps28
          go_wp2
          all_goals exact bodyPost_ret (v := .tuple #[evV 4 z 0 none 0 0, .bool true]) (by simp [results, Tryd.results28, go_sem]) rfl (EvP.plain (below2 _ _))
        · go_enter Tryd.func28, Tryd.ntmps28
          go_wp2
          all_goals exact bodyPost_ret (v := .tuple #[evV 5 z 0 none 0 0, .bool true]) (by simp [results, Tryd.results28, go_sem]) rfl (EvP.plain (below2 _ _))
        · go_enter Tryd.func28, Tryd.ntmps28
          go_wp2
          all_goals exact bodyPost_ret (v := .tuple #[evV 6 z 0 none 0 0, .bool true]) (by simp [results, Tryd.results28, go_sem]) rfl (EvP.plain (below2 _ _))
        · go_enter Tryd.func28, Tryd.ntmps28
          go_wp2
          all_goals exact bodyPost_ret (v := .tuple #[evV 8 z 0 none 0 0, .bool true]) (by simp [results, Tryd.results28, go_sem]) rfl (EvP.plain (below2 _ _))
        · go_enter Tryd.func28, Tryd.ntmps28
          go_wp2
          all_goals exact bodyPost_ret (v := .tuple #[evV 9 z 0 none 0 0, .bool true]) (by simp [results, Tryd.results28, go_sem]) rfl (EvP.plain (below2 _ _))
      · rw [show oneL k zs = noE from by rw [oneL, if_neg (by omega)]]
        have p5 : (0 : Int) < (n : Int) - 1 := by omega
        clear hl hz
        rcases hk with rfl | rfl | rfl | rfl | rfl | rfl | rfl
        · go_enter Tryd.func28, Tryd.ntmps28
          go_wp2
          exact bodyPost_ret (v := .tuple #[evV 0 0 0 none 0 0, .bool false]) (by simp [results, Tryd.results28, go_sem]) rfl (EvP.no (below2 _ _))
        · go_enter Tryd.func28, Tryd.ntmps28
          go_wp2
          exact bodyPost_ret (v := .tuple #[evV 0 0 0 none 0 0, .bool false]) (by simp [results, Tryd.results28, go_sem]) rfl (EvP.no (below2 _ _))
        · go_enter Tryd.func28, Tryd.ntmps28
          go_wp2
          exact bodyPost_ret (v := .tuple #[evV 0 0 0 none 0 0, .bool false]) (by simp [results, Tryd.results28, go_sem]) rfl (EvP.no (below2 _ _))
        · go_enter Tryd.func28, Tryd.ntmps28
          go_wp2
          exact bodyPost_ret (v := .tuple #[evV 0 0 0 none 0 0, .bool false]) (by simp [results, Tryd.results28, go_sem]) rfl (EvP.no (below2 _ _))
        · go_enter Tryd.func28, Tryd.ntmps28
          go_wp2
          exact bodyPost_ret (v := .tuple #[evV 0 0 0 none 0 0, .bool false]) (by simp [results, Tryd.results28, go_sem]) rfl (EvP.no (below2 _ _))
        · go_enter Tryd.func28, Tryd.ntmps28
          go_wp2
          exact bodyPost_ret (v := .tuple #[evV 0 0 0 none 0 0, .bool false]) (by simp [results, Tryd.results28, go_sem]) rfl (EvP.no (below2 _ _))
        · go_enter Tryd.func28, Tryd.ntmps28
          go_wp2
          exact bodyPost_ret (v := .tuple #[evV 0 0 0 none 0 0, .bool false]) (by simp [results, Tryd.results28, go_sem]) rfl (EvP.no (below2 _ _))

end Go.Proofs.YtmdjcfplhmkocaaDoor
namespace Go.Proofs.YtmdjcfplhmkocaaDoor
open Go.RowKit Go.MapKept
set_option linter.unusedVariables false
set_option maxRecDepth 100000

set_option maxHeartbeats 1600000 in
theorem sbare_any (a : Option Addr) (m cap n : Nat) (k t : Int) (zs : List Int) (w : World) (hn : zs.length = n) (hm : m = n + 1) :
    Calls Tryd.prog 19 #[.slice a m cap, evV k t 0 none 0 0] w (EvP (bareL k t zs) w) := by
  by_cases h0 : n = 0
  · rw [show bareL k t zs = (k, t, 0, [], true) from by rw [bareL, if_pos (by omega)]]
    obtain rfl : m = 1 := by omega
    clear hn hm
    go_enter Tryd.func19, Tryd.ntmps19
    go_wp2
    exact bodyPost_ret (v := .tuple #[evV k t 0 none 0 0, .bool true]) (by simp [results, Tryd.results19, go_sem]) rfl (EvP.plain (below2 _ _))
  · rw [show bareL k t zs = noE from by rw [bareL, if_neg (by omega)]]
    have hi : ¬ (m : Int) = 1 := by omega
    have hi2 : ((m : Int) == 1) = false := by simpa using hi
    go_enter Tryd.func19, Tryd.ntmps19
    go_wp2
    exact bodyPost_ret (v := .tuple #[evV 0 0 0 none 0 0, .bool false]) (by simp [results, Tryd.results19, go_sem]) rfl (EvP.no (below2 _ _))

set_option maxHeartbeats 1600000 in
theorem sone_any (a : Option Addr) (n cap : Nat) (k : Int) (zs : List Int) (w : World) (h : Ints w a n zs) :
    Calls Tryd.prog 21 #[.slice a n cap, .int .i64 k] w (EvP (oneL k zs) w) := by
  have hl : zs.length = n := h.1
  by_cases h1 : n = 1
  · subst h1
    have B0 : Below w.heap.size w (w.alloc (.cells #[.int .i64 0, .int .i64 0, .int .i64 0, .slice none 0 0] 26)) := (Below.refl _ _).alloc (Nat.le_refl _) _
    have hi := h.below B0
    obtain ⟨b, off, rfl, -⟩ := h.pos (by omega)
    have c0 := zs_at hi (i := 0) (by omega)
    obtain ⟨z, hz⟩ : ∃ z, zs[0]?.getD 0 = z := ⟨_, rfl⟩
    rw [hz, Nat.add_zero] at c0
    clear h hi B0
    by_cases hz0 : z < 0
    · rw [show oneL k zs = noE from by rw [oneL, if_neg (by rw [hz]; omega)]]
      clear hl hz
      go_enter Tryd.func21, Tryd.ntmps21
      go_wp2
      exact bodyPost_ret (v := .tuple #[evV 0 0 0 none 0 0, .bool false]) (by simp [results, Tryd.results21, go_sem]) rfl (EvP.no ((Below.refl _ _).alloc (Nat.le_refl _) _))
    · rw [show oneL k zs = (k, z, 0, [], true) from by rw [oneL, if_pos ⟨by omega, by rw [hz]; omega⟩, hz]]
      clear hl hz
      go_enter Tryd.func21, Tryd.ntmps21
      go_wp2
      exact bodyPost_ret (v := .tuple #[evV k z 0 none 0 0, .bool true]) (by simp [results, Tryd.results21, go_sem]) rfl (EvP.plain ((Below.refl _ _).alloc (Nat.le_refl _) _))
  · rw [show oneL k zs = noE from by rw [oneL, if_neg (by omega)]]
    have hi : ¬ (n : Int) = 1 := by omega
    have hi2 : ((n : Int) == 1) = false := by simpa using hi
    clear h hl
    go_enter Tryd.func21, Tryd.ntmps21
    go_wp2
    exact bodyPost_ret (v := .tuple #[evV 0 0 0 none 0 0, .bool false]) (by simp [results, Tryd.results21, go_sem]) rfl (EvP.no ((Below.refl _ _).alloc (Nat.le_refl _) _))

theorem nmS_step {ws : List (List UInt8)} {k : Nat} {x : List UInt8} {xs : List Int} (hk : ws[k]? = some x) (h1 : 1 ≤ k) (hx : (numL x).2 = true) (h : nmS (ws.drop 1) = (nmS (ws.drop k)).map (xs ++ ·)) : nmS (ws.drop 1) = (nmS (ws.drop (k + 1))).map ((xs ++ [(numL x).1]) ++ ·) := by
  have e : (ws.drop 1)[k - 1]? = some x := by rw [List.getElem?_drop, show 1 + (k - 1) = k by omega]; exact hk
  have := nmS_drop (ws := ws.drop 1) (k := k - 1) (xs := xs) e hx (by rw [List.drop_drop, show 1 + (k - 1) = k by omega]; exact h)
  rw [List.drop_drop, show 1 + (k - 1 + 1) = k + 1 by omega] at this
  exact this
theorem nmS_bad1 {ws : List (List UInt8)} {k : Nat} {x : List UInt8} {xs : List Int} (hk : ws[k]? = some x) (h1 : 1 ≤ k) (hx : ¬ (numL x).2 = true) (h : nmS (ws.drop 1) = (nmS (ws.drop k)).map (xs ++ ·)) : nmS (ws.drop 1) = none := by
  have e : (ws.drop 1)[k - 1]? = some x := by rw [List.getElem?_drop, show 1 + (k - 1) = k by omega]; exact hk
  exact nmS_bad (ws := ws.drop 1) (k := k - 1) (xs := xs) e hx (by rw [List.drop_drop, show 1 + (k - 1) = k by omega]; exact h)
set_option maxHeartbeats 3200000 in
theorem snums_any (ws : List (List UInt8)) (g n cap : Nat) (w : World) (hn : ws.length = n) (hn1 : n ≤ 121) (hb : n = 0 ∨ g < w.heap.size) (hW : ∀ (i : Nat) (x : List UInt8), ws[i]? = some x → w.cell? ⟨g, i, none⟩ = some (.string ⟨x.toArray⟩)) (hws : ∀ x ∈ ws, x.length ≤ 120) :
    Calls Tryd.prog 18 #[.slice (some ⟨g, 0, none⟩) n cap] w fun e w' => ∃ v xs ok, e = .returned (.tuple #[v, .bool ok]) ∧ JA w v xs w' ∧ (ok = true → nmS (ws.drop 1) = some xs) ∧ (ok = false → nmS (ws.drop 1) = none) := by
  have HN : Hid _ := hn
  have HW : Hid _ := hW
  have HS : Hid _ := hws
  clear hn hW hws
  obtain ⟨i0, hi, hz0, hz1, hz2⟩ := info_parts Tryd.infoInt
  go_enter Tryd.func18, Tryd.ntmps18
  go_wp2_with fail
  go_loopw [4, 5, 6, 7] (fun v i _ _ wr => ∃ (k : Nat) (xs : List Int), 1 ≤ k ∧ (k ≤ n ∨ k = 1) ∧ i = .int .i64 k ∧ xs.length + 1 = k ∧ nmS (ws.drop 1) = (nmS (ws.drop k)).map (xs ++ ·) ∧ JA w v xs wr) (fun _ i _ _ _ => n - (intOf i).toNat)
  case atStart => exact ⟨1, [], by omega, Or.inr rfl, rfl, rfl, by simp, JA.lit w⟩
  case round =>
    obtain ⟨k, xs, hk1, hk, rfl, hxl, hxs, j⟩ := hrel
    have HXL : Hid _ := hxl
    have HXS : Hid _ := hxs
    clear hxl hxs
    have hjb := j.b.size
    by_cases hlt : k < n
    · obtain ⟨x, hx⟩ : ∃ x, ws[k]? = some x := ⟨_, List.getElem?_eq_getElem (by rw [HN.out]; exact hlt)⟩
      have hck : wr.cell? ⟨g, k, none⟩ = some (.string ⟨x.toArray⟩) := by
        rw [j.b.cell (p := ⟨g, k, none⟩) (hb.resolve_left (by omega))]; exact HW.out k x hx
      have hxlen : x.length ≤ 120 := HS.out x (List.mem_of_getElem? hx)
      have HX : Hid (ws[k]? = some x) := hx
      clear hx
      go_wp2_with fail
      refine (num_any x _ hxlen).mono ?_
      rintro e w2 ⟨rfl, rfl⟩
      by_cases hx : (numL x).2 = true
      · have HV : Hid _ := nmS_step HX.out hk1 hx HXS.out
        rw [hx]
        generalize HZ : (numL x).1 = z at HV
        clear HZ hx
        have jo := j.o
        rw [show xs.length = k - 1 by have := HXL.out; omega] at jo
        go_wp2_with (at_builtin; go_must (refine wpList_append_lies _ rfl (.tmp 26) (.tmp 28) 24 rfl w.heap.size 3 i0 (.int .i64 0) 1 8 Tryd.underlying24 hi hz0 hz1 hz2 rfl (by decide) _ _ _ rfl (jo.alloc _) ⟨w2.heap.size, 0, none⟩ 1 1 [.int .i64 z] rfl rfl (news1 _ _ _) (one1 _ _) (by omega) (by unfold maxLen; omega) (by omega) (by rw [World.size_alloc]; omega) _ rfl ?_); intro gg cp w3 hown hgrow hat hlt1)
        have j3 := j.app (by have := HXL.out; omega) hown hgrow
        rw [show k - 1 + 1 = k by omega] at j3
        clear hown hgrow jo j hat
        go_wp2
        go_roundw
        case rel => exact ⟨k + 1, _, by omega, by omega, by go_num, by rw [List.length_append, ← HXL.out]; simp, HV.out, j3⟩
        case measure => simp [intOf]; omega
      · have HV : Hid (nmS (ws.drop 1) = none) := nmS_bad1 HX.out hk1 hx HXS.out
        have hf : (numL x).2 = false := by cases h : (numL x).2 with
          | true => exact absurd h hx
          | false => rfl
        rw [hf]
        have JL : JA w (.slice (some ⟨w2.heap.size, 0, none⟩) 0 0) [] (w2.alloc (.cells #[] 3)) := ⟨j.b.alloc j.b.size _, World.ownsRow_lit w2 #[] 0 j.b.size (by unfold maxLen; omega) rfl⟩
        go_wp2
        refine bodyPost_ret (v := .tuple #[.slice (some ⟨w2.heap.size, 0, none⟩) 0 0, .bool false]) (by simp [results, Tryd.results18, go_sem]) rfl ?_
        exact ⟨_, [], false, rfl, JL, (fun h => by cases h), (fun _ => HV.out)⟩
    · have HV : Hid (nmS (ws.drop 1) = some xs) := by
        show _ = _
        rw [HXS.out, List.drop_of_length_le (by rw [HN.out]; omega)]
        simp [nmS]
      go_wp2
      refine bodyPost_ret (v := .tuple #[_, .bool true]) (by simp [results, Tryd.results18, go_sem]; rfl) rfl ?_
      exact ⟨_, xs, true, rfl, j, (fun _ => HV.out), (fun h => by cases h)⟩

end Go.Proofs.YtmdjcfplhmkocaaDoor
namespace Go.Proofs.YtmdjcfplhmkocaaDoor
open Go.RowKit Go.MapKept
set_option linter.unusedVariables false
set_option linter.unusedSimpArgs false
set_option maxRecDepth 100000

theorem Ints.blkB' {w : World} {b off n : Nat} {zs : List Int} (h : Ints w (some ⟨b, off, none⟩) n zs) (hn : 0 < n) : b < w.heap.size := block_lt (zs_at h (i := 0) hn)
theorem Ints.drop2 {W : World} {b off : Nat} {zs : List Int} (h : Ints W (some ⟨b, off, none⟩) 4 zs) : Ints W (some ⟨b, off + 2, none⟩) 2 (zs.drop 2) := ⟨by rw [List.length_drop, h.1], fun i hi => ⟨b, off + 2, rfl, by
  have c := zs_at h (i := 2 + i) (by omega)
  rw [← Nat.add_assoc] at c
  rw [c, List.getD_eq_getElem?_getD, List.getElem?_drop]⟩⟩
theorem clone2_any (a : Option Addr) (cap : Nat) (zs : List Int) (w : World) (h : Ints w a 2 zs) :
    Calls Tryd.prog 37 #[.slice a 2 cap] w fun e w' => ∃ a' c', e = .returned (.slice a' 2 c') ∧ JA w (.slice a' 2 c') zs w' := by
  refine (clone_any a 2 cap zs w h (by omega) (by omega)).mono ?_
  rintro e w' ⟨v, rfl, j⟩
  obtain ⟨a', c', e, -⟩ := j.ints
  rw [h.1] at e
  exact ⟨a', c', by rw [e], by rw [← e]; exact j⟩
theorem own_weak {W : World} {m n : Nat} {e : TypeId} {k : Nat} {v : Value} {c : Nat} {xs : List Value} (h : W.ownsRow m e k v c xs) (hm : n ≤ m) : W.ownsRow n e k v c xs := ⟨h.1, by
  rcases h.2 with h2 | ⟨g, cap, cur, hv, hg, r⟩
  · exact Or.inl h2
  · exact Or.inr ⟨g, cap, cur, hv, Nat.le_trans hm hg, r⟩⟩
theorem own_set {W : World} {m : Nat} {e : TypeId} {k : Nat} {v : Value} {c : Nat} {xs : List Value} (h : W.ownsRow m e k v c xs) {r : Nat} (hr : r < m) (i : Nat) (x : Value) : (W.setCell ⟨r, i, none⟩ x).ownsRow m e k v c xs := by
  refine ⟨h.1, ?_⟩
  rcases h.2 with h2 | ⟨g, cap, cur, hv, hg, hh, q⟩
  · exact Or.inl h2
  · refine Or.inr ⟨g, cap, cur, hv, hg, ?_, q⟩
    rw [Below.heap_setCell _ _ _ _ (show g ≠ r by omega)]; exact hh
set_option maxHeartbeats 4000000 in
theorem icall_any (a : Option Addr) (n cap : Nat) (zs : List Int) (w : World) (h : Ints w a n zs) (hcap : n ≤ cap) :
    Calls Tryd.prog 28 #[.int .i64 1, .slice a n cap] w (EvP (callL zs) w) := by
  have hl : zs.length = n := h.1
  by_cases hn : n = 4
  · subst hn
    obtain ⟨b, off, rfl, -⟩ := h.pos (by omega)
    have hb := h.blkB' (by omega)
    have B0 := below2 (w := w) (.cells #[.int .i64 0, .int .i64 0, .int .i64 0, .slice none 0 0] 26) (.cells #[.int .i64 1, .int .i64 0, .int .i64 0, .slice none 0 0] 26)
    have hi := h.below B0
    have c0 := zs_at hi (i := 0) (by omega)
    have c1 := zs_at hi (i := 1) (by omega)
    have c1' : ∀ X : World, Below w.heap.size w X → X.cell? ⟨b, off + 1, none⟩ = some (.int .i64 (zs[1]?.getD 0)) := fun X hX => zs_at (h.below hX) (i := 1) (by omega)
    have hd := hi.drop2
    obtain ⟨z0, hz0⟩ : ∃ z, zs[0]?.getD 0 = z := ⟨_, rfl⟩
    obtain ⟨z1, hz1⟩ : ∃ z, zs[1]?.getD 0 = z := ⟨_, rfl⟩
    rw [hz0, Nat.add_zero] at c0
    rw [hz1] at c1 c1'
    have p4 : (4 : Int) ≤ (cap : Int) := by omega
    by_cases h1 : z1 < 0
    · rw [show callL zs = noE from by rw [callL, if_neg (by rw [hz1]; omega)]]
      clear hl hz0 hz1 h hi hd
      go_enter Tryd.func28, Tryd.ntmps28
      go_wp2
      exact bodyPost_ret (v := .tuple #[evV 0 0 0 none 0 0, .bool false]) (by simp [results, Tryd.results28, go_sem]) rfl (EvP.no (below2 _ _))
    · have HC : Hid (callL zs = if (0 : Int) ≤ z0 then (1, z0, z1, zs.drop 2, true) else noE) := by
        show _ = _
        rw [callL, hz0, hz1]
        by_cases q : (0 : Int) ≤ z0
        · rw [if_pos q, if_pos ⟨by omega, q, by omega⟩]
        · rw [if_neg q, if_neg (fun x => q x.2.1)]
      obtain ⟨xs, hxs⟩ : ∃ xs, zs.drop 2 = xs := ⟨_, rfl⟩
      have HL2 : Hid (xs.length = 2) := by show _ = _; rw [← hxs, List.length_drop]; omega
      rw [hxs] at hd HC
      have r0 := (Cel.new w [.int .i64 0, .int .i64 0, .int .i64 0, .slice none 0 0] 26).alloc (.cells #[.int .i64 1, .int .i64 0, .int .i64 0, .slice none 0 0] 26)
      have e0 := Cel.new (w.alloc (.cells #[.int .i64 0, .int .i64 0, .int .i64 0, .slice none 0 0] 26)) [.int .i64 1, .int .i64 0, .int .i64 0, .slice none 0 0] 26
      rw [World.size_alloc] at e0
      clear hl hz0 hz1 h hi hxs
      go_enter Tryd.func28, Tryd.ntmps28
      go_upto_region 13 with fail
      obtain ⟨W0, hW0⟩ : ∃ W, W = (w.alloc (.cells #[.int .i64 0, .int .i64 0, .int .i64 0, .slice none 0 0] 26)).alloc (.cells #[.int .i64 1, .int .i64 0, .int .i64 0, .slice none 0 0] 26) := ⟨_, rfl⟩
      rw [← hW0] at r0 e0 B0 c0 c1 hd ⊢
      have cd : W0.drew.cell? ⟨b, off + 1, none⟩ = some (.int .i64 z1) := c1
      clear hW0
      have hd2 : Ints W0.drew (some ⟨b, off + 2, none⟩) 2 xs := hd.below (Below.refl _ _).drew
      have lb : b < W0.heap.size := by have := e0.lt; omega
      go_region_with (first | (go_at_call 37; refine (clone2_any _ _ xs _ (by exact hd2)).mono ?_; rintro ee w1 ⟨a', c', rfl, j1⟩; have bd1 := j1.b; have b1 := below_of_drew bd1; have r1 := r0.below b1; have e1 := e0.below b1; have d1 : w1.cell? ⟨b, off + 1, none⟩ = some (.int .i64 z1) := (b1.cell (p := ⟨b, off + 1, none⟩) lb).trans c1; have f2 := e1.cell 2; have f3 := e1.cell 3; have q2 := e1.free 2; have q3 := e1.free 3; simp only [List.getElem?_cons_zero, List.getElem?_cons_succ] at f2 f3))
      all_goals
        have d0 : w1.cell? ⟨b, off, none⟩ = some (.int .i64 z0) := (b1.cell (p := ⟨b, off, none⟩) lb).trans c0
        have f0 := e1.cell 0
        have f1 := e1.cell 1
        have q0 := e1.free 0
        have q1 := e1.free 1
        have g0 := r1.cell 0
        have g1 := r1.cell 1
        have g2 := r1.cell 2
        have g3 := r1.cell 3
        have k0 := r1.free 0
        have k1 := r1.free 1
        have k2 := r1.free 2
        have k3 := r1.free 3
        simp only [List.getElem?_cons_zero, List.getElem?_cons_succ] at f0 f1 g0 g1 g2 g3
        have lw : w.heap.size + 1 < w1.heap.size := e1.lt
        have hne : ¬ b = w.heap.size + 1 := by omega
        have BB : Below w.heap.size w w1 := B0.trans (b1.mono B0.size)
        have lw0 : w.heap.size < W0.drew.heap.size := by have h : w.heap.size + 1 < W0.heap.size := e0.lt; show w.heap.size < W0.heap.size; omega
        have lw1 : w.heap.size + 1 < W0.drew.heap.size := by have h : w.heap.size + 1 < W0.heap.size := e0.lt; exact h
        have hne2 : ¬ b = w.heap.size := by omega
        by_cases hz : 0 ≤ z0
        · have hz' : ¬ z0 < 0 := by omega
          go_wp2
          all_goals rw [HC.out, if_pos (by omega)]
          all_goals exact bodyPost_ret (v := .tuple #[evV 1 z0 z1 a' 2 c', .bool true]) (by simp [results, Tryd.results28, go_sem, g0, g1, g2, g3]) rfl ⟨a', 2, c', rfl, HL2.out, ⟨by repeat (first | refine Below.setCell ?_ (by simp) _ | exact BB), own_weak (by repeat (first | refine own_set ?_ (by first | exact lw0 | exact lw1) _ _ | exact j1.o)) B0.size⟩⟩
        · have hz' : z0 < 0 := by omega
          go_wp2
          all_goals rw [HC.out, if_neg (by omega)]
          all_goals exact bodyPost_ret (v := .tuple #[evV 0 0 0 none 0 0, .bool false]) (by simp [results, Tryd.results28, go_sem, g0, g1, g2, g3]) rfl (EvP.no (by repeat (first | refine Below.setCell ?_ (by simp) _ | exact BB)))
  · rw [show callL zs = noE from by rw [callL, if_neg (by omega)]]
    clear hl h
    have hi : ¬ (n : Int) = 4 := by omega
    have hi2 : ((n : Int) == 4) = false := by simpa using hi
    go_enter Tryd.func28, Tryd.ntmps28
    go_wp2
    exact bodyPost_ret (v := .tuple #[evV 0 0 0 none 0 0, .bool false]) (by simp [results, Tryd.results28, go_sem]) rfl (EvP.no (below2 _ _))

end Go.Proofs.YtmdjcfplhmkocaaDoor
namespace Go.Proofs.YtmdjcfplhmkocaaDoor
open Go.RowKit Go.MapKept
set_option linter.unusedVariables false
set_option maxRecDepth 100000

/-- What strings.Cut answers where it cuts at a blank, in this world and in all behind it. -/
def CutsB (w : World) : Prop := ∀ W, Below w.heap.size w W → ∀ s : List UInt8, s.length ≤ 1048576 → Calls Tryd.prog 30 #[.string ⟨s.toArray⟩, .string ⟨#[32]⟩] W fun e w' =>
  e = .returned (.tuple #[.string ⟨(Lib.cut s [32]).1.toArray⟩, .string ⟨(Lib.cut s [32]).2.1.toArray⟩, .bool (Lib.cut s [32]).2.2]) ∧ Below W.heap.size W w'
theorem CutsB.below {w w' : World} (h : CutsB w) (b : Below w.heap.size w w') : CutsB w' := fun W hW => h W (b.trans (hW.mono b.size))
theorem cutsB_of (w : World) (m : Int) (hm : w.cell? ⟨Tryd.lays145_ren.g 1, 0, none⟩ = some (.int .i64 m)) : CutsB w := fun W b s hs => by
  have hmW : W.cell? ⟨Tryd.lays145_ren.g 1, 0, none⟩ = some (.int .i64 m) := by rw [b.cell (p := ⟨_, 0, none⟩) (block_lt hm)]; exact hm
  have hss : (⟨s.toArray⟩ : ByteArray).size < 4294967281 := by show s.toArray.size < _; rw [List.size_toArray]; omega
  refine (Any.strings_Cut Tryd.lays145 ⟨s.toArray⟩ ⟨#[32]⟩ m W hss hmW).mono ?_
  rintro e w' ⟨rfl, n, rfl⟩
  exact ⟨rfl, below_drewN (Below.refl _ _) n⟩
theorem ifirst_any (l : List UInt8) (w : World) (hl : l.length ≤ 1048576) (hC : CutsB w) :
    Calls Tryd.prog 15 #[.string ⟨l.toArray⟩] w fun e w' => e = .returned (.string ⟨(Lib.cut l [32]).1.toArray⟩) ∧ Below w.heap.size w w' := by
  go_enter Tryd.func15, Tryd.ntmps15
  go_wp2_with fail
  refine (hC w (Below.refl _ _) l hl).mono ?_
  rintro e w1 ⟨rfl, b1⟩
  go_wp2
  go_ret
  exact ⟨rfl, b1⟩

theorem atoiS_len' : ∀ {ws : List (List UInt8)} {xs : List Int}, atoiS ws = some xs → xs.length = ws.length := fun h => atoiS_len h
/-- The numbers of a line, as both sides read them. -/
def lineN (l : List UInt8) : Option (List Int) := if l.length ≤ 120 then nmS ((wordsOf l).drop 1) else none

set_option maxHeartbeats 1600000 in
theorem inol_any (l : List UInt8) (w : World) (hl : l.length ≤ 1048576) (hA : ReadsN w) (hSp : Splits w) (hT : Lib.TabBelow Tryd.prog w.heap.size w "internal/strconv.uint64pow10" .u64 Lib.pow10Tab) :
    Calls Tryd.prog 16 #[.string ⟨l.toArray⟩] w fun e w' => ∃ v xs ok, e = .returned (.tuple #[v, .bool ok]) ∧ JA w v xs w' ∧ (ok = true → lineN l = some xs) ∧ (ok = false → lineN l = none) := by
  have HA : Hid _ := hA
  have HP : Hid _ := hSp
  have HT : Hid _ := hT
  clear hA hSp hT
  by_cases h120 : l.length ≤ 120
  · have hi : ¬ (120 : Int) < (l.length : Int) := by omega
    obtain ⟨x0, ws, hws⟩ : ∃ x0 ws, wordsOf l = x0 :: ws := by
      cases h : wordsOf l with
      | nil => exact absurd h (words_ne l)
      | cons a b => exact ⟨a, b, rfl⟩
    have HWS : Hid _ := hws
    obtain ⟨n, hn⟩ : ∃ n, ws.length = n := ⟨_, rfl⟩
    have HN : Hid _ := hn
    have hn121 : n ≤ 121 := by rw [← hn]; exact words_few h120 hws
    have HS : Hid (∀ x ∈ ws, x.length ≤ 120) := fun x hx => Nat.le_trans (words_short hws x hx) h120
    have hx0 : x0.length ≤ 120 := by
      have h := congrArg List.length (words_whole hws).1
      rw [List.length_append] at h
      omega
    have HLEN : Hid ((wordsOf l).length = n + 1) := by show _ = _; rw [hws, List.length_cons, hn]
    have HE : Hid (lineN l = nmI l x0 ws) := by show _ = _; rw [lineN, if_pos h120, nm_same hws, hws]; rfl
    clear hws hn
    go_enter Tryd.func16, Tryd.ntmps16
    go_wp2_with fail
    refine (HP.out w (Below.refl _ _) l h120).mono ?_
    rintro e w1 ⟨rfl, hg, hcs, b1⟩
    rw [HLEN.out]
    have c0 : w1.cell? ⟨w.heap.size, 0, none⟩ = some (.string ⟨x0.toArray⟩) := hcs 0 x0 (by rw [HWS.out]; rfl)
    have HCS : Hid (∀ (i : Nat) (x : List UInt8), ws[i]? = some x → w1.cell? ⟨w.heap.size, 1 + i, none⟩ = some (.string ⟨x.toArray⟩)) := fun i x hx => hcs (1 + i) x (by rw [HWS.out, Nat.add_comm]; exact hx)
    have HW2 : Hid (∀ o : Nat, n = 0 ∨ o = 1 → ∀ (i : Nat) (x : List UInt8), ws[i]? = some x → w1.cell? ⟨w.heap.size, o + i, none⟩ = some (.string ⟨x.toArray⟩)) := fun o ho i x hx => by
      rcases ho with ho | rfl
      · exact absurd (List.getElem?_eq_some_iff.1 hx).1 (by have := HN.out; omega)
      · exact HCS.out i x hx
    clear hcs HCS
    rcases Nat.eq_zero_or_pos n with hz | hz
    · subst hz
      have HW3 : ∀ (o i : Nat) (x : List UInt8), ws[i]? = some x → w1.cell? ⟨w.heap.size, o + i, none⟩ = some (.string ⟨x.toArray⟩) := fun o i x hx => absurd (List.getElem?_eq_some_iff.1 hx).1 (by have := HN.out; omega)
      go_wp2_with fail
      refine (inums_any ws w.heap.size _ _ _ w1 HN.out hn121 hg (HW3 _) HS.out (ReadsN.below HA.out b1)).mono ?_
      rintro e w2 ⟨v, xs, ok, rfl, j, hok, hnok⟩
      obtain ⟨a, cap, rfl, hcap, hI, -⟩ := j.ints
      have J : JA w (.slice a xs.length cap) xs w2 := ⟨b1.trans (j.b.mono b1.size), own_weak j.o b1.size⟩
      obtain ⟨q, hq⟩ : ∃ q, xs.length = q := ⟨_, rfl⟩
      rw [hq] at J hI ⊢
      have c2 : w2.cell? ⟨w.heap.size, 0, none⟩ = some (.string ⟨x0.toArray⟩) := (j.b.cell (p := ⟨w.heap.size, 0, none⟩) hg).trans c0
      cases ok with
      | false =>
        have HR : Hid (lineN l = none) := by show _ = _; rw [HE.out, nmI, hnok rfl]
        clear hok hnok j
        go_wp2
        refine bodyPost_ret (v := .tuple #[.slice none 0 0, .bool false]) (by simp [results, Tryd.results16, go_sem]) rfl ?_
        exact ⟨_, [], false, rfl, ⟨J.b, World.ownsRow_nil _ _ _ _⟩, (fun h => by cases h), (fun _ => HR.out)⟩
      | true =>
        have HX : Hid (atoiS ws = some xs) := hok rfl
        have HQ : Hid (xs.length = q) := hq
        have hq1 : q ≤ 1000 := by rw [← hq, atoiS_len' HX.out, HN.out]; omega
        clear hok hnok j hq hcap
        go_wp2_with fail
        refine (within_any a q cap xs 999999999999 w2 hI (by omega) (by omega) (by omega)).mono ?_
        rintro e w3 ⟨rfl, rfl⟩
        cases hB : allB 999999999999 xs with
        | false =>
          have HR : Hid (lineN l = none) := by show _ = _; rw [HE.out, nmI, HX.out]; simp [hB]
          clear hB
          go_wp2
          refine bodyPost_ret (v := .tuple #[.slice none 0 0, .bool false]) (by simp [results, Tryd.results16, go_sem]) rfl ?_
          exact ⟨_, [], false, rfl, ⟨J.b, World.ownsRow_nil _ _ _ _⟩, (fun h => by cases h), (fun _ => HR.out)⟩
        | true =>
          have HB : Hid (allB 999999999999 xs = true) := hB
          have hz : ∀ i : Nat, -999999999999 ≤ xs[i]?.getD 0 ∧ xs[i]?.getD 0 ≤ 999999999999 := fun i => by
            cases hx : xs[i]? with
            | none => simp
            | some z => exact allB_iff.1 HB.out z (List.mem_of_getElem? hx)
          clear hB
          go_wp2_with fail
          refine (itwn_any x0 a q cap xs _ hI hq1 (by omega) hz (fun w' h' => HT.out w' (J.b.trans (h'.mono J.b.size)))).mono ?_
          rintro e w4 ⟨rfl, b4⟩
          have J4 := J.below b4
          obtain ⟨T, hTx⟩ : ∃ T, x0 ++ tailL xs = T := ⟨_, rfl⟩
          rw [hTx]
          have HTX : Hid _ := hTx
          clear hTx hz
          by_cases he : T = l
          · have hE : (T == l) = true := by rw [he]; simp
            have hE2 : (T != l) = false := by rw [he]; simp
            have HR : Hid (lineN l = some xs) := by show _ = _; rw [HE.out, nmI, HX.out]; simp [HB.out, HTX.out, he]
            clear he
            go_wp2
            refine bodyPost_ret (v := .tuple #[.slice a q cap, .bool true]) (by simp [results, Tryd.results16, go_sem]) rfl ?_
            exact ⟨_, xs, true, rfl, J4, (fun _ => HR.out), (fun h => by cases h)⟩
          · have hE : (T == l) = false := by simpa using he
            have hE2 : (T != l) = true := by simpa using he
            have HR : Hid (lineN l = none) := by show _ = _; rw [HE.out, nmI, HX.out]; simp [HB.out, HTX.out, he]
            clear he
            go_wp2
            refine bodyPost_ret (v := .tuple #[.slice none 0 0, .bool false]) (by simp [results, Tryd.results16, go_sem]) rfl ?_
            exact ⟨_, [], false, rfl, ⟨J4.b, World.ownsRow_nil _ _ _ _⟩, (fun h => by cases h), (fun _ => HR.out)⟩
    · have hnz : ¬ n = 0 := by omega
      go_wp2_with fail
      refine (inums_any ws w.heap.size _ _ _ w1 HN.out hn121 hg (HW2.out _ (by omega)) HS.out (ReadsN.below HA.out b1)).mono ?_
      rintro e w2 ⟨v, xs, ok, rfl, j, hok, hnok⟩
      obtain ⟨a, cap, rfl, hcap, hI, -⟩ := j.ints
      have J : JA w (.slice a xs.length cap) xs w2 := ⟨b1.trans (j.b.mono b1.size), own_weak j.o b1.size⟩
      obtain ⟨q, hq⟩ : ∃ q, xs.length = q := ⟨_, rfl⟩
      rw [hq] at J hI ⊢
      have c2 : w2.cell? ⟨w.heap.size, 0, none⟩ = some (.string ⟨x0.toArray⟩) := (j.b.cell (p := ⟨w.heap.size, 0, none⟩) hg).trans c0
      cases ok with
      | false =>
        have HR : Hid (lineN l = none) := by show _ = _; rw [HE.out, nmI, hnok rfl]
        clear hok hnok j
        go_wp2
        refine bodyPost_ret (v := .tuple #[.slice none 0 0, .bool false]) (by simp [results, Tryd.results16, go_sem]) rfl ?_
        exact ⟨_, [], false, rfl, ⟨J.b, World.ownsRow_nil _ _ _ _⟩, (fun h => by cases h), (fun _ => HR.out)⟩
      | true =>
        have HX : Hid (atoiS ws = some xs) := hok rfl
        have HQ : Hid (xs.length = q) := hq
        have hq1 : q ≤ 1000 := by rw [← hq, atoiS_len' HX.out, HN.out]; omega
        clear hok hnok j hq hcap
        go_wp2_with fail
        refine (within_any a q cap xs 999999999999 w2 hI (by omega) (by omega) (by omega)).mono ?_
        rintro e w3 ⟨rfl, rfl⟩
        cases hB : allB 999999999999 xs with
        | false =>
          have HR : Hid (lineN l = none) := by show _ = _; rw [HE.out, nmI, HX.out]; simp [hB]
          clear hB
          go_wp2
          refine bodyPost_ret (v := .tuple #[.slice none 0 0, .bool false]) (by simp [results, Tryd.results16, go_sem]) rfl ?_
          exact ⟨_, [], false, rfl, ⟨J.b, World.ownsRow_nil _ _ _ _⟩, (fun h => by cases h), (fun _ => HR.out)⟩
        | true =>
          have HB : Hid (allB 999999999999 xs = true) := hB
          have hz : ∀ i : Nat, -999999999999 ≤ xs[i]?.getD 0 ∧ xs[i]?.getD 0 ≤ 999999999999 := fun i => by
            cases hx : xs[i]? with
            | none => simp
            | some z => exact allB_iff.1 HB.out z (List.mem_of_getElem? hx)
          clear hB
          go_wp2_with fail
          refine (itwn_any x0 a q cap xs _ hI hq1 (by omega) hz (fun w' h' => HT.out w' (J.b.trans (h'.mono J.b.size)))).mono ?_
          rintro e w4 ⟨rfl, b4⟩
          have J4 := J.below b4
          obtain ⟨T, hTx⟩ : ∃ T, x0 ++ tailL xs = T := ⟨_, rfl⟩
          rw [hTx]
          have HTX : Hid _ := hTx
          clear hTx hz
          by_cases he : T = l
          · have hE : (T == l) = true := by rw [he]; simp
            have hE2 : (T != l) = false := by rw [he]; simp
            have HR : Hid (lineN l = some xs) := by show _ = _; rw [HE.out, nmI, HX.out]; simp [HB.out, HTX.out, he]
            clear he
            go_wp2
            refine bodyPost_ret (v := .tuple #[.slice a q cap, .bool true]) (by simp [results, Tryd.results16, go_sem]) rfl ?_
            exact ⟨_, xs, true, rfl, J4, (fun _ => HR.out), (fun h => by cases h)⟩
          · have hE : (T == l) = false := by simpa using he
            have hE2 : (T != l) = true := by simpa using he
            have HR : Hid (lineN l = none) := by show _ = _; rw [HE.out, nmI, HX.out]; simp [HB.out, HTX.out, he]
            clear he
            go_wp2
            refine bodyPost_ret (v := .tuple #[.slice none 0 0, .bool false]) (by simp [results, Tryd.results16, go_sem]) rfl ?_
            exact ⟨_, [], false, rfl, ⟨J4.b, World.ownsRow_nil _ _ _ _⟩, (fun h => by cases h), (fun _ => HR.out)⟩
  · have hi : (120 : Int) < (l.length : Int) := by omega
    go_enter Tryd.func16, Tryd.ntmps16
    go_wp2
    refine bodyPost_ret (v := .tuple #[.slice none 0 0, .bool false]) (by simp [results, Tryd.results16, go_sem]) rfl ?_
    exact ⟨_, [], false, rfl, JA.nil w, (fun h => by cases h), (fun _ => by rw [lineN, if_neg h120])⟩

end Go.Proofs.YtmdjcfplhmkocaaDoor
namespace Go.Proofs.YtmdjcfplhmkocaaDoor
open Go.RowKit Go.MapKept
set_option linter.unusedVariables false
set_option maxRecDepth 100000

theorem cut_first (l : List UInt8) : (Lib.cut l [32]).1 = (wordsOf l).headD [] := by
  have hi : ∀ z, Lib.indexByte l 32 = z → Lib.index l [32] = z := fun z h => by rw [Lib.index_one]; exact h
  by_cases h : Lib.indexByte l 32 = -1
  · rw [Lib.cut, hi _ h, if_neg (by omega), words_plain (indexByte_none h)]
    rfl
  · obtain ⟨i, h1, h2, h3⟩ := indexByte_some h
    rw [Lib.cut, hi _ h1, if_pos (by omega)]
    have e : wordsOf l = l.take i :: wordsOf (l.drop (i + 1)) := by
      have := words_cut (w := l.take i) (r := l.drop (i + 1)) h2
      rw [← h3] at this
      exact this
    rw [e]
    simp

end Go.Proofs.YtmdjcfplhmkocaaDoor
namespace Go.Proofs.YtmdjcfplhmkocaaDoor
open Go.RowKit Go.MapKept
set_option linter.unusedVariables false
set_option linter.unusedSimpArgs false
set_option maxRecDepth 100000

theorem Cel.put4 {w : World} {B : Nat} {x0 x1 x2 x3 : Value} {t : TypeId} (r : Cel w B [x0, x1, x2, x3] t) (y0 y1 y2 y3 : Value) : Cel ((((w.setCell ⟨B, 0, none⟩ y0).setCell ⟨B, 1, none⟩ y1).setCell ⟨B, 2, none⟩ y2).setCell ⟨B, 3, none⟩ y3) B [y0, y1, y2, y3] t := (((r.set 0 y0).set 1 y1).set 2 y2).set 3 y3
theorem below_put4 {w X : World} {n B : Nat} (h : Below n w X) (hB : n ≤ B) (y0 y1 y2 y3 : Value) : Below n w ((((X.setCell ⟨B, 0, none⟩ y0).setCell ⟨B, 1, none⟩ y1).setCell ⟨B, 2, none⟩ y2).setCell ⟨B, 3, none⟩ y3) := (((h.setCell (p := ⟨B, 0, none⟩) hB y0).setCell (p := ⟨B, 1, none⟩) hB y1).setCell (p := ⟨B, 2, none⟩) hB y2).setCell (p := ⟨B, 3, none⟩) hB y3
theorem own_put4 {W : World} {m : Nat} {e : TypeId} {k : Nat} {v : Value} {c : Nat} {xs : List Value} (h : W.ownsRow m e k v c xs) {B : Nat} (hB : B < m) (y0 y1 y2 y3 : Value) : ((((W.setCell ⟨B, 0, none⟩ y0).setCell ⟨B, 1, none⟩ y1).setCell ⟨B, 2, none⟩ y2).setCell ⟨B, 3, none⟩ y3).ownsRow m e k v c xs := own_set (own_set (own_set (own_set h hB 0 y0) hB 1 y1) hB 2 y2) hB 3 y3

set_option maxHeartbeats 1600000 in
theorem irise_any (a : Option Addr) (n cap : Nat) (zs : List Int) (w : World) (h : Ints w a n zs) :
    Calls Tryd.prog 29 #[.slice a n cap] w (EvP (bareL 10 1 zs) w) := by
  have B0 : Below w.heap.size w (w.alloc (.cells #[.int .i64 0, .int .i64 0, .int .i64 0, .slice none 0 0] 26)) := (Below.refl _ _).alloc (Nat.le_refl _) _
  have r0 := Cel.new w [.int .i64 0, .int .i64 0, .int .i64 0, .slice none 0 0] 26
  have hI := h.below B0
  go_enter Tryd.func29, Tryd.ntmps29
  go_wp2_with fail
  refine (ibare_any 10 (Or.inr rfl) a n cap zs _ hI).mono ?_
  rintro e w1 ⟨a', n', cap', rfl, hn', j⟩
  have r1 := r0.below j.b
  have g0 := r1.cell 0
  have g1 := r1.cell 1
  have g2 := r1.cell 2
  have g3 := r1.cell 3
  have k0 := r1.free 0
  have k1 := r1.free 1
  have k2 := r1.free 2
  have k3 := r1.free 3
  simp only [List.getElem?_cons_zero, List.getElem?_cons_succ] at g0 g1 g2 g3
  have lw := r1.lt
  have BB : Below w.heap.size w w1 := B0.trans (j.b.mono B0.size)
  by_cases hz : zs.length = 0
  · have e1 : bareL 10 0 zs = (10, 0, 0, [], true) := by rw [bareL, if_pos hz]
    have HE : Hid (bareL 10 1 zs = (10, 1, 0, [], true)) := by show _ = _; rw [bareL, if_pos hz]
    rw [e1] at hn' j ⊢
    have hn0 : n' = 0 := hn'.symm
    subst hn0
    clear hz e1 h hI
    have d := (r1.put4 (.int .i64 10) (.int .i64 1) (.int .i64 0) (.slice a' 0 cap')).below ((Below.refl _ _).alloc (Nat.le_refl _) (.cells #[.int .i64 10, .int .i64 1, .int .i64 0, .slice a' 0 cap'] 26))
    have d0 := d.cell 0
    have d1 := d.cell 1
    have d2 := d.cell 2
    have d3 := d.cell 3
    simp only [List.getElem?_cons_zero, List.getElem?_cons_succ] at d0 d1 d2 d3
    have b2 := below_put4 BB (Nat.le_refl _) (.int .i64 10) (.int .i64 1) (.int .i64 0) (.slice a' 0 cap')
    have b3 := b2.alloc b2.size (.cells #[.int .i64 10, .int .i64 1, .int .i64 0, .slice a' 0 cap'] 26)
    have JO : ((((w1.setCell ⟨w.heap.size, 0, none⟩ (.int .i64 10)).setCell ⟨w.heap.size, 1, none⟩ (.int .i64 1)).setCell ⟨w.heap.size, 2, none⟩ (.int .i64 0)).setCell ⟨w.heap.size, 3, none⟩ (.slice a' 0 cap')).ownsRow (w.heap.size + 1) 3 1 (.slice a' 0 cap') 0 [] := own_put4 (by have := j.o; rw [World.size_alloc] at this; exact this) (Nat.lt_succ_self _) _ _ _ _
    have JA' := JA.below (w := w) (v := .slice a' 0 cap') (xs := []) ⟨b2, own_weak JO (Nat.le_succ w.heap.size)⟩ ((Below.refl _ _).alloc (Nat.le_refl _) (.cells #[.int .i64 10, .int .i64 1, .int .i64 0, .slice a' 0 cap'] 26))
    go_wp2
    rw [HE.out]
    exact bodyPost_ret (v := .tuple #[evV 10 1 0 a' 0 cap', .bool true]) (by simp [results, Tryd.results29, go_sem, d0, d1, d2, d3]) rfl ⟨a', 0, cap', rfl, rfl, JA'⟩
  · have e1 : bareL 10 0 zs = noE := by rw [bareL, if_neg hz]
    have HE : Hid (bareL 10 1 zs = noE) := by show _ = _; rw [bareL, if_neg hz]
    rw [e1] at hn' j ⊢
    clear hz e1 h hI
    have d := (r1.put4 (.int .i64 0) (.int .i64 0) (.int .i64 0) (.slice none 0 0)).below ((Below.refl _ _).alloc (Nat.le_refl _) (.cells #[.int .i64 0, .int .i64 0, .int .i64 0, .slice a' n' cap'] 26))
    have d0 := d.cell 0
    have d1 := d.cell 1
    have d2 := d.cell 2
    have d3 := d.cell 3
    simp only [List.getElem?_cons_zero, List.getElem?_cons_succ] at d0 d1 d2 d3
    have b2 := below_put4 BB (Nat.le_refl _) (.int .i64 0) (.int .i64 0) (.int .i64 0) (.slice none 0 0)
    have b3 := b2.alloc b2.size (.cells #[.int .i64 0, .int .i64 0, .int .i64 0, .slice a' n' cap'] 26)
    go_wp2
    all_goals rw [HE.out]
    all_goals exact bodyPost_ret (v := .tuple #[evV 0 0 0 none 0 0, .bool false]) (by simp [results, Tryd.results29, go_sem, d0, d1, d2, d3, noE]) rfl (EvP.no b3)

end Go.Proofs.YtmdjcfplhmkocaaDoor
namespace Go.Proofs.YtmdjcfplhmkocaaDoor
open Go.RowKit Go.MapKept
set_option linter.unusedVariables false
set_option linter.unusedSimpArgs false
set_option maxRecDepth 100000

def kd5 (x : List UInt8) : Int := if x = [102, 97, 108, 108] then 8 else if x = [114, 105, 115, 101] then 9 else 0
def kd4 (x : List UInt8) : Int := if [116, 119, 105, 99, 101] = x then 6 else kd5 x
def kd3 (x : List UInt8) : Int := if [108, 111, 115, 101] = x then 5 else kd4 x
def kd2 (x : List UInt8) : Int := if [98, 114, 105, 110, 103] = x then 4 else kd3 x
def kd1 (x : List UInt8) : Int := if [100, 101, 97, 102] = x then 3 else kd2 x
def kd0 (x : List UInt8) : Int := if [116, 114, 121] = x then 2 else kd1 x
def kindN (x : List UInt8) : Nat → Int
  | 0 => kd0 x
  | 1 => kd1 x
  | 2 => kd2 x
  | 3 => kd3 x
  | 4 => kd4 x
  | 5 => kd5 x
  | _ => 0
def kindL (x : List UInt8) : Int := kindN x 0

set_option maxHeartbeats 3200000 in
theorem skind_any (x : List UInt8) (w : World) :
    Calls Tryd.prog 20 #[.string ⟨x.toArray⟩] w fun e w' => e = .returned (.int .i64 (kindL x)) ∧ Below w.heap.size w w' := by
  have B0 : Below w.heap.size w (w.alloc (.cells #[.string ⟨#[116, 114, 121]⟩, .string ⟨#[100, 101, 97, 102]⟩, .string ⟨#[98, 114, 105, 110, 103]⟩, .string ⟨#[108, 111, 115, 101]⟩, .string ⟨#[116, 119, 105, 99, 101]⟩] 9)) := (Below.refl _ _).alloc (Nat.le_refl _) _
  have n0 := Cel.new w [.string ⟨#[116, 114, 121]⟩, .string ⟨#[100, 101, 97, 102]⟩, .string ⟨#[98, 114, 105, 110, 103]⟩, .string ⟨#[108, 111, 115, 101]⟩, .string ⟨#[116, 119, 105, 99, 101]⟩] 9
  go_enter Tryd.func20, Tryd.ntmps20
  go_wp2_with fail
  go_loopw [4] (fun i wr => ∃ k : Nat, k ≤ 5 ∧ i = .int .i64 k ∧ kindL x = kindN x k ∧ Below w.heap.size w wr ∧ Cel wr w.heap.size [.string ⟨#[116, 114, 121]⟩, .string ⟨#[100, 101, 97, 102]⟩, .string ⟨#[98, 114, 105, 110, 103]⟩, .string ⟨#[108, 111, 115, 101]⟩, .string ⟨#[116, 119, 105, 99, 101]⟩] 9) (fun i _ => 5 - (intOf i).toNat)
  case atStart => exact ⟨0, by omega, rfl, rfl, B0, n0⟩
  case round =>
    clear B0 n0
    obtain ⟨k, hk5, rfl, hK, bR, nR⟩ := hrel
    have HK : Hid _ := hK
    clear hK
    by_cases e0 : k = 0
    · subst e0
      have nm := nR.cell 0
      simp only [List.getElem?_cons_zero, List.getElem?_cons_succ] at nm
      by_cases he : x = [116, 114, 121]
      · have hE : ([116, 114, 121] == x) = true := by rw [he]; rfl
        have HC : Hid (kindL x = 2) := by show _ = _; rw [HK.out, kindN, kd0, if_pos he.symm]
        clear he
        go_wp2
        go_ret
        exact ⟨by rw [HC.out]; rfl, bR⟩
      · have hE : ([116, 114, 121] == x) = false := by simpa using fun e => he e.symm
        have HC : Hid (kindL x = kindN x 1) := by show _ = _; rw [HK.out, kindN, kd0, if_neg (fun e => he e.symm)]; rfl
        clear he
        go_wp2
        go_roundw
        case rel => exact ⟨1, by omega, by go_num, HC.out, bR, nR⟩
        case measure => simp [intOf]
    by_cases e1 : k = 1
    · subst e1
      have nm := nR.cell 1
      simp only [List.getElem?_cons_zero, List.getElem?_cons_succ] at nm
      by_cases he : x = [100, 101, 97, 102]
      · have hE : ([100, 101, 97, 102] == x) = true := by rw [he]; rfl
        have HC : Hid (kindL x = 3) := by show _ = _; rw [HK.out, kindN, kd1, if_pos he.symm]
        clear he
        go_wp2
        go_ret
        exact ⟨by rw [HC.out]; rfl, bR⟩
      · have hE : ([100, 101, 97, 102] == x) = false := by simpa using fun e => he e.symm
        have HC : Hid (kindL x = kindN x 2) := by show _ = _; rw [HK.out, kindN, kd1, if_neg (fun e => he e.symm)]; rfl
        clear he
        go_wp2
        go_roundw
        case rel => exact ⟨2, by omega, by go_num, HC.out, bR, nR⟩
        case measure => simp [intOf]
    by_cases e2 : k = 2
    · subst e2
      have nm := nR.cell 2
      simp only [List.getElem?_cons_zero, List.getElem?_cons_succ] at nm
      by_cases he : x = [98, 114, 105, 110, 103]
      · have hE : ([98, 114, 105, 110, 103] == x) = true := by rw [he]; rfl
        have HC : Hid (kindL x = 4) := by show _ = _; rw [HK.out, kindN, kd2, if_pos he.symm]
        clear he
        go_wp2
        go_ret
        exact ⟨by rw [HC.out]; rfl, bR⟩
      · have hE : ([98, 114, 105, 110, 103] == x) = false := by simpa using fun e => he e.symm
        have HC : Hid (kindL x = kindN x 3) := by show _ = _; rw [HK.out, kindN, kd2, if_neg (fun e => he e.symm)]; rfl
        clear he
        go_wp2
        go_roundw
        case rel => exact ⟨3, by omega, by go_num, HC.out, bR, nR⟩
        case measure => simp [intOf]
    by_cases e3 : k = 3
    · subst e3
      have nm := nR.cell 3
      simp only [List.getElem?_cons_zero, List.getElem?_cons_succ] at nm
      by_cases he : x = [108, 111, 115, 101]
      · have hE : ([108, 111, 115, 101] == x) = true := by rw [he]; rfl
        have HC : Hid (kindL x = 5) := by show _ = _; rw [HK.out, kindN, kd3, if_pos he.symm]
        clear he
        go_wp2
        go_ret
        exact ⟨by rw [HC.out]; rfl, bR⟩
      · have hE : ([108, 111, 115, 101] == x) = false := by simpa using fun e => he e.symm
        have HC : Hid (kindL x = kindN x 4) := by show _ = _; rw [HK.out, kindN, kd3, if_neg (fun e => he e.symm)]; rfl
        clear he
        go_wp2
        go_roundw
        case rel => exact ⟨4, by omega, by go_num, HC.out, bR, nR⟩
        case measure => simp [intOf]
    by_cases e4 : k = 4
    · subst e4
      have nm := nR.cell 4
      simp only [List.getElem?_cons_zero, List.getElem?_cons_succ] at nm
      by_cases he : x = [116, 119, 105, 99, 101]
      · have hE : ([116, 119, 105, 99, 101] == x) = true := by rw [he]; rfl
        have HC : Hid (kindL x = 6) := by show _ = _; rw [HK.out, kindN, kd4, if_pos he.symm]
        clear he
        go_wp2
        go_ret
        exact ⟨by rw [HC.out]; rfl, bR⟩
      · have hE : ([116, 119, 105, 99, 101] == x) = false := by simpa using fun e => he e.symm
        have HC : Hid (kindL x = kindN x 5) := by show _ = _; rw [HK.out, kindN, kd4, if_neg (fun e => he e.symm)]; rfl
        clear he
        go_wp2
        go_roundw
        case rel => exact ⟨5, by omega, by go_num, HC.out, bR, nR⟩
        case measure => simp [intOf]
    obtain rfl : k = 5 := by omega
    clear e0 e1 e2 e3 e4
    by_cases hf : x = [102, 97, 108, 108]
    · have hE : (x == [102, 97, 108, 108]) = true := by rw [hf]; rfl
      have HC : Hid (kindL x = 8) := by show _ = _; rw [HK.out, kindN, kd5, if_pos hf]
      clear hf
      go_wp2
      go_ret
      exact ⟨by rw [HC.out]; rfl, bR⟩
    · have hE : (x == [102, 97, 108, 108]) = false := by simpa using hf
      by_cases hr : x = [114, 105, 115, 101]
      · have hE2 : (x == [114, 105, 115, 101]) = true := by rw [hr]; rfl
        have HC : Hid (kindL x = 9) := by show _ = _; rw [HK.out, kindN, kd5, if_neg hf, if_pos hr]
        clear hf hr
        go_wp2
        go_ret
        exact ⟨by rw [HC.out]; rfl, bR⟩
      · have hE2 : (x == [114, 105, 115, 101]) = false := by simpa using hr
        have HC : Hid (kindL x = 0) := by show _ = _; rw [HK.out, kindN, kd5, if_neg hf, if_neg hr]
        clear hf hr
        go_wp2
        go_ret
        exact ⟨by rw [HC.out]; rfl, bR⟩

/-- What happens by a line: kind, place, act, arguments, and whether it is read. -/
def evX (x : List UInt8) (zs : List Int) : EvR :=
  if x = [99, 97, 108, 108] then callL zs else if x = [116, 105, 99, 107] then bareL 7 0 zs else if x = [99, 108, 101, 114, 107, 102, 97, 108, 108, 115] then bareL 10 0 zs else if x = [99, 108, 101, 114, 107, 114, 105, 115, 101, 115] then bareL 10 1 zs else if kindL x = 0 then noE else oneL (kindL x) zs
def evL (l : List UInt8) : EvR := match lineN l with | none => noE | some zs => evX ((wordsOf l).headD []) zs
theorem evL_none {l : List UInt8} (h : lineN l = none) : evL l = noE := by rw [evL, h]
theorem evL_some {l : List UInt8} {zs : List Int} (h : lineN l = some zs) : evL l = evX ((wordsOf l).headD []) zs := by rw [evL, h]

end Go.Proofs.YtmdjcfplhmkocaaDoor
namespace Go.Proofs.YtmdjcfplhmkocaaDoor
open Go.RowKit Go.MapKept
set_option linter.unusedVariables false
set_option linter.unusedSimpArgs false
set_option maxRecDepth 100000

/-- What a reader answers; its arguments can be read. -/
def EvS (r : EvR) (w : World) (e : Ending) (w' : World) : Prop := ∃ a n cap, e = .returned (.tuple #[evV r.1 r.2.1 r.2.2.1 a n cap, .bool r.2.2.2.2]) ∧ Below w.heap.size w w' ∧ Ints w' a n r.2.2.2.1
theorem EvS.no {w w' : World} (h : Below w.heap.size w w') : EvS noE w (.returned (.tuple #[evV 0 0 0 none 0 0, .bool false])) w' := ⟨none, 0, 0, rfl, h, rfl, fun i hi => absurd hi (Nat.not_lt_zero _)⟩
theorem ints_put4 {W : World} {b off n B : Nat} {zs : List Int} (h : Ints W (some ⟨b, off, none⟩) n zs) (hB : b ≠ B) (y0 y1 y2 y3 : Value) : Ints ((((W.setCell ⟨B, 0, none⟩ y0).setCell ⟨B, 1, none⟩ y1).setCell ⟨B, 2, none⟩ y2).setCell ⟨B, 3, none⟩ y3) (some ⟨b, off, none⟩) n zs := by
  have one : ∀ {X : World}, Ints X (some ⟨b, off, none⟩) n zs → ∀ (i : Nat) (v : Value), Ints (X.setCell ⟨B, i, none⟩ v) (some ⟨b, off, none⟩) n zs := fun hX i v => ⟨hX.1, fun j hj => by
    obtain ⟨b', o, e, hc⟩ := hX.2 j hj
    cases e
    refine ⟨b, off, rfl, ?_⟩
    rw [World.cell?_setCell_other]
    · exact hc
    · intro hh
      simp only [Addr.mk.injEq] at hh
      exact hB hh.1.symm⟩
  exact one (one (one (one h 0 y0) 1 y1) 2 y2) 3 y3
theorem EvP.toS {r : EvR} {w w1 w' : World} {e : Ending} (h : EvP r w1 e w') (b : Below w.heap.size w w1) : EvS r w e w' := by
  obtain ⟨a, n, cap, he, hn, j⟩ := h
  obtain ⟨a', c', ev, -, hI, -⟩ := j.ints
  rw [hn] at ev hI
  cases ev
  exact ⟨a, n, cap, he, b.trans (j.b.mono b.size), hI⟩

set_option maxHeartbeats 6400000 in
theorem sdsk_any (l : List UInt8) (w : World) : Calls Tryd.prog 7 #[.string ⟨l.toArray⟩] w (EvS (evL l) w) := by
  have r0 := Cel.new w [.int .i64 0, .int .i64 0, .int .i64 0, .slice none 0 0] 26
  have B0 : Below w.heap.size w (w.alloc (.cells #[.int .i64 0, .int .i64 0, .int .i64 0, .slice none 0 0] 26)) := (Below.refl _ _).alloc (Nat.le_refl _) _
  by_cases h120 : l.length ≤ 120
  · obtain ⟨x0, ws, hws⟩ : ∃ x0 ws, wordsOf l = x0 :: ws := by
      cases h : wordsOf l with
      | nil => exact absurd h (words_ne l)
      | cons a b => exact ⟨a, b, rfl⟩
    have HWS : Hid _ := hws
    obtain ⟨n, hn⟩ : ∃ n, ws.length = n := ⟨_, rfl⟩
    have hn121 : n + 1 ≤ 121 := by
      have h := wordsF_len l []
      rw [show wordsF [] l = x0 :: ws from hws, List.length_cons, hn] at h
      omega
    have HS : Hid (∀ x ∈ wordsOf l, x.length ≤ 120) := fun x hx => Nat.le_trans (by have := wordsF_short l [] x hx; simpa using this) h120
    have HLW : Hid ((wordsOf l).length = n + 1) := by show _ = _; rw [hws, List.length_cons, hn]
    have HLEN : Hid ((bytesW (wordsOf l)).length = n + 1) := by show _ = _; rw [hws, List.length_map, List.length_cons, hn]
    have HE : Hid (lineN l = nmS ((wordsOf l).drop 1)) := by show _ = _; rw [lineN, if_pos h120]
    have HH : Hid ((wordsOf l).headD [] = x0) := by show _ = _; rw [hws]; rfl
    clear hws hn
    go_enter Tryd.func7, Tryd.ntmps7
    go_wp2_with fail
    refine (words_any l _ h120).mono ?_
    rintro e W1 ⟨v, rfl, j⟩
    obtain ⟨gw, cw, rfl, hcap, hgw, hcs⟩ := j.cells HLEN.out (by omega)
    have HCW : Hid (∀ (i : Nat) (x : List UInt8), (wordsOf l)[i]? = some x → W1.cell? ⟨gw, i, none⟩ = some (.string ⟨x.toArray⟩)) := fun i x hx => by
      have := hcs i ⟨x.toArray⟩ (by rw [List.getElem?_map, hx]; rfl)
      rw [Nat.zero_add] at this
      exact this
    have r1 := r0.below j.b
    have B1 := B0.trans (j.b.mono B0.size)
    have HC0 : Hid (W1.cell? ⟨gw, 0, none⟩ = some (.string ⟨x0.toArray⟩)) := HCW.out 0 x0 (by rw [HWS.out]; rfl)
    clear hcs hcap j r0 B0
    go_wp2_with fail
    refine (snums_any (wordsOf l) gw (n + 1) cw W1 HLW.out hn121 (Or.inr hgw) HCW.out HS.out).mono ?_
    rintro e W2 ⟨v2, xs, ok, rfl, j2, hok, hnok⟩
    obtain ⟨a, cap, rfl, hcap2, hI, hblk⟩ := j2.ints
    have c0 : W2.cell? ⟨gw, 0, none⟩ = some (.string ⟨x0.toArray⟩) := (j2.b.cell (p := ⟨gw, 0, none⟩) hgw).trans HC0.out
    have r2 := r1.below j2.b
    have B2 := B1.trans (j2.b.mono B1.size)
    have lr1 := r1.lt
    have g0 := r2.cell 0
    have g1 := r2.cell 1
    have g2 := r2.cell 2
    have g3 := r2.cell 3
    have k0 := r2.free 0
    have k1 := r2.free 1
    have k2 := r2.free 2
    have k3 := r2.free 3
    simp only [List.getElem?_cons_zero, List.getElem?_cons_succ] at g0 g1 g2 g3
    have bz := below_put4 B2 (Nat.le_refl _) (.int .i64 0) (.int .i64 0) (.int .i64 0) (.slice none 0 0)
    have dz := r2.put4 (.int .i64 0) (.int .i64 0) (.int .i64 0) (.slice none 0 0)
    have z0 := dz.cell 0
    have z1 := dz.cell 1
    have z2 := dz.cell 2
    have z3 := dz.cell 3
    simp only [List.getElem?_cons_zero, List.getElem?_cons_succ] at z0 z1 z2 z3
    have hx1 : ¬ ((n : Int) + 1 = 0) := by omega
    obtain ⟨q, hq⟩ : ∃ q, xs.length = q := ⟨_, rfl⟩
    rw [hq] at hI hcap2 ⊢
    cases ok with
    | false =>
      have HR : Hid (evL l = noE) := evL_none (by rw [HE.out, hnok rfl])
      clear hok hnok j2 hq hI hblk
      go_wp2
      all_goals rw [HR.out]
      all_goals exact bodyPost_ret (v := .tuple #[evV 0 0 0 none 0 0, .bool false]) (by simp [results, Tryd.results7, go_sem, z0, z1, z2, z3]) rfl (EvS.no bz)
    | true =>
      have HR : Hid (evL l = evX x0 xs) := by show _ = _; rw [evL_some (by rw [HE.out, hok rfl]), HH.out]
      have HQ : Hid _ := hq
      have HNQ : Hid (q = n) := by
        show _ = _
        have h1 := nmS_len (hok rfl)
        rw [List.length_drop, HLW.out] at h1
        omega
      have HI : Hid _ := hI
      have HB : Hid _ := hblk
      have HLR : Hid (w.heap.size < W1.heap.size) := lr1
      have hx2 : ((n : Int) + 1 == 0) = false := by simpa using hx1
      clear hok hnok j2 hq hblk hgw B1 r1 lr1 hn121 h120
      by_cases e1 : x0 = [99, 97, 108, 108]
      · have hE : (x0 == [99, 97, 108, 108]) = true := by rw [e1]; rfl
        have HX : Hid (evX x0 xs = callL xs) := by show _ = _; rw [evX, if_pos e1]
        clear e1
        by_cases hq4 : q = 4
        · subst hq4
          obtain ⟨b, off, rfl, -⟩ := hI.pos (by omega)
          have hbb := HB.out b off rfl
          have y0 := zs_at hI (i := 0) (by omega)
          have y1 := zs_at hI (i := 1) (by omega)
          obtain ⟨u0, hu0⟩ : ∃ z, xs[0]?.getD 0 = z := ⟨_, rfl⟩
          obtain ⟨u1, hu1⟩ : ∃ z, xs[1]?.getD 0 = z := ⟨_, rfl⟩
          rw [hu0, Nat.add_zero] at y0
          rw [hu1] at y1
          have p4 : (4 : Int) ≤ (cap : Int) := by omega
          have HD := ints_put4 hI.drop2 (show b ≠ w.heap.size by have := HLR.out; omega) (.int .i64 1) (.int .i64 u0) (.int .i64 u1) (.slice (some ⟨b, off + 2, none⟩) 2 (cap - 2))
          clear hbb HI
          by_cases hz0 : u0 < 0
          · have hd2 : (u0 < 0) = True := by simpa using hz0
            have HV : Hid (callL xs = noE) := by show _ = _; rw [callL, if_neg (by rw [hu0]; omega)]
            clear hu0 hu1 hI HD
            go_wp2
            all_goals rw [HR.out, HX.out, HV.out]
            all_goals exact bodyPost_ret (v := .tuple #[evV 0 0 0 none 0 0, .bool false]) (by simp [results, Tryd.results7, go_sem, z0, z1, z2, z3]) rfl (EvS.no bz)
          have hd2 : (u0 < 0) = False := by simpa using hz0
          have hd0 : decide (u0 < 0) = false := by simpa using hz0
          by_cases hz1 : u1 < 0
          · have hd3 : (u1 < 0) = True := by simpa using hz1
            have HV : Hid (callL xs = noE) := by show _ = _; rw [callL, if_neg (by rw [hu1]; omega)]
            clear hu0 hu1 hI HD
            go_wp2
            all_goals rw [HR.out, HX.out, HV.out]
            all_goals exact bodyPost_ret (v := .tuple #[evV 0 0 0 none 0 0, .bool false]) (by simp [results, Tryd.results7, go_sem, z0, z1, z2, z3]) rfl (EvS.no bz)
          have HV : Hid (callL xs = (1, u0, u1, xs.drop 2, true)) := by show _ = _; rw [callL, hu0, hu1, if_pos ⟨by rw [HQ.out], by omega, by omega⟩]
          have d := r2.put4 (.int .i64 1) (.int .i64 u0) (.int .i64 u1) (.slice (some ⟨b, off + 2, none⟩) 2 (cap - 2))
          have d0 := d.cell 0
          have d1 := d.cell 1
          have d2 := d.cell 2
          have d3 := d.cell 3
          simp only [List.getElem?_cons_zero, List.getElem?_cons_succ] at d0 d1 d2 d3
          have bd := below_put4 B2 (Nat.le_refl _) (.int .i64 1) (.int .i64 u0) (.int .i64 u1) (.slice (some ⟨b, off + 2, none⟩) 2 (cap - 2))
          have HD' : Hid _ := HD
          clear hu0 hu1 hI HD z0 z1 z2 z3 dz bz
          have hd1 : decide (u1 < 0) = false := by simpa using hz1
          have hd3 : (u1 < 0) = False := by simpa using hz1
          go_upto_region 9 with fail
          go_region
          go_wp2
          rw [HR.out, HX.out, HV.out]
          exact bodyPost_ret (v := .tuple #[evV 1 u0 u1 (some ⟨b, off + 2, none⟩) 2 (cap - 2), .bool true]) (by simp [results, Tryd.results7, go_sem, d0, d1, d2, d3]) rfl ⟨_, 2, _, rfl, bd.drew, Ints.below HD'.out (Below.refl _ _).drew⟩
        · have HV : Hid (callL xs = noE) := by show _ = _; rw [callL, if_neg (by rw [HQ.out]; omega)]
          have hq5 : ¬ (q : Int) = 4 := by omega
          have hq6 : ((q : Int) == 4) = false := by simpa using hq5
          clear hI hq4 HI HB hcap2
          go_wp2
          all_goals rw [HR.out, HX.out, HV.out]
          all_goals exact bodyPost_ret (v := .tuple #[evV 0 0 0 none 0 0, .bool false]) (by simp [results, Tryd.results7, go_sem, z0, z1, z2, z3]) rfl (EvS.no bz)
      have hE1 : (x0 == [99, 97, 108, 108]) = false := by simpa using e1
      by_cases e2 : x0 = [116, 105, 99, 107]
      · have hE : (x0 == [116, 105, 99, 107]) = true := by rw [e2]; rfl
        have HX : Hid (evX x0 xs = bareL 7 0 xs) := by show _ = _; rw [evX, if_neg e1, if_pos e2]
        clear e1 e2
        go_wp2_with fail
        refine (sbare_any (some ⟨gw, 0, none⟩) (n + 1) cw n 7 0 xs _ ?_ rfl).mono ?_
        · rw [HQ.out]; exact HNQ.out
        rintro e W3 ⟨a3, n3, c3, rfl, hn3, j3⟩
        have r3 := r2.below j3.b
        have B3 := B2.trans (j3.b.mono B2.size)
        obtain ⟨a3', c3', ev3, -, hI3, hb3⟩ := j3.ints
        rw [hn3] at ev3 hI3
        cases ev3
        have f0 := r3.cell 0
        have f1 := r3.cell 1
        have f2 := r3.cell 2
        have f3 := r3.cell 3
        have m0 := r3.free 0
        have m1 := r3.free 1
        have m2 := r3.free 2
        have m3 := r3.free 3
        simp only [List.getElem?_cons_zero, List.getElem?_cons_succ] at f0 f1 f2 f3
        obtain ⟨R, hR⟩ : ∃ R : EvR, R = bareL 7 0 xs := ⟨_, rfl⟩
        rw [← hR] at hn3 hI3 ⊢
        obtain ⟨rk, rt, rc, ra, ro⟩ := R
        have HRR : Hid (evX x0 xs = (rk, rt, rc, ra, ro)) := by show _ = _; rw [HX.out, hR]
        have hI3' : Ints W3 a3 n3 ra := hI3
        have d := r3.put4 (.int .i64 rk) (.int .i64 rt) (.int .i64 rc) (.slice a3 n3 c3)
        have d0 := d.cell 0
        have d1 := d.cell 1
        have d2 := d.cell 2
        have d3 := d.cell 3
        simp only [List.getElem?_cons_zero, List.getElem?_cons_succ] at d0 d1 d2 d3
        have bd := below_put4 B3 (Nat.le_refl _) (.int .i64 rk) (.int .i64 rt) (.int .i64 rc) (.slice a3 n3 c3)
        have HD' : Hid (Ints ((((W3.setCell ⟨w.heap.size, 0, none⟩ (.int .i64 rk)).setCell ⟨w.heap.size, 1, none⟩ (.int .i64 rt)).setCell ⟨w.heap.size, 2, none⟩ (.int .i64 rc)).setCell ⟨w.heap.size, 3, none⟩ (.slice a3 n3 c3)) a3 n3 ra) := by
          rcases Nat.eq_zero_or_pos n3 with hz | hz
          · exact ⟨hI3'.1, fun i hi => absurd hi (by omega)⟩
          · obtain ⟨b3, o3, rfl, -⟩ := hI3'.pos hz
            have := (hb3 b3 o3 rfl).1
            have h2 := r2.lt
            exact ints_put4 hI3' (show b3 ≠ w.heap.size by omega) _ _ _ _
        clear hI3 hI3' hb3 hn3 hR j3 z0 z1 z2 z3 dz bz g0 g1 g2 g3 k0 k1 k2 k3 HX
        go_wp2
        rw [HR.out, HRR.out]
        exact bodyPost_ret (v := .tuple #[evV rk rt rc a3 n3 c3, .bool ro]) (by simp [results, Tryd.results7, go_sem, d0, d1, d2, d3]) rfl ⟨a3, n3, c3, rfl, bd, HD'.out⟩
      have hE2 : (x0 == [116, 105, 99, 107]) = false := by simpa using e2
      by_cases e3 : x0 = [99, 108, 101, 114, 107, 102, 97, 108, 108, 115]
      · have hE : (x0 == [99, 108, 101, 114, 107, 102, 97, 108, 108, 115]) = true := by rw [e3]; rfl
        have HX : Hid (evX x0 xs = bareL 10 0 xs) := by show _ = _; rw [evX, if_neg e1, if_neg e2, if_pos e3]
        clear e1 e2 e3
        go_wp2_with fail
        refine (sbare_any (some ⟨gw, 0, none⟩) (n + 1) cw n 10 0 xs _ ?_ rfl).mono ?_
        · rw [HQ.out]; exact HNQ.out
        rintro e W3 ⟨a3, n3, c3, rfl, hn3, j3⟩
        have r3 := r2.below j3.b
        have B3 := B2.trans (j3.b.mono B2.size)
        obtain ⟨a3', c3', ev3, -, hI3, hb3⟩ := j3.ints
        rw [hn3] at ev3 hI3
        cases ev3
        have f0 := r3.cell 0
        have f1 := r3.cell 1
        have f2 := r3.cell 2
        have f3 := r3.cell 3
        have m0 := r3.free 0
        have m1 := r3.free 1
        have m2 := r3.free 2
        have m3 := r3.free 3
        simp only [List.getElem?_cons_zero, List.getElem?_cons_succ] at f0 f1 f2 f3
        obtain ⟨R, hR⟩ : ∃ R : EvR, R = bareL 10 0 xs := ⟨_, rfl⟩
        rw [← hR] at hn3 hI3 ⊢
        obtain ⟨rk, rt, rc, ra, ro⟩ := R
        have HRR : Hid (evX x0 xs = (rk, rt, rc, ra, ro)) := by show _ = _; rw [HX.out, hR]
        have hI3' : Ints W3 a3 n3 ra := hI3
        have d := r3.put4 (.int .i64 rk) (.int .i64 rt) (.int .i64 rc) (.slice a3 n3 c3)
        have d0 := d.cell 0
        have d1 := d.cell 1
        have d2 := d.cell 2
        have d3 := d.cell 3
        simp only [List.getElem?_cons_zero, List.getElem?_cons_succ] at d0 d1 d2 d3
        have bd := below_put4 B3 (Nat.le_refl _) (.int .i64 rk) (.int .i64 rt) (.int .i64 rc) (.slice a3 n3 c3)
        have HD' : Hid (Ints ((((W3.setCell ⟨w.heap.size, 0, none⟩ (.int .i64 rk)).setCell ⟨w.heap.size, 1, none⟩ (.int .i64 rt)).setCell ⟨w.heap.size, 2, none⟩ (.int .i64 rc)).setCell ⟨w.heap.size, 3, none⟩ (.slice a3 n3 c3)) a3 n3 ra) := by
          rcases Nat.eq_zero_or_pos n3 with hz | hz
          · exact ⟨hI3'.1, fun i hi => absurd hi (by omega)⟩
          · obtain ⟨b3, o3, rfl, -⟩ := hI3'.pos hz
            have := (hb3 b3 o3 rfl).1
            have h2 := r2.lt
            exact ints_put4 hI3' (show b3 ≠ w.heap.size by omega) _ _ _ _
        clear hI3 hI3' hb3 hn3 hR j3 z0 z1 z2 z3 dz bz g0 g1 g2 g3 k0 k1 k2 k3 HX
        go_wp2
        rw [HR.out, HRR.out]
        exact bodyPost_ret (v := .tuple #[evV rk rt rc a3 n3 c3, .bool ro]) (by simp [results, Tryd.results7, go_sem, d0, d1, d2, d3]) rfl ⟨a3, n3, c3, rfl, bd, HD'.out⟩
      have hE3 : (x0 == [99, 108, 101, 114, 107, 102, 97, 108, 108, 115]) = false := by simpa using e3
      by_cases e4 : x0 = [99, 108, 101, 114, 107, 114, 105, 115, 101, 115]
      · have hE : (x0 == [99, 108, 101, 114, 107, 114, 105, 115, 101, 115]) = true := by rw [e4]; rfl
        have HX : Hid (evX x0 xs = bareL 10 1 xs) := by show _ = _; rw [evX, if_neg e1, if_neg e2, if_neg e3, if_pos e4]
        clear e1 e2 e3 e4
        go_wp2_with fail
        refine (sbare_any (some ⟨gw, 0, none⟩) (n + 1) cw n 10 1 xs _ ?_ rfl).mono ?_
        · rw [HQ.out]; exact HNQ.out
        rintro e W3 ⟨a3, n3, c3, rfl, hn3, j3⟩
        have r3 := r2.below j3.b
        have B3 := B2.trans (j3.b.mono B2.size)
        obtain ⟨a3', c3', ev3, -, hI3, hb3⟩ := j3.ints
        rw [hn3] at ev3 hI3
        cases ev3
        have f0 := r3.cell 0
        have f1 := r3.cell 1
        have f2 := r3.cell 2
        have f3 := r3.cell 3
        have m0 := r3.free 0
        have m1 := r3.free 1
        have m2 := r3.free 2
        have m3 := r3.free 3
        simp only [List.getElem?_cons_zero, List.getElem?_cons_succ] at f0 f1 f2 f3
        obtain ⟨R, hR⟩ : ∃ R : EvR, R = bareL 10 1 xs := ⟨_, rfl⟩
        rw [← hR] at hn3 hI3 ⊢
        obtain ⟨rk, rt, rc, ra, ro⟩ := R
        have HRR : Hid (evX x0 xs = (rk, rt, rc, ra, ro)) := by show _ = _; rw [HX.out, hR]
        have hI3' : Ints W3 a3 n3 ra := hI3
        have d := r3.put4 (.int .i64 rk) (.int .i64 rt) (.int .i64 rc) (.slice a3 n3 c3)
        have d0 := d.cell 0
        have d1 := d.cell 1
        have d2 := d.cell 2
        have d3 := d.cell 3
        simp only [List.getElem?_cons_zero, List.getElem?_cons_succ] at d0 d1 d2 d3
        have bd := below_put4 B3 (Nat.le_refl _) (.int .i64 rk) (.int .i64 rt) (.int .i64 rc) (.slice a3 n3 c3)
        have HD' : Hid (Ints ((((W3.setCell ⟨w.heap.size, 0, none⟩ (.int .i64 rk)).setCell ⟨w.heap.size, 1, none⟩ (.int .i64 rt)).setCell ⟨w.heap.size, 2, none⟩ (.int .i64 rc)).setCell ⟨w.heap.size, 3, none⟩ (.slice a3 n3 c3)) a3 n3 ra) := by
          rcases Nat.eq_zero_or_pos n3 with hz | hz
          · exact ⟨hI3'.1, fun i hi => absurd hi (by omega)⟩
          · obtain ⟨b3, o3, rfl, -⟩ := hI3'.pos hz
            have := (hb3 b3 o3 rfl).1
            have h2 := r2.lt
            exact ints_put4 hI3' (show b3 ≠ w.heap.size by omega) _ _ _ _
        clear hI3 hI3' hb3 hn3 hR j3 z0 z1 z2 z3 dz bz g0 g1 g2 g3 k0 k1 k2 k3 HX
        go_wp2
        rw [HR.out, HRR.out]
        exact bodyPost_ret (v := .tuple #[evV rk rt rc a3 n3 c3, .bool ro]) (by simp [results, Tryd.results7, go_sem, d0, d1, d2, d3]) rfl ⟨a3, n3, c3, rfl, bd, HD'.out⟩
      have hE4 : (x0 == [99, 108, 101, 114, 107, 114, 105, 115, 101, 115]) = false := by simpa using e4
      obtain ⟨K, hK⟩ : ∃ K, K = kindL x0 := ⟨_, rfl⟩
      have HX0 : Hid (evX x0 xs = if K = 0 then noE else oneL K xs) := by show _ = _; rw [evX, if_neg e1, if_neg e2, if_neg e3, if_neg e4, hK]
      clear e1 e2 e3 e4
      go_wp2_with fail
      refine (skind_any x0 _).mono ?_
      rintro e W4 ⟨rfl, b4⟩
      rw [← hK]
      have r4 := r2.below b4
      have B4 := B2.trans (b4.mono B2.size)
      have hI4 := Ints.below HI.out b4
      clear hK
      by_cases hk0 : K = 0
      · have HX : Hid (evX x0 xs = noE) := by show _ = _; rw [HX0.out, if_pos hk0]
        subst hk0
        have bz := below_put4 B4 (Nat.le_refl _) (.int .i64 0) (.int .i64 0) (.int .i64 0) (.slice none 0 0)
        have dz := r4.put4 (.int .i64 0) (.int .i64 0) (.int .i64 0) (.slice none 0 0)
        have z0 := dz.cell 0
        have z1 := dz.cell 1
        have z2 := dz.cell 2
        have z3 := dz.cell 3
        have k0 := r4.free 0
        have k1 := r4.free 1
        have k2 := r4.free 2
        have k3 := r4.free 3
        have h0 := r4.cell 0
        have h1 := r4.cell 1
        have h2 := r4.cell 2
        have h3 := r4.cell 3
        simp only [List.getElem?_cons_zero, List.getElem?_cons_succ] at z0 z1 z2 z3 h0 h1 h2 h3
        clear hI hI4 HI HB
        go_wp2
        all_goals rw [HR.out, HX.out]
        all_goals exact bodyPost_ret (v := .tuple #[evV 0 0 0 none 0 0, .bool false]) (by simp [results, Tryd.results7, go_sem, z0, z1, z2, z3]) rfl (EvS.no bz)
      · have HX : Hid (evX x0 xs = oneL K xs) := by show _ = _; rw [HX0.out, if_neg hk0]
        have hk1 : (K == 0) = false := by simpa using hk0
        clear hI HI HB
        go_wp2_with fail
        refine (sone_any a q cap K xs _ hI4).mono ?_
        rintro e W3 ⟨a3, n3, c3, rfl, hn3, j3⟩
        have r3 := r4.below j3.b
        have B3 := B4.trans (j3.b.mono B4.size)
        obtain ⟨a3', c3', ev3, -, hI3, hb3⟩ := j3.ints
        rw [hn3] at ev3 hI3
        cases ev3
        have f0 := r3.cell 0
        have f1 := r3.cell 1
        have f2 := r3.cell 2
        have f3 := r3.cell 3
        have m0 := r3.free 0
        have m1 := r3.free 1
        have m2 := r3.free 2
        have m3 := r3.free 3
        simp only [List.getElem?_cons_zero, List.getElem?_cons_succ] at f0 f1 f2 f3
        obtain ⟨R, hR⟩ : ∃ R : EvR, R = oneL K xs := ⟨_, rfl⟩
        rw [← hR] at hn3 hI3 ⊢
        obtain ⟨rk, rt, rc, ra, ro⟩ := R
        have HRR : Hid (evX x0 xs = (rk, rt, rc, ra, ro)) := by show _ = _; rw [HX.out, hR]
        have hI3' : Ints W3 a3 n3 ra := hI3
        have d := r3.put4 (.int .i64 rk) (.int .i64 rt) (.int .i64 rc) (.slice a3 n3 c3)
        have d0 := d.cell 0
        have d1 := d.cell 1
        have d2 := d.cell 2
        have d3 := d.cell 3
        simp only [List.getElem?_cons_zero, List.getElem?_cons_succ] at d0 d1 d2 d3
        have bd := below_put4 B3 (Nat.le_refl _) (.int .i64 rk) (.int .i64 rt) (.int .i64 rc) (.slice a3 n3 c3)
        have HD' : Hid (Ints ((((W3.setCell ⟨w.heap.size, 0, none⟩ (.int .i64 rk)).setCell ⟨w.heap.size, 1, none⟩ (.int .i64 rt)).setCell ⟨w.heap.size, 2, none⟩ (.int .i64 rc)).setCell ⟨w.heap.size, 3, none⟩ (.slice a3 n3 c3)) a3 n3 ra) := by
          rcases Nat.eq_zero_or_pos n3 with hz | hz
          · exact ⟨hI3'.1, fun i hi => absurd hi (by omega)⟩
          · obtain ⟨b3, o3, rfl, -⟩ := hI3'.pos hz
            have := (hb3 b3 o3 rfl).1
            have h2 := r4.lt
            exact ints_put4 hI3' (show b3 ≠ w.heap.size by omega) _ _ _ _
        clear hI3 hI3' hb3 hn3 hR j3 z0 z1 z2 z3 dz bz HX
        go_wp2
        rw [HR.out, HRR.out]
        exact bodyPost_ret (v := .tuple #[evV rk rt rc a3 n3 c3, .bool ro]) (by simp [results, Tryd.results7, go_sem, d0, d1, d2, d3]) rfl ⟨a3, n3, c3, rfl, bd, HD'.out⟩
  · have HR : Hid (evL l = noE) := evL_none (by rw [lineN, if_neg h120])
    go_enter Tryd.func7, Tryd.ntmps7
    go_wp2_with fail
    refine (swords_long l _ (by omega)).mono ?_
    rintro e W1 ⟨rfl, b1⟩
    have r1 := r0.below b1
    have B1 := B0.trans (b1.mono B0.size)
    clear r0 B0 b1
    go_wp2_with fail
    refine (snums_any [] _ 0 0 W1 rfl (by omega) (Or.inl rfl) (fun i x h => by simp at h) (fun x h => by simp at h)).mono ?_
    rintro e W2 ⟨v2, xs, ok, rfl, j2, -, -⟩
    obtain ⟨a, cap, rfl, -, -, -⟩ := j2.ints
    have r2 := r1.below j2.b
    have B2 := B1.trans (j2.b.mono B1.size)
    have k0 := r2.free 0
    have k1 := r2.free 1
    have k2 := r2.free 2
    have k3 := r2.free 3
    have g0 := r2.cell 0
    have g1 := r2.cell 1
    have g2 := r2.cell 2
    have g3 := r2.cell 3
    simp only [List.getElem?_cons_zero, List.getElem?_cons_succ] at g0 g1 g2 g3
    have bz := below_put4 B2 (Nat.le_refl _) (.int .i64 0) (.int .i64 0) (.int .i64 0) (.slice none 0 0)
    have dz := r2.put4 (.int .i64 0) (.int .i64 0) (.int .i64 0) (.slice none 0 0)
    have z0 := dz.cell 0
    have z1 := dz.cell 1
    have z2 := dz.cell 2
    have z3 := dz.cell 3
    simp only [List.getElem?_cons_zero, List.getElem?_cons_succ] at z0 z1 z2 z3
    clear j2 r1 B1
    cases ok with
    | false =>
      go_wp2
      all_goals rw [HR.out]
      all_goals exact bodyPost_ret (v := .tuple #[evV 0 0 0 none 0 0, .bool false]) (by simp [results, Tryd.results7, go_sem, z0, z1, z2, z3]) rfl (EvS.no bz)
    | true =>
      go_wp2
      all_goals rw [HR.out]
      all_goals exact bodyPost_ret (v := .tuple #[evV 0 0 0 none 0 0, .bool false]) (by simp [results, Tryd.results7, go_sem, z0, z1, z2, z3]) rfl (EvS.no bz)

end Go.Proofs.YtmdjcfplhmkocaaDoor
namespace Go.Proofs.YtmdjcfplhmkocaaDoor
open Go.RowKit Go.MapKept
set_option linter.unusedVariables false
set_option linter.unusedSimpArgs false
set_option maxRecDepth 100000

theorem evx_1 (zs : List Int) : evX [99, 97, 108, 108] zs = callL zs := rfl
theorem evx_2 (zs : List Int) : evX [116, 114, 121] zs = oneL 2 zs := rfl
theorem evx_3 (zs : List Int) : evX [100, 101, 97, 102] zs = oneL 3 zs := rfl
theorem evx_4 (zs : List Int) : evX [98, 114, 105, 110, 103] zs = oneL 4 zs := rfl
theorem evx_5 (zs : List Int) : evX [108, 111, 115, 101] zs = oneL 5 zs := rfl
theorem evx_6 (zs : List Int) : evX [116, 119, 105, 99, 101] zs = oneL 6 zs := rfl
theorem evx_7 (zs : List Int) : evX [116, 105, 99, 107] zs = bareL 7 0 zs := rfl
theorem evx_8 (zs : List Int) : evX [102, 97, 108, 108] zs = oneL 8 zs := rfl
theorem evx_9 (zs : List Int) : evX [114, 105, 115, 101] zs = oneL 9 zs := rfl
theorem evx_10 (zs : List Int) : evX [99, 108, 101, 114, 107, 102, 97, 108, 108, 115] zs = bareL 10 0 zs := rfl
theorem evx_11 (zs : List Int) : evX [99, 108, 101, 114, 107, 114, 105, 115, 101, 115] zs = bareL 10 1 zs := rfl

theorem evx_no {x : List UInt8} (h : ∀ p ∈ rdrs, p.1 ≠ x) (zs : List Int) : evX x zs = noE := by
  simp only [rdrs, List.mem_cons, List.not_mem_nil, or_false, forall_eq_or_imp, forall_eq] at h
  obtain ⟨h1, h2, h3, h4, h5, h6, h7, h8, h9, h10, h11⟩ := h
  rw [evX, if_neg (Ne.symm h1), if_neg (Ne.symm h7), if_neg (Ne.symm h10), if_neg (Ne.symm h11), if_pos]
  show kd0 x = 0
  rw [kd0, if_neg h2, kd1, if_neg h3, kd2, if_neg h4, kd3, if_neg h5, kd4, if_neg h6, kd5, if_neg (Ne.symm h8), if_neg (Ne.symm h9)]

/-- The reader of a word. -/
theorem readers {x : List UInt8} {v : Value} (hp : (x, v) ∈ rdrs) : (∃ k : Int, v = evF k ∧ ∀ (a : Option Addr) (n cap : Nat) (zs : List Int) (w : World), Ints w a n zs → n ≤ cap → n ≤ 121 → Calls Tryd.prog 28 #[.int .i64 k, .slice a n cap] w (EvP (evX x zs) w)) ∨ (v = riseF ∧ ∀ zs, evX x zs = bareL 10 1 zs) := by
  simp only [rdrs, List.mem_cons, List.not_mem_nil, or_false, Prod.mk.injEq] at hp
  rcases hp with ⟨rfl, rfl⟩ | ⟨rfl, rfl⟩ | ⟨rfl, rfl⟩ | ⟨rfl, rfl⟩ | ⟨rfl, rfl⟩ | ⟨rfl, rfl⟩ | ⟨rfl, rfl⟩ | ⟨rfl, rfl⟩ | ⟨rfl, rfl⟩ | ⟨rfl, rfl⟩ | ⟨rfl, rfl⟩
  · exact Or.inl ⟨1, rfl, fun a n cap zs w h h1 h2 => by rw [evx_1]; exact icall_any a n cap zs w h h1⟩
  · exact Or.inl ⟨2, rfl, fun a n cap zs w h h1 h2 => by rw [evx_2]; exact ione_any 2 (by omega) a n cap zs w h h1 h2⟩
  · exact Or.inl ⟨3, rfl, fun a n cap zs w h h1 h2 => by rw [evx_3]; exact ione_any 3 (by omega) a n cap zs w h h1 h2⟩
  · exact Or.inl ⟨4, rfl, fun a n cap zs w h h1 h2 => by rw [evx_4]; exact ione_any 4 (by omega) a n cap zs w h h1 h2⟩
  · exact Or.inl ⟨5, rfl, fun a n cap zs w h h1 h2 => by rw [evx_5]; exact ione_any 5 (by omega) a n cap zs w h h1 h2⟩
  · exact Or.inl ⟨6, rfl, fun a n cap zs w h h1 h2 => by rw [evx_6]; exact ione_any 6 (by omega) a n cap zs w h h1 h2⟩
  · exact Or.inl ⟨7, rfl, fun a n cap zs w h h1 h2 => by rw [evx_7]; exact ibare_any 7 (Or.inl rfl) a n cap zs w h⟩
  · exact Or.inl ⟨8, rfl, fun a n cap zs w h h1 h2 => by rw [evx_8]; exact ione_any 8 (by omega) a n cap zs w h h1 h2⟩
  · exact Or.inl ⟨9, rfl, fun a n cap zs w h h1 h2 => by rw [evx_9]; exact ione_any 9 (by omega) a n cap zs w h h1 h2⟩
  · exact Or.inl ⟨10, rfl, fun a n cap zs w h h1 h2 => by rw [evx_10]; exact ibare_any 10 (Or.inr rfl) a n cap zs w h⟩
  · exact Or.inr ⟨rfl, evx_11⟩
theorem splits_below {w w' : World} (h : Splits w) (b : Below w.heap.size w w') : Splits w' := fun W hW => h W (b.trans (hW.mono b.size))
theorem rdrs_one {x : List UInt8} {v : Value} (h : (x, v) ∈ rdrs) : ∀ p ∈ rdrs, p.1 = x → p.2 = v := by
  have hn : (rdrs.map Prod.fst).Nodup := by decide
  have one : ∀ (L : List (List UInt8 × Value)), (L.map Prod.fst).Nodup → (x, v) ∈ L → ∀ p ∈ L, p.1 = x → p.2 = v := by
    intro L
    induction L with
    | nil => intro _ h; exact absurd h (by simp)
    | cons b t ih =>
      intro hn h p hp e
      rw [List.map_cons, List.nodup_cons] at hn
      rcases List.mem_cons.1 h with h | h
      · rcases List.mem_cons.1 hp with hp | hp
        · rw [hp, ← h]
        · exact absurd (List.mem_map.2 ⟨p, hp, by rw [e, ← h]⟩) hn.1
      · rcases List.mem_cons.1 hp with hp | hp
        · exact absurd (List.mem_map.2 ⟨(x, v), h, by rw [← hp, e]⟩) hn.1
        · exact ih hn.2 h p hp e
  exact one rdrs hn h
theorem line_few {l : List UInt8} {zs : List Int} (h : lineN l = some zs) : zs.length ≤ 121 := by
  rw [lineN] at h
  split at h
  · rename_i hl
    have h1 := nmS_len h
    have h2 := wordsF_len l []
    rw [List.length_drop] at h1
    have : (wordsOf l).length ≤ l.length + 1 := h2
    omega
  · cases h

set_option maxHeartbeats 6400000 in
theorem idsk_any (l : List UInt8) (w : World) (hl : l.length ≤ 1048576) (hC : CutsB w) (hA : ReadsN w) (hSp : Splits w) (hT : Lib.TabBelow Tryd.prog w.heap.size w "internal/strconv.uint64pow10" .u64 Lib.pow10Tab) : Calls Tryd.prog 6 #[.string ⟨l.toArray⟩] w (EvP (evL l) w) := by
  have HC : Hid _ := hC
  have HA : Hid _ := hA
  have HP : Hid _ := hSp
  have HT : Hid (∀ W, Below w.heap.size w W → Lib.TabBelow Tryd.prog W.heap.size W "internal/strconv.uint64pow10" .u64 Lib.pow10Tab) := fun W b w' h => hT w' (b.trans (h.mono b.size))
  clear hC hA hSp hT
  have r0 := Cel.new w [.int .i64 0, .int .i64 0, .int .i64 0, .slice none 0 0] 26
  have B0 : Below w.heap.size w (w.alloc (.cells #[.int .i64 0, .int .i64 0, .int .i64 0, .slice none 0 0] 26)) := (Below.refl _ _).alloc (Nat.le_refl _) _
  go_enter Tryd.func6, Tryd.ntmps6
  go_wp2_with fail
  refine (irdrs_any _).mono ?_
  rintro e W1 ⟨mb, rfl, m1, b1⟩
  have r1 := r0.below b1
  have B1 := B0.trans (b1.mono B0.size)
  clear r0 B0 b1
  go_wp2_with fail
  refine (ifirst_any l W1 hl (CutsB.below HC.out B1)).mono ?_
  rintro e W2 ⟨rfl, b2⟩
  have m2 := m1.below b2
  have r2 := r1.below b2
  have B2 := B1.trans (b2.mono B1.size)
  clear r1 m1 b2 B1
  rw [cut_first]
  obtain ⟨x, hx⟩ : ∃ x, (wordsOf l).headD [] = x := ⟨_, rfl⟩
  rw [hx]
  have HE : Hid (∀ zs, lineN l = some zs → evL l = evX x zs) := fun zs h => by rw [evL_some h, hx]
  clear hx
  go_wp2_with fail
  by_cases hw : ∃ p ∈ rdrs, p.1 = x
  · obtain ⟨⟨y, v⟩, hp, rfl⟩ := hw
    rw [look_yes y m2 (v := v) (rdrs_one hp) ⟨_, hp, rfl⟩]
    have HV := readers hp
    clear m2 hp
    go_wp2_with fail
    refine (inol_any l W2 hl (ReadsN.below HA.out B2) (splits_below HP.out B2) (HT.out W2 B2)).mono ?_
    rintro e W3 ⟨nv, xs, ok, rfl, j3, hok, hnok⟩
    obtain ⟨a, cap, rfl, hcap, hI, -⟩ := j3.ints
    have r3 := r2.below j3.b
    have B3 := B2.trans (j3.b.mono B2.size)
    have g0 := r3.cell 0
    have g1 := r3.cell 1
    have g2 := r3.cell 2
    have g3 := r3.cell 3
    have k0 := r3.free 0
    have k1 := r3.free 1
    have k2 := r3.free 2
    have k3 := r3.free 3
    simp only [List.getElem?_cons_zero, List.getElem?_cons_succ] at g0 g1 g2 g3
    clear j3 r2 B2
    cases ok with
    | false =>
      have HX : Hid (evL l = noE) := evL_none (hnok rfl)
      clear hok hnok hI HV
      have bz := below_put4 B3 (Nat.le_refl _) (.int .i64 0) (.int .i64 0) (.int .i64 0) (.slice none 0 0)
      have dz := r3.put4 (.int .i64 0) (.int .i64 0) (.int .i64 0) (.slice none 0 0)
      have z0 := dz.cell 0
      have z1 := dz.cell 1
      have z2 := dz.cell 2
      have z3 := dz.cell 3
      simp only [List.getElem?_cons_zero, List.getElem?_cons_succ] at z0 z1 z2 z3
      go_wp2
      all_goals rw [HX.out]
      all_goals exact bodyPost_ret (v := .tuple #[evV 0 0 0 none 0 0, .bool false]) (by simp [results, Tryd.results6, go_sem, z0, z1, z2, z3]) rfl (EvP.no bz)
    | true =>
      have HX : Hid (evL l = evX y xs) := HE.out xs (hok rfl)
      have hq := line_few (hok rfl)
      obtain ⟨q, hqq⟩ : ∃ q, xs.length = q := ⟨_, rfl⟩
      rw [hqq] at hcap hI hq ⊢
      have HI : Hid _ := hI
      clear hok hnok hqq hI
      rcases HV with ⟨k, rfl, hv⟩ | ⟨rfl, hv⟩
      · have HV : Hid _ := hv a q cap xs W3 HI.out hcap hq
        clear hv hcap hq g0 g1 g2 g3 k0 k1 k2 k3
        go_wp2_with fail
        refine Calls.mono HV.out ?_
        rintro e W4 ⟨a4, n4, c4, rfl, hn4, j4⟩
        have r4 := r3.below j4.b
        have B4 := B3.trans (j4.b.mono B3.size)
        have f0 := r4.cell 0
        have f1 := r4.cell 1
        have f2 := r4.cell 2
        have f3 := r4.cell 3
        have m0 := r4.free 0
        have m1 := r4.free 1
        have m2 := r4.free 2
        have m3 := r4.free 3
        simp only [List.getElem?_cons_zero, List.getElem?_cons_succ] at f0 f1 f2 f3
        obtain ⟨R, hR⟩ : ∃ R : EvR, R = evX y xs := ⟨_, rfl⟩
        rw [← hR] at hn4 j4 ⊢
        obtain ⟨rk, rt, rc, ra, ro⟩ := R
        have HRR : Hid (evL l = (rk, rt, rc, ra, ro)) := by show _ = _; rw [HX.out, hR]
        have HN4 : Hid (ra.length = n4) := hn4
        have d := r4.put4 (.int .i64 rk) (.int .i64 rt) (.int .i64 rc) (.slice a4 n4 c4)
        have d0 := d.cell 0
        have d1 := d.cell 1
        have d2 := d.cell 2
        have d3 := d.cell 3
        simp only [List.getElem?_cons_zero, List.getElem?_cons_succ] at d0 d1 d2 d3
        have bd := below_put4 B4 (Nat.le_refl _) (.int .i64 rk) (.int .i64 rt) (.int .i64 rc) (.slice a4 n4 c4)
        have OD := own_weak (own_put4 j4.o (show w.heap.size < W3.heap.size from r3.lt) (.int .i64 rk) (.int .i64 rt) (.int .i64 rc) (.slice a4 n4 c4)) B3.size
        clear hR hn4 j4 HX
        go_wp2
        rw [HRR.out]
        exact bodyPost_ret (v := .tuple #[evV rk rt rc a4 n4 c4, .bool ro]) (by simp [results, Tryd.results6, go_sem, d0, d1, d2, d3]) rfl ⟨a4, n4, c4, rfl, HN4.out, ⟨bd, OD⟩⟩
      · have HX2 : Hid (evL l = bareL 10 1 xs) := by show _ = _; rw [HX.out, hv]
        clear hv hcap hq g0 g1 g2 g3 k0 k1 k2 k3
        go_wp2_with fail
        refine (irise_any a q cap xs W3 HI.out).mono ?_
        rintro e W4 ⟨a4, n4, c4, rfl, hn4, j4⟩
        have r4 := r3.below j4.b
        have B4 := B3.trans (j4.b.mono B3.size)
        have f0 := r4.cell 0
        have f1 := r4.cell 1
        have f2 := r4.cell 2
        have f3 := r4.cell 3
        have m0 := r4.free 0
        have m1 := r4.free 1
        have m2 := r4.free 2
        have m3 := r4.free 3
        simp only [List.getElem?_cons_zero, List.getElem?_cons_succ] at f0 f1 f2 f3
        obtain ⟨R, hR⟩ : ∃ R : EvR, R = bareL 10 1 xs := ⟨_, rfl⟩
        rw [← hR] at hn4 j4 ⊢
        obtain ⟨rk, rt, rc, ra, ro⟩ := R
        have HRR : Hid (evL l = (rk, rt, rc, ra, ro)) := by show _ = _; rw [HX2.out, hR]
        have HN4 : Hid (ra.length = n4) := hn4
        have d := r4.put4 (.int .i64 rk) (.int .i64 rt) (.int .i64 rc) (.slice a4 n4 c4)
        have d0 := d.cell 0
        have d1 := d.cell 1
        have d2 := d.cell 2
        have d3 := d.cell 3
        simp only [List.getElem?_cons_zero, List.getElem?_cons_succ] at d0 d1 d2 d3
        have bd := below_put4 B4 (Nat.le_refl _) (.int .i64 rk) (.int .i64 rt) (.int .i64 rc) (.slice a4 n4 c4)
        have OD := own_weak (own_put4 j4.o (show w.heap.size < W3.heap.size from r3.lt) (.int .i64 rk) (.int .i64 rt) (.int .i64 rc) (.slice a4 n4 c4)) B3.size
        clear hR hn4 j4 HX HX2
        go_wp2
        rw [HRR.out]
        exact bodyPost_ret (v := .tuple #[evV rk rt rc a4 n4 c4, .bool ro]) (by simp [results, Tryd.results6, go_sem, d0, d1, d2, d3]) rfl ⟨a4, n4, c4, rfl, HN4.out, ⟨bd, OD⟩⟩
  · have hno : ∀ p ∈ rdrs, p.1 ≠ x := fun p hp e => hw ⟨p, hp, e⟩
    rw [look_no x m2 hno (z := .nilFunc) rfl]
    have HNO : Hid (∀ zs, evX x zs = noE) := evx_no hno
    clear hw hno m2
    go_wp2_with fail
    refine (inol_any l W2 hl (ReadsN.below HA.out B2) (splits_below HP.out B2) (HT.out W2 B2)).mono ?_
    rintro e W3 ⟨nv, xs, ok, rfl, j3, hok, hnok⟩
    obtain ⟨a, cap, rfl, hcap, hI, -⟩ := j3.ints
    have r3 := r2.below j3.b
    have B3 := B2.trans (j3.b.mono B2.size)
    have g0 := r3.cell 0
    have g1 := r3.cell 1
    have g2 := r3.cell 2
    have g3 := r3.cell 3
    have k0 := r3.free 0
    have k1 := r3.free 1
    have k2 := r3.free 2
    have k3 := r3.free 3
    simp only [List.getElem?_cons_zero, List.getElem?_cons_succ] at g0 g1 g2 g3
    have HX : Hid (evL l = noE) := by
      show _ = _
      cases ok with
      | false => exact evL_none (hnok rfl)
      | true => rw [HE.out xs (hok rfl), HNO.out]
    clear hok hnok hI j3 r2 B2
    have bz := below_put4 B3 (Nat.le_refl _) (.int .i64 0) (.int .i64 0) (.int .i64 0) (.slice none 0 0)
    have dz := r3.put4 (.int .i64 0) (.int .i64 0) (.int .i64 0) (.slice none 0 0)
    have z0 := dz.cell 0
    have z1 := dz.cell 1
    have z2 := dz.cell 2
    have z3 := dz.cell 3
    simp only [List.getElem?_cons_zero, List.getElem?_cons_succ] at z0 z1 z2 z3
    go_wp2
    all_goals rw [HX.out]
    all_goals exact bodyPost_ret (v := .tuple #[evV 0 0 0 none 0 0, .bool false]) (by simp [results, Tryd.results6, go_sem, z0, z1, z2, z3]) rfl (EvP.no bz)

end Go.Proofs.YtmdjcfplhmkocaaDoor
namespace Go.Proofs.YtmdjcfplhmkocaaDoor
open Go.RowKit
set_option linter.unusedVariables false
set_option maxRecDepth 100000

theorem rdF_small {l : List UInt8} {c : Int} {xs : List Int} {ok : Bool} (h : rdF l = (c, xs, ok)) : xs.length ≤ 6 := by
  rw [rdF] at h
  split at h
  · rw [rd_same, rdS] at h
    split at h
    · rename_i hb
      rw [rdB, decide_eq_true_eq] at hb
      have ho := text_ok hb.1
      have e : (preS l).2 = xs := congrArg (fun r => r.2.1) h
      rw [← e]
      unfold resOkB at ho
      simp only [Bool.and_eq_true, decide_eq_true_eq] at ho
      exact ho.2.2.1
    · have e : [] = xs := congrArg (fun r => r.2.1) h
      rw [← e]; simp
  · have e : [] = xs := congrArg (fun r => r.2.1) h
    rw [← e]; simp

theorem Splits.below {w w' : World} (h : Splits w) (b : Below w.heap.size w w') : Splits w' := fun W hW => h W (b.trans (hW.mono b.size))

end Go.Proofs.YtmdjcfplhmkocaaDoor
namespace Go.Proofs.YtmdjcfplhmkocaaDoor
open Go.RowKit
set_option linter.unusedVariables false
set_option maxRecDepth 100000

theorem eqEv_same (k t c : Int) (a : Option Addr) (n cap : Nat) (a' : Option Addr) (cap' : Nat) (tl : List Int) (w : World) (h : Ints w a n tl) (h' : Ints w a' n tl) (hn : n ≤ 1048576) :
    Calls Tryd.prog 9 #[evV k t c a n cap, evV k t c a' n cap'] w fun e w' => e = .returned (.bool true) ∧ Below w.heap.size w w' := by
  have h1 : (k != k) = false := by simp
  have h2 : (t != t) = false := by simp
  have h3 : (c != c) = false := by simp
  have HE := eqB_refl tl
  go_enter Tryd.func9, Tryd.ntmps9
  go_wp2_with fail
  refine (eq_any _ _ _ _ _ _ tl tl _ ((h.alloc _).alloc _) ((h'.alloc _).alloc _) hn hn).mono ?_
  rintro e w1 ⟨rfl, b1⟩
  rw [HE]
  go_wp2
  go_ret
  exact ⟨rfl, (((Below.refl _ _).alloc (Nat.le_refl _) _).alloc (by simp) _).trans (b1.mono (by simp; omega))⟩

theorem markEv_any (c0 c1 c2 : Int) (a : Option Addr) (n cap B : Nat) (tl : List Int) (k : Int) (w : World) (h : OwnX w a B n tl) (hn : n ≤ 1048576) (hk0 : 0 ≤ k) (hk : k ≤ 1000000000000000) :
    Calls Tryd.prog 10 #[evV c0 c1 c2 a n cap, .int .i64 k] w fun e w' => e = .returned (.int .i64 (k + n)) ∧ Touch (fun x => x = B ∧ 0 < n) w w' ∧ OwnX w' a B n (ramp k n) := by
  go_enter Tryd.func10, Tryd.ntmps10
  go_wp2_with fail
  refine (markX_any _ _ _ B tl _ _ (h.alloc _) hn hk0 hk).mono ?_
  rintro e w1 ⟨rfl, t1, o1⟩
  go_wp2
  go_ret
  exact ⟨rfl, (Touch.of ((Below.refl _ _).alloc (Nat.le_refl _) _)).trans t1, o1⟩

theorem heldEv_any (c0 c1 c2 : Int) (a : Option Addr) (n cap : Nat) (k : Int) (w : World) (h : Ints w a n (ramp k n)) (hn : n ≤ 1048576) (hk0 : 0 ≤ k) (hk : k ≤ 1000000000000000) :
    Calls Tryd.prog 11 #[evV c0 c1 c2 a n cap, .int .i64 k] w fun e w' => e = .returned (.int .i64 (k + n)) ∧ Below w.heap.size w w' := by
  have h0 : 0 ≤ k + (n : Int) := by omega
  go_enter Tryd.func11, Tryd.ntmps11
  go_wp2_with fail
  refine (held_any _ _ _ _ _ (h.alloc _) hn hk0 (by omega)).mono ?_
  rintro e w1 ⟨rfl, hw⟩
  rw [hw]
  go_wp2
  go_ret
  exact ⟨rfl, (Below.refl _ _).alloc (Nat.le_refl _) _⟩

theorem bareL_small (k t : Int) (zs : List Int) : (bareL k t zs).2.2.2.1.length ≤ 2 := by
  rw [bareL]; split <;> simp [noE]
theorem oneL_small (k : Int) (zs : List Int) : (oneL k zs).2.2.2.1.length ≤ 2 := by
  rw [oneL]; split <;> simp [noE]
theorem callL_small (zs : List Int) : (callL zs).2.2.2.1.length ≤ 2 := by
  rw [callL]
  split
  · rename_i h
    show (zs.drop 2).length ≤ 2
    rw [List.length_drop]; omega
  · simp [noE]
theorem evL_small {l : List UInt8} {k t c : Int} {xs : List Int} {ok : Bool} (h : evL l = (k, t, c, xs, ok)) : xs.length ≤ 2 := by
  have e : xs = (evL l).2.2.2.1 := by rw [h]
  rw [e, evL]
  split
  · simp [noE]
  · rw [evX]
    repeat' split
    all_goals first | exact callL_small _ | exact bareL_small _ _ _ | exact oneL_small _ _ | simp [noE]
theorem sdsk_at {l : List UInt8} {k t c : Int} {xs : List Int} {ok : Bool} {n : Nat} (hF : evL l = (k, t, c, xs, ok)) (hn : xs.length = n) (w : World) :
    Calls Tryd.prog 7 #[.string ⟨l.toArray⟩] w fun e w' => ∃ a cap, e = .returned (.tuple #[evV k t c a n cap, .bool ok]) ∧ Below w.heap.size w w' ∧ Ints w' a n xs := by
  refine (sdsk_any l w).mono ?_
  rintro e w' ⟨a, n', cap, h1, h2, h3⟩
  rw [hF] at h1 h3
  obtain rfl : n' = n := h3.1.symm.trans hn
  exact ⟨a, cap, h1, h2, h3⟩
theorem idsk_at {l : List UInt8} {k t c : Int} {xs : List Int} {ok : Bool} {n : Nat} (hF : evL l = (k, t, c, xs, ok)) (hn : xs.length = n) (w : World) (hl : l.length ≤ 1048576) (hA : ReadsN w) (hSp : Splits w) (hC : CutsB w) (hT : Lib.TabBelow Tryd.prog w.heap.size w "internal/strconv.uint64pow10" .u64 Lib.pow10Tab) :
    Calls Tryd.prog 6 #[.string ⟨l.toArray⟩] w fun e w' => ∃ a cap B, e = .returned (.tuple #[evV k t c a n cap, .bool ok]) ∧ Below w.heap.size w w' ∧ OwnX w' a B n xs ∧ (0 < n → w.heap.size ≤ B) := by
  refine (idsk_any l w hl hC hA hSp hT).mono ?_
  rintro e w' ⟨a, n', cap, h1, h2, h3⟩
  rw [hF] at h1 h2 h3
  obtain rfl : n' = n := h2.symm.trans hn
  obtain ⟨a2, cap2, B, e2, ho, hB⟩ := h3.ownx h2
  cases e2
  exact ⟨a, cap, B, h1, h3.b, ho, hB⟩

end Go.Proofs.YtmdjcfplhmkocaaDoor
