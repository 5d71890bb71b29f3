/-
  A map whose keys are texts, as it is made and looked up; the program's readers of events, by their words.
-/
import Derived.Test.YtmdjcfplhmkocaaDoorWalks
import Derived.Test.YtmdjcfplhmkocaaDoorTk
import Derived.Deep.Slices
import Derived.MapKept
import Derived.WideMake
namespace Go.Proofs.YtmdjcfplhmkocaaDoor
open Go.RowKit Go.MapKept
set_option linter.unusedVariables false
set_option maxRecDepth 100000

/-- The block r is a map that holds these texts with these values. -/
def MapIs (W : World) (r : Nat) (ps : List (List UInt8 × Value)) : Prop := ∃ es clock, W.heap[r]? = some (.map es clock) ∧ es.toList.map (fun e => (e.key, e.val)) = ps.map fun p => (Value.string ⟨p.1.toArray⟩, p.2)
theorem MapIs.below {W W' : World} {r : Nat} {ps : List (List UInt8 × Value)} (h : MapIs W r ps) (b : Below W.heap.size W W') : MapIs W' r ps := by
  obtain ⟨es, c, hh, hm⟩ := h
  have hl := (Array.getElem?_eq_some_iff.1 hh).1
  exact ⟨es, c, by rw [b.block r hl]; exact hh, hm⟩
theorem MapIs.new (W : World) : MapIs (W.alloc (.map #[] 0)) W.heap.size [] := ⟨#[], 0, (heap_alloc W _).1, rfl⟩
theorem map_keys {es : Array MapEntry} {ps : List (List UInt8 × Value)} (hm : es.toList.map (fun e => (e.key, e.val)) = ps.map fun p => (Value.string ⟨p.1.toArray⟩, p.2)) : ∀ x ∈ es.toList, ∃ p ∈ ps, x.key = .string ⟨p.1.toArray⟩ ∧ x.val = p.2 := fun x hx => by
  have : (x.key, x.val) ∈ ps.map fun p => (Value.string ⟨p.1.toArray⟩, p.2) := by
    rw [← hm]; exact List.mem_map.2 ⟨x, hx, rfl⟩
  obtain ⟨p, hp, e⟩ := List.mem_map.1 this
  exact ⟨p, hp, (congrArg Prod.fst e).symm, (congrArg Prod.snd e).symm⟩
theorem key_same {x k : List UInt8} (h : Value.string ⟨x.toArray⟩ = Value.string ⟨k.toArray⟩) : x = k := by
  simp only [Value.string.injEq] at h
  have := congrArg (fun b => b.data.toList) h
  simpa using this
theorem below_mput {w X : World} {n l : Nat} {o : Obj} (h : Below n w X) (hl : n ≤ l) : Below n w { X with heap := X.heap.setIfInBounds l o } :=
  ⟨h.os, h.tape, h.output, by simpa using h.size, fun k hk => by
    have : l ≠ k := by omega
    simpa [this] using h.block k hk⟩
theorem upd_new {W w0 : World} {r n : Nat} {ps : List (List UInt8 × Value)} (k : List UInt8) (v : Value) (h : MapIs W r ps) (hk : ∀ p ∈ ps, p.1 ≠ k) (hn : n ≤ r) (hb : Below n w0 W) :
    ∃ W', (Instr.mapUpdate 39 (.map (some r)) (.string ⟨k.toArray⟩) v).run Tryd.prog W = .ok () W' ∧ MapIs W' r (ps ++ [(k, v)]) ∧ Below n w0 W' := by
  obtain ⟨es, c, hh, hm⟩ := h
  have hks : ∀ x ∈ es.toList, IsKey .string x.key := fun x hx => by
    obtain ⟨p, -, e, -⟩ := map_keys hm x hx
    rw [e]; trivial
  have hkk : IsKey .string (Value.string ⟨k.toArray⟩) := trivial
  rcases findNow_spec hkk es.toList 0 hks with ⟨h1, _⟩ | ⟨j, e, h1, h2, h3⟩
  · refine ⟨_, by simp [Instr.mapUpdate, run_underlying Tryd.underlying39, Go.MapKept.run_getObj_map hh, run_checkKey Tryd.underlying9 hkk, run_findKey Tryd.underlying9 h1, run_setObj_map _ hh, Result.andThen]; rfl, ⟨_, _, (heap_set hh).1, by simp [hm]⟩, ?_⟩
    exact below_mput hb hn
  · obtain ⟨p, hp, e1, -⟩ := map_keys hm e (List.mem_of_getElem? (by simpa using h2))
    exact absurd (key_same (e1.symm.trans h3)) (hk p hp)
theorem look_no {W : World} {r : Nat} {ps : List (List UInt8 × Value)} {z : Value} (k : List UInt8) (h : MapIs W r ps) (hk : ∀ p ∈ ps, p.1 ≠ k) (hz : (zeroValue 37).run Tryd.prog W = .ok z W) :
    (Instr.lookup 39 (.map (some r)) (.string ⟨k.toArray⟩) true).run Tryd.prog W = .ok (.tuple #[z, .bool false]) W := by
  obtain ⟨es, c, hh, hm⟩ := h
  have hks : ∀ x ∈ es.toList, IsKey .string x.key := fun x hx => by
    obtain ⟨p, -, e, -⟩ := map_keys hm x hx
    rw [e]; trivial
  have hkk : IsKey .string (Value.string ⟨k.toArray⟩) := trivial
  rcases findNow_spec hkk es.toList 0 hks with ⟨h1, _⟩ | ⟨j, e, h1, h2, h3⟩
  · simp [Instr.lookup, run_underlying Tryd.underlying39, Go.MapKept.run_getObj_map hh, run_checkKey Tryd.underlying9 hkk, run_findKey Tryd.underlying9 h1, hz, Result.andThen]
  · obtain ⟨p, hp, e1, -⟩ := map_keys hm e (List.mem_of_getElem? (by simpa using h2))
    exact absurd (key_same (e1.symm.trans h3)) (hk p hp)
theorem look_yes {W : World} {r : Nat} {ps : List (List UInt8 × Value)} {v : Value} (k : List UInt8) (h : MapIs W r ps) (hk : ∀ p ∈ ps, p.1 = k → p.2 = v) (hx : ∃ p ∈ ps, p.1 = k) :
    (Instr.lookup 39 (.map (some r)) (.string ⟨k.toArray⟩) true).run Tryd.prog W = .ok (.tuple #[v, .bool true]) W := by
  obtain ⟨es, c, hh, hm⟩ := h
  have hks : ∀ x ∈ es.toList, IsKey .string x.key := fun x hx => by
    obtain ⟨p, -, e, -⟩ := map_keys hm x hx
    rw [e]; trivial
  have hkk : IsKey .string (Value.string ⟨k.toArray⟩) := trivial
  rcases findNow_spec hkk es.toList 0 hks with ⟨h1, h2⟩ | ⟨j, e, h1, h2, h3⟩
  · obtain ⟨p, hp, e1⟩ := hx
    have : (Value.string ⟨p.1.toArray⟩, p.2) ∈ es.toList.map (fun e => (e.key, e.val)) := by rw [hm]; exact List.mem_map.2 ⟨p, hp, rfl⟩
    obtain ⟨x, hx2, e2⟩ := List.mem_map.1 this
    exact absurd ((congrArg Prod.fst e2).trans (by rw [e1])) (h2 x hx2)
  · obtain ⟨p, hp, e1, e2⟩ := map_keys hm e (List.mem_of_getElem? (by simpa using h2))
    have hv : e.val = v := e2.trans (hk p hp (key_same (e1.symm.trans h3)))
    simp [Instr.lookup, run_underlying Tryd.underlying39, Go.MapKept.run_getObj_map hh, run_checkKey Tryd.underlying9 hkk, run_findKey Tryd.underlying9 h1, hv, Result.andThen]

abbrev evF (k : Int) : Value := .func (.func 28) #[.int .i64 k] #[]
abbrev riseF : Value := .func (.func 29) #[] #[]
def rdrs : List (List UInt8 × Value) := [([99, 97, 108, 108], (evF 1)), ([116, 114, 121], (evF 2)), ([100, 101, 97, 102], (evF 3)), ([98, 114, 105, 110, 103], (evF 4)), ([108, 111, 115, 101], (evF 5)), ([116, 119, 105, 99, 101], (evF 6)), ([116, 105, 99, 107], (evF 7)), ([102, 97, 108, 108], (evF 8)), ([114, 105, 115, 101], (evF 9)), ([99, 108, 101, 114, 107, 102, 97, 108, 108, 115], (evF 10)), ([99, 108, 101, 114, 107, 114, 105, 115, 101, 115], riseF)]

set_option maxHeartbeats 3200000 in
theorem irdrs_any (w : World) :
    Calls Tryd.prog 14 #[] w fun e w' => ∃ b, e = .returned (.map (some b)) ∧ MapIs w' b rdrs ∧ Below w.heap.size w w' := by
  have m0 := MapIs.new w
  have b0 : Below w.heap.size w (w.alloc (.map #[] 0)) := (Below.refl _ _).alloc (Nat.le_refl _) _
  go_enter Tryd.func14, Tryd.ntmps14
  go_wp2_with fail
  rw [show Sem.run Tryd.prog (Instr.makeMap 39 none) w = .ok (.map (some w.heap.size)) (w.alloc (.map #[] 0)) from rfl]
  go_wp2_with fail
  obtain ⟨w1, e, m1, b1⟩ := upd_new [99, 97, 108, 108] (evF 1) m0 (by decide) (Nat.le_refl _) b0
  rw [e]
  clear e m0 b0
  go_wp2_with fail
  obtain ⟨w2, e, m2, b2⟩ := upd_new [116, 114, 121] (evF 2) m1 (by decide) (Nat.le_refl _) b1
  rw [e]
  clear e m1 b1
  go_wp2_with fail
  obtain ⟨w3, e, m3, b3⟩ := upd_new [100, 101, 97, 102] (evF 3) m2 (by decide) (Nat.le_refl _) b2
  rw [e]
  clear e m2 b2
  go_wp2_with fail
  obtain ⟨w4, e, m4, b4⟩ := upd_new [98, 114, 105, 110, 103] (evF 4) m3 (by decide) (Nat.le_refl _) b3
  rw [e]
  clear e m3 b3
  go_wp2_with fail
  obtain ⟨w5, e, m5, b5⟩ := upd_new [108, 111, 115, 101] (evF 5) m4 (by decide) (Nat.le_refl _) b4
  rw [e]
  clear e m4 b4
  go_wp2_with fail
  obtain ⟨w6, e, m6, b6⟩ := upd_new [116, 119, 105, 99, 101] (evF 6) m5 (by decide) (Nat.le_refl _) b5
  rw [e]
  clear e m5 b5
  go_wp2_with fail
  obtain ⟨w7, e, m7, b7⟩ := upd_new [116, 105, 99, 107] (evF 7) m6 (by decide) (Nat.le_refl _) b6
  rw [e]
  clear e m6 b6
  go_wp2_with fail
  obtain ⟨w8, e, m8, b8⟩ := upd_new [102, 97, 108, 108] (evF 8) m7 (by decide) (Nat.le_refl _) b7
  rw [e]
  clear e m7 b7
  go_wp2_with fail
  obtain ⟨w9, e, m9, b9⟩ := upd_new [114, 105, 115, 101] (evF 9) m8 (by decide) (Nat.le_refl _) b8
  rw [e]
  clear e m8 b8
  go_wp2_with fail
  obtain ⟨w10, e, m10, b10⟩ := upd_new [99, 108, 101, 114, 107, 102, 97, 108, 108, 115] (evF 10) m9 (by decide) (Nat.le_refl _) b9
  rw [e]
  clear e m9 b9
  go_wp2_with fail
  obtain ⟨w11, e, m11, b11⟩ := upd_new [99, 108, 101, 114, 107, 114, 105, 115, 101, 115] riseF m10 (by decide) (Nat.le_refl _) b10
  rw [e]
  clear e m10 b10
  go_wp2
  go_ret
  exact ⟨_, rfl, m11, b11⟩

end Go.Proofs.YtmdjcfplhmkocaaDoor
