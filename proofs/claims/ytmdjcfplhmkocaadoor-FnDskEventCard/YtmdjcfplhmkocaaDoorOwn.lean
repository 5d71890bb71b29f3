/-
  A list of ints that was made by append (with room behind it), and may be written: marked, added to, copied; what an act came to as a value. Lengths at most 1048576.
-/
import Derived.Test.YtmdjcfplhmkocaaDoorOwn0
import Derived.Test.YtmdjcfplhmkocaaDoorAdd
import Derived.Lib.SliceRun
namespace Go.Proofs.YtmdjcfplhmkocaaDoor
open Go.RowKit
set_option linter.unusedVariables false
set_option maxRecDepth 100000

/-- The numbers of a slice, to be appended. -/
theorem newsI {w : World} {b off n : Nat} {zs : List Int} (h : ∀ i, i < n → w.cell? ⟨b, off + i, none⟩ = some (.int .i64 (zs.getD i 0))) (hl : zs.length = n) : ∀ j u, (zs.map (Value.int .i64))[j]? = some u → w.cell? ((⟨b, off, none⟩ : Addr).add j) = some u := fun j u hu => by
  have hj : j < n := by
    have := (List.getElem?_eq_some_iff.1 hu).1
    simpa [hl] using this
  have hadd : (⟨b, off, none⟩ : Addr).add j = ⟨b, off + j, none⟩ := by
    by_cases h0 : j = 0
    · subst h0; simp [Addr.add]
    · simp [Addr.add, h0]
  rw [hadd, h j hj]
  rw [List.getElem?_map, List.getElem?_eq_getElem (by omega)] at hu
  simp only [Option.map_some, Option.some.injEq] at hu
  rw [← hu]
  simp [hl, hj]
theorem oneI (zs : List Int) : ∀ u ∈ zs.map (Value.int .i64), u.oneCell' = true := fun u hu => by
  obtain ⟨x, _, rfl⟩ := List.mem_map.1 hu
  rfl
theorem JA.copied {w W' : World} {zs : List Int} {g cap n : Nat} (hn : zs.length = n) (hown : W'.ownsRow w.heap.size 3 1 (.slice (some ⟨g, 0, none⟩) (0 + n) cap) (0 + n) ([] ++ zs.map (Value.int .i64))) (hg : (w.alloc (.cells #[] 3)).grownBy W' (Value.ownBlock (.slice (some ⟨w.heap.size, 0, none⟩) 0 0))) :
    JA w (.slice (some ⟨g, 0, none⟩) n cap) zs W' := by
  have h0 := JA.lit w
  refine h0.own (ys := zs) ?_ hg
  rw [hn]
  simpa using hown

set_option maxHeartbeats 400000 in
theorem clone_any (a : Option Addr) (n cap : Nat) (zs : List Int) (w : World) (h : Ints w a n zs) (hn : n ≤ 1048576) (h0 : 0 < n) :
    Calls Tryd.prog 37 #[.slice a n cap] w fun e w' => ∃ v, e = .returned v ∧ JA w v zs w' := by
  have HZ : Hid (zs.length = n) := h.1
  obtain ⟨i0, hi, hz0, hz1, hz2⟩ := info_parts Tryd.infoInt
  obtain ⟨b, off, rfl, hcell⟩ := h.pos h0
  have hcl : ∀ i, i < n → (w.alloc (.cells #[] 3)).cell? ⟨b, off + i, none⟩ = some (.int .i64 (zs.getD i 0)) := fun i hi => by
    rw [((Below.refl w.heap.size w).alloc (Nat.le_refl _) _).cell (p := ⟨b, off + i, none⟩) (block_lt (hcell i hi))]; exact hcell i hi
  have HC : Hid _ := newsI hcl HZ.out
  have HL : Hid ((zs.map (Value.int .i64)).length = n * 1) := by show _ = _; rw [List.length_map, HZ.out, Nat.mul_one]
  have HJ : Hid _ := (JA.lit w).o
  clear hcl hcell h
  have hnil : ∀ w, (binOp .eql 24 (.slice (some ⟨b, off, none⟩) n cap) (.slice none 0 0)).run Tryd.prog w = .ok (.bool false) w := fun w => Go.Lib.run_eql_slice_nil w _ _ _ _ _ _ _ Tryd.underlying24
  go_enter Tryd.func37, Tryd.ntmps37
  go_wp2_with (at_builtin; go_must (refine wpList_append_lies _ rfl (.tmp 5) (.tmp 6) 24 rfl w.heap.size 3 i0 (.int .i64 0) 1 8 Tryd.underlying24 hi hz0 hz1 hz2 rfl (by decide) _ 0 [] rfl HJ.out ⟨b, off, none⟩ n cap (zs.map (Value.int .i64)) rfl HL.out HC.out (oneI _) h0 (by unfold maxLen; omega) (by omega) (by rw [World.size_alloc]; omega) _ rfl ?_); intro g cp w1 hown hgrow hat hlt1)
  have j := JA.copied HZ.out hown hgrow
  clear hown hgrow
  go_wp2
  go_ret
  exact ⟨_, rfl, j⟩

end Go.Proofs.YtmdjcfplhmkocaaDoor
