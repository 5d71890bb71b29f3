/-
  An argument that is a slice of forms, or of lines, as the walks are told of it. No condition.
-/
import Derived.Test.YtemcinobgdphnaaSlices
import Derived.Test.YtemcinobgdphnaaOpen
import Derived.Deep.Slices
namespace Go.Proofs.Ytemcinobgdphnaa
open Go.ChangeShapes Go.WideShapes Go.ChangeAt Go.RowKit Go.Joins Go.Deep
set_option linter.unusedVariables false
set_option maxRecDepth 100000

theorem open_cells3 {H : Type} {enc : TypeId × Value → H} {W : World} {fuel : Nat} {t : TypeId} {f0 f1 f2 : Field} {cs : List Value} {x : DataW H × List MemPlace} (hs : Try.prog.underlying t = some (.struct #[f0, f1, f2])) (hone : oneCellFields Try.prog #[f0, f1, f2] = true) (hC : Try.prog.cellsOf t = 3)
    (hf : DataW.trod enc Try.prog W 0 (fun _ => true) true fuel t cs = some x) :
    ∃ v0 v1 v2 y0 y1 y2 n, cs = [v0, v1, v2] ∧ DataW.trod enc Try.prog W 0 (fun _ => true) true n f0.type [v0] = some y0 ∧ DataW.trod enc Try.prog W 0 (fun _ => true) true n f1.type [v1] = some y1 ∧ DataW.trod enc Try.prog W 0 (fun _ => true) true n f2.type [v2] = some y2 := by
  obtain ⟨y0, y1, y2, n, _, hl, h0, h1, h2⟩ := trod_struct3 hs hf
  obtain ⟨o0, k0⟩ := hone_of hone 0 f0 rfl
  obtain ⟨o1, k1⟩ := hone_of hone 1 f1 rfl
  obtain ⟨o2, k2⟩ := hone_of hone 2 f2 rfl
  have hl' : cs.length = 3 := hl.trans hC
  match cs, hl' with
  | [c0, c1, c2], _ => exact ⟨c0, c1, c2, y0, y1, y2, n, rfl, by simpa [o0, k0] using h0, by simpa [o1, k1] using h1, by simpa [o2, k2] using h2⟩

theorem open_formC {H : Type} {enc : TypeId × Value → H} {W : World} {fuel : Nat} {cs : List Value} {x : DataW H × List MemPlace}
    (hf : DataW.trod enc Try.prog W 0 (fun _ => true) true fuel 34 cs = some x) :
    ∃ f : FV, cs = f.cs ∧ Ints W f.a f.n f.C ∧ Ints W f.c f.m f.D ∧ f.n ≤ maxLen ∧ f.m ≤ maxLen := by
  obtain ⟨v0, v1, v2, y0, y1, y2, k, rfl, h0, h1, h2⟩ := open_cells3 Try.underlying34 (by kernel_rfl) (by kernel_rfl) hf
  obtain ⟨a, n, cap, C, rfl, hC, hn⟩ := open_row h0
  obtain ⟨c, m, cap', D, rfl, hD, hm⟩ := open_row h1
  obtain ⟨K, rfl, wK⟩ := open_num h2
  exact ⟨⟨a, n, cap, c, m, cap', K, C, D⟩, rfl, hC, hD, hn, hm⟩

theorem cells_at {W : World} {b off n : Nat} {cs : List Value} (h : W.cells? 0 ⟨b, off, none⟩ n = some cs) (i : Nat) (hi : i < n) : W.cell? ⟨b, off + i, none⟩ = cs[i]? := by
  have := (World.cells?_some h).2.2 i hi
  by_cases h0 : i = 0
  · subst h0; simpa [Addr.add] using this
  · simpa [Addr.add, h0] using this

theorem open_forms {H : Type} {enc : TypeId × Value → H} {W : World} {r : Reach} {b0 : Nat} {v : Value} {d : DataW H} {p : List MemPlace}
    (hv : Value.okWide Try.prog W r b0 23 v) (h : DataW.Trod enc Try.prog W 0 (fun _ => true) true 23 v d p) :
    ∃ ad N cap fs, v = .slice ad N cap ∧ fs.length = N ∧ FormsM W ad fs ∧ N ≤ maxLen := by
  obtain ⟨a0, len0, cap0, rfl⟩ := okWide_slice Try.underlying23 hv
  obtain ⟨fuel, hf⟩ := h
  have hf' : DataW.trod enc Try.prog W 0 (fun _ => true) true fuel 23 [.slice a0 len0 cap0] = some (d, p) := by simpa [Value.cells] using hf
  have hC : Try.prog.cellsOf 34 = 3 := by kernel_rfl
  rcases open_slice Try.underlying23 hf' with ⟨hcs, _⟩ | ⟨a, len, cap, m, n, D, Pl, hcs, _, hl, hm, hmm, _, hall⟩
  · simp at hcs
    obtain ⟨rfl, rfl, rfl⟩ := hcs
    exact ⟨none, 0, 0, [], rfl, rfl, fun i hi => by simp at hi, by unfold maxLen; omega⟩
  · simp at hcs
    obtain ⟨rfl, rfl, rfl⟩ := hcs
    obtain rfl : m = cap0 := by simpa using hmm
    rw [hC] at hall
    have hex : ∀ i, i < len0 → ∃ f : FV, W.cells? 0 (a.add (i * 3)) 3 = some f.cs ∧ Ints W f.a f.n f.C ∧ Ints W f.c f.m f.D ∧ f.n ≤ maxLen ∧ f.m ≤ maxLen := fun i hi => by
      obtain ⟨cs', h1, h2⟩ := hall i (by omega)
      obtain ⟨f, rfl, h3⟩ := open_formC h2
      exact ⟨f, h1, h3⟩
    have : ∃ F : Nat → FV, ∀ i, i < len0 → W.cells? 0 (a.add (i * 3)) 3 = some (F i).cs ∧ Ints W (F i).a (F i).n (F i).C ∧ Ints W (F i).c (F i).m (F i).D ∧ (F i).n ≤ maxLen ∧ (F i).m ≤ maxLen := by
      classical
      refine ⟨fun i => if hi : i < len0 then Classical.choose (hex i hi) else noFV, fun i hi => ?_⟩
      simp only [dif_pos hi]
      exact Classical.choose_spec (hex i hi)
    obtain ⟨F, hF⟩ := this
    refine ⟨some a, len0, m, (List.range len0).map F, rfl, by simp, fun i hi => ?_, by omega⟩
    have hi' : i < len0 := by simpa using hi
    have hg : ((List.range len0).map F)[i]?.getD noFV = F i := by simp [hi']
    rw [hg]
    obtain ⟨h1, h2⟩ := hF i hi'
    obtain ⟨b, off, spot⟩ := a
    have hspot : spot = none := by
      have := (World.cells?_some (hF 0 (by omega)).1).2.2 0 (by omega)
      have h3 : (F 0).cs[0]? = some (.slice (F 0).a (F 0).n (F 0).cap) := rfl
      rw [h3] at this
      simpa [Addr.add] using World.cell?_spot this
    subst hspot
    have hadd : (⟨b, off, none⟩ : Addr).add (i * 3) = ⟨b, off + i * 3, none⟩ := by
      by_cases h0 : i = 0
      · subst h0; simp [Addr.add]
      · simp [Addr.add]; omega
    rw [hadd] at h1
    exact ⟨b, off, rfl, cells_at h1 0 (by omega), cells_at h1 1 (by omega), cells_at h1 2 (by omega), h2⟩

end Go.Proofs.Ytemcinobgdphnaa
