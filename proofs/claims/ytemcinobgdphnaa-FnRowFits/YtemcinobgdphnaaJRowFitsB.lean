/-
  Lemmas that the claim's last text rests on: DrRw, Fits.
-/
import Derived.Test.YtemcinobgdphnaaRowsS
import Derived.Test.YtemcinobgdphnaaRowsP
import Derived.Test.YtemcinobgdphnaaJRowFitsA
import Derived.Test.YtemcinobgdphnaaTk
import Derived.RangeFuncRecord
import Derived.Deep.AppendLies
import Derived.Deep.DeepCutAuto
import Derived.Test.YtemcinobgdphnaaRow
namespace Go.Proofs.Ytemcinobgdphnaa
open Go.RowKit Go.Deep
set_option linter.unusedVariables false
set_option maxRecDepth 100000
set_option linter.unusedSimpArgs false

/-- Forms of any lengths, read whatever becomes of the blocks of S. -/
def GOff (W : World) (S : Nat → Prop) (a : Option Addr) (gs : List FV) : Prop := ∀ W', Touch S W W' → FormsG W' a gs
theorem GOff.touch {W W' : World} {S : Nat → Prop} {a : Option Addr} {gs : List FV} (h : GOff W S a gs) (t : Touch S W W') : GOff W' S a gs := fun W'' t' => h W'' (t.trans t')
theorem GOff.below {W W' : World} {S : Nat → Prop} {a : Option Addr} {gs : List FV} (h : GOff W S a gs) (b : Below W.heap.size W W') : GOff W' S a gs := h.touch (Touch.of b)
theorem GOff.mono {W : World} {S S' : Nat → Prop} {a : Option Addr} {gs : List FV} (h : GOff W S a gs) (hs : ∀ k, S' k → S k) : GOff W S' a gs := fun W' t => h W' (t.mono hs)
/-- What cells hold is what the forms are. -/
def Gcs (xs : List Value) (gs : List FV) (n : Nat) : Prop := gs.length = n ∧ ∀ i, i < n → xs[i * 3]? = some (.slice (gs[i]?.getD noFV).a (gs[i]?.getD noFV).n (gs[i]?.getD noFV).cap) ∧ xs[i * 3 + 1]? = some (.slice (gs[i]?.getD noFV).c (gs[i]?.getD noFV).m (gs[i]?.getD noFV).cap') ∧ xs[i * 3 + 2]? = some (.int .i64 (gs[i]?.getD noFV).K)
theorem TermsOk.gcs {W : World} {G : Nat} {xs : List Value} {fs : List Frm} {n : Nat} (h : TermsOk W G xs fs n) : ∀ k, k ≤ n → ∃ gs, Gcs xs gs k ∧ ∀ i, i < k → (gs[i]?.getD noFV).n = 3 ∧ (gs[i]?.getD noFV).m = 2 ∧ (gs[i]?.getD noFV).C = (fs[i]?.getD ([], [], 0)).1 ∧ (gs[i]?.getD noFV).D = (fs[i]?.getD ([], [], 0)).2.1
  | 0, _ => ⟨[], ⟨rfl, fun i hi => by omega⟩, fun i hi => by omega⟩
  | k + 1, hk => by
    obtain ⟨gs, ⟨hl, hg⟩, hf⟩ := h.gcs k (by omega)
    obtain ⟨a', c', ca, cc, e0, e1, e2, i1, i2, n1, n2⟩ := h k (by omega)
    refine ⟨gs ++ [⟨a', 3, ca, c', 2, cc, (fs[k]?.getD ([], [], 0)).2.2, (fs[k]?.getD ([], [], 0)).1, (fs[k]?.getD ([], [], 0)).2.1⟩], ⟨by rw [List.length_append, hl]; rfl, fun i hi => ?_⟩, fun i hi => ?_⟩
    · by_cases h1 : i < k
      · rw [List.getElem?_append_left (by omega)]; exact hg i h1
      · obtain rfl : i = k := by omega
        rw [List.getElem?_append_right (by omega), hl, Nat.sub_self]
        exact ⟨e0, e1, e2⟩
    · by_cases h1 : i < k
      · rw [List.getElem?_append_left (by omega)]; exact hf i h1
      · obtain rfl : i = k := by omega
        rw [List.getElem?_append_right (by omega), hl, Nat.sub_self]
        exact ⟨rfl, rfl, rfl, rfl⟩
/-- Forms whose cells are known, and whose terms are. -/
theorem Gcs.at {W : World} {G : Nat} {xs : List Value} {fs : List Frm} {n : Nat} {gs : List FV} (h : TermsOk W G xs fs n) (hc : Gcs xs gs n) (hf : ∀ i, i < n → (gs[i]?.getD noFV).n = 3 ∧ (gs[i]?.getD noFV).m = 2 ∧ (gs[i]?.getD noFV).C = (fs[i]?.getD ([], [], 0)).1 ∧ (gs[i]?.getD noFV).D = (fs[i]?.getD ([], [], 0)).2.1) : ∀ i, i < n → (gs[i]?.getD noFV).At W := fun i hi => by
  obtain ⟨a', c', ca, cc, e0, e1, e2, i1, i2, n1, n2⟩ := h i hi
  obtain ⟨g0, g1, g2⟩ := hc.2 i hi
  obtain ⟨f0, f1, f2, f3⟩ := hf i hi
  rw [e0] at g0
  rw [e1] at g1
  simp only [Option.some.injEq, Value.slice.injEq] at g0 g1
  refine ⟨?_, ?_, by omega, by omega⟩
  · rw [← g0.1, f0, f2]; exact i1
  · rw [← g1.1, f1, f3]; exact i2
theorem fown_g {W : World} {S : Nat → Prop} {a : Option Addr} {n cap : Nat} {fs : List Frm} (h : FOwn W S (.slice a n cap) n fs) : ∃ gs : List FV, gs.length = n ∧ GOff W S a gs := by
  obtain ⟨xs, h⟩ := h
  obtain ⟨o, G, hG, ht⟩ := h W (Touch.refl _ _)
  obtain ⟨gs, hc, hf⟩ := ht.gcs n (Nat.le_refl _)
  refine ⟨gs, hc.1, fun W' t i hi => ?_⟩
  have hi' : i < n := by rw [← hc.1]; exact hi
  obtain ⟨o', G', hG', ht'⟩ := h W' t
  obtain ⟨g0, g1, g2⟩ := hc.2 i hi'
  have hA := Gcs.at ht' hc hf i hi'
  rcases o'.2 with ⟨_, h0⟩ | ⟨g, cap', cur, e, hg, hh, _⟩
  · omega
  · rw [e] at o'
    simp only [Value.slice.injEq] at e
    obtain ⟨rfl, _, rfl⟩ := e
    refine ⟨g, 0, rfl, ?_, ?_, ?_, hA⟩
    · rw [own_cell o' _ (by omega), Nat.zero_add]; exact g0
    · rw [own_cell o' _ (by omega), Nat.zero_add]; exact g1
    · rw [own_cell o' _ (by omega), Nat.zero_add]; exact g2
/-- Terms read on, whatever becomes of their own row. -/
theorem terms_past {W W' : World} {S : Nat → Prop} {G n : Nat} {xs : List Value} {fs : List Frm} (h : ∀ W', Touch S W W' → TermsOk W' G xs fs n) (hG : G < W.heap.size) (t : Touch (fun k => S k ∨ k = G) W W') : TermsOk W' G xs fs n := by
  obtain ⟨o, ho⟩ : ∃ o, W.heap[G]? = some o := ⟨_, Array.getElem?_eq_getElem hG⟩
  have hG' : G < W'.heap.size := Nat.lt_of_lt_of_le hG t.size
  have t3 : Touch S W (W'.putObj G o) := ⟨t.os, t.tape, t.output, by simpa [World.putObj] using t.size, fun k hk hn => by
    by_cases e : k = G
    · subst e; rw [World.putObj_heap_same hG', ho]
    · rw [World.putObj_heap_other e]; exact t.block k hk (fun h => h.elim hn e)⟩
  have h3 := h _ t3
  intro i hi
  obtain ⟨a', c', ca, cc, e0, e1, e2, i1, i2, n1, n2⟩ := h3 i hi
  have past : ∀ {a : Option Addr} {m : Nat} {zs : List Int}, Ints (W'.putObj G o) a m zs → (∀ b o, a = some ⟨b, o, none⟩ → b ≠ G) → Ints W' a m zs := fun {a m zs} hI hn => ⟨hI.1, fun j hj => by
    obtain ⟨b, off, e, hc⟩ := hI.2 j hj
    refine ⟨b, off, e, ?_⟩
    rw [← hc]
    exact (World.cell?_of_block (World.putObj_heap_other (hn b off e))).symm⟩
  exact ⟨a', c', ca, cc, e0, e1, e2, past i1 n1, past i2 n2, n1, n2⟩
theorem grown_touch {W W' : World} {S : Nat → Prop} {r : Option Nat} (h : W.grownBy W' r) (hs : ∀ g, r = some g → S g) : Touch S W W' := ⟨h.os, h.tape, h.output, h.size, fun k hk hn => h.block k hk (fun e => hn (hs k e.symm))⟩
theorem offG {W W' : World} {S : Nat → Prop} {a : Option Addr} {n : Nat} {zs : List Int} (h : Ints W a n zs) (t : Touch S W W') (hn : ∀ b o, a = some ⟨b, o, none⟩ → ¬ S b) : Ints W' a n zs := h.offC hn t
/-- One form more behind forms that are their own; it may be of any lengths. -/
theorem fown_push {W : World} {S0 T : Nat → Prop} {a : Option Addr} {n cap : Nat} {fs : List Frm} (hF : FOwn W (fun k => S0 k ∨ T k) (.slice a n cap) n fs) (hB : ∀ g, (Value.slice a n cap).ownBlock = some g → ¬ S0 g) :
    ∃ xs, (∀ W1, Touch (S0) W W1 → W1.ownsRow 0 34 3 (.slice a n cap) n xs) ∧ ∀ (W1 W2 : World) (g cp H B1 nC cC B2 nD cD : Nat) (K : Int) (C D : List Int), Touch (S0) W W1 → W1.grownBy W2 (Value.slice a n cap).ownBlock → W2.ownsRow 0 34 3 (.slice (some ⟨g, 0, none⟩) (n + 1) cp) (n + 1) (xs ++ [.slice (some ⟨B1, 0, none⟩) nC cC, .slice (some ⟨B2, 0, none⟩) nD cD, .int .i64 K]) → (Value.slice a n cap).ownBlock = some g ∨ g = H → W1.heap.size = H → ¬ S0 H →
      Ints W1 (some ⟨B1, 0, none⟩) nC C → Ints W1 (some ⟨B2, 0, none⟩) nD D → nC ≤ 4 → nD ≤ 4 → W.heap.size ≤ B1 → B1 < H → W.heap.size ≤ B2 → B2 < H → ¬ S0 B1 → ¬ S0 B2 → ∃ gs : List FV, gs.length = n + 1 ∧ GOff W2 (S0) (some ⟨g, 0, none⟩) gs := by
  obtain ⟨xs, h⟩ := hF
  refine ⟨xs, fun W1 t => (h W1 (t.mono (fun k hk => Or.inl hk))).1, ?_⟩
  intro W1 W2 g cp H B1 nC cC B2 nD cD K C D t1 hgrow hown hat hH hBH i1 i2 hnC hnD p1 q1 p2 q2 hS1 hS2
  obtain ⟨o, G, hG, ht⟩ := h W (Touch.refl _ _)
  obtain ⟨gs, hc, hf⟩ := ht.gcs n (Nat.le_refl _)
  have hlen : xs.length = n * 3 := by have := o.1; omega
  have hgl : gs.length = n := hc.1
  have hgB : ¬ S0 g := by
    rcases hat with e | e
    · exact hB _ e
    · rw [e]; exact hBH
  have hlt : ∀ x, (Value.slice a n cap).ownBlock = some x → x < W.heap.size := fun x hx => by
    rcases o.2 with ⟨e, _⟩ | ⟨g', cap', cur, e, _, hh, _⟩
    · rw [e] at hx; cases hx
    · rw [e] at hx
      have : some g' = some x := hx
      simp only [Option.some.injEq] at this
      subst this
      exact lt_of_block hh
  refine ⟨gs ++ [⟨some ⟨B1, 0, none⟩, nC, cC, some ⟨B2, 0, none⟩, nD, cD, K, C, D⟩], by rw [List.length_append, hgl]; rfl, fun W3 t3 i hi => ?_⟩
  rw [List.length_append, hgl, List.length_singleton] at hi
  have o3 := own_off hown (fun z hz hs => by
    have : some g = some z := hz
    simp only [Option.some.injEq] at this
    rw [← this] at hs
    exact hgB hs) t3
  have T2 : Touch (fun k => S0 k ∨ (Value.slice a n cap).ownBlock = some k) W1 W3 := (grown_touch hgrow (fun z hz => Or.inr hz)).trans (t3.mono (fun k hk => Or.inl hk))
  by_cases hin : i < n
  · have TT : Touch (fun k => S0 k ∨ (Value.slice a n cap).ownBlock = some k) W W3 := (t1.mono (fun k hk => Or.inl hk)).trans T2
    rcases hG with hG | ⟨_, h0⟩
    · have t4 : TermsOk W3 G xs fs n := terms_past (S := S0) (fun W' t => by
        obtain ⟨_, G', hG', ht'⟩ := h W' (t.mono (fun k hk => Or.inl hk))
        rcases hG' with e | ⟨e, _⟩
        · rw [hG] at e; simp only [Option.some.injEq] at e; rw [e]; exact ht'
        · rw [hG] at e; cases e) (hlt G hG) (TT.mono (fun k hk => by
          rcases hk with hk | hk
          · exact Or.inl hk
          · exact Or.inr (by rw [hG] at hk; simp only [Option.some.injEq] at hk; exact hk.symm)))
      have hA := Gcs.at t4 hc hf i hin
      obtain ⟨g0, g1, g2⟩ := hc.2 i hin
      rw [List.getElem?_append_left (by omega)]
      refine ⟨g, 0, rfl, ?_, ?_, ?_, hA⟩
      · rw [own_cell o3 _ (by omega), Nat.zero_add, List.getElem?_append_left (by omega)]; exact g0
      · rw [own_cell o3 _ (by omega), Nat.zero_add, List.getElem?_append_left (by omega)]; exact g1
      · rw [own_cell o3 _ (by omega), Nat.zero_add, List.getElem?_append_left (by omega)]; exact g2
    · omega
  · obtain rfl : i = n := by omega
    rw [List.getElem?_append_right (by omega), hgl, Nat.sub_self]
    refine ⟨g, 0, rfl, ?_, ?_, ?_, ⟨offG i1 T2 (fun b o e hs => ?_), offG i2 T2 (fun b o e hs => ?_), show nC ≤ 1048576 by omega, show nD ≤ 1048576 by omega⟩⟩
    · rw [own_cell o3 _ (by omega), Nat.zero_add, List.getElem?_append_right (by omega), hlen, Nat.sub_self]; rfl
    · rw [own_cell o3 _ (by omega), Nat.zero_add, List.getElem?_append_right (by omega), hlen, Nat.add_sub_cancel_left]; rfl
    · rw [own_cell o3 _ (by omega), Nat.zero_add, List.getElem?_append_right (by omega), hlen, Nat.add_sub_cancel_left]; rfl
    · have e' : (some ⟨B1, 0, none⟩ : Option Addr) = some ⟨b, o, none⟩ := e
      simp only [Option.some.injEq, Addr.mk.injEq] at e'
      rcases hs with hs | hs
      · exact hS1 (e'.1 ▸ hs)
      · have := hlt _ hs; omega
    · have e' : (some ⟨B2, 0, none⟩ : Option Addr) = some ⟨b, o, none⟩ := e
      simp only [Option.some.injEq, Addr.mk.injEq] at e'
      rcases hs with hs | hs
      · exact hS2 (e'.1 ▸ hs)
      · have := hlt _ hs; omega
theorem fown_lo {W : World} {S : Nat → Prop} {v : Value} {n : Nat} {fs : List Frm} (h : FOwn W S v n fs) {g : Nat} (hg : v.ownBlock = some g) : ¬ S g := fun hs => by
  obtain ⟨xs, h⟩ := h
  obtain ⟨o, _⟩ := h W (Touch.refl _ _)
  have hl : g < W.heap.size := by
    rcases o.2 with ⟨e, _⟩ | ⟨g', cap', cur, e, _, hh, _⟩
    · rw [e] at hg; cases hg
    · rw [e] at hg
      have : some g' = some g := hg
      simp only [Option.some.injEq] at this
      subst this
      exact lt_of_block hh
  have t : Touch S W (W.putObj g (.deferred Option.none)) := ⟨rfl, rfl, rfl, by simp [World.putObj], fun k hk hn => by
    by_cases e : k = g
    · subst e; exact absurd hs hn
    · exact World.putObj_heap_other e⟩
  obtain ⟨o', _⟩ := h _ t
  rcases o'.2 with ⟨e, _⟩ | ⟨g', cap', cur, e, _, hh, _⟩
  · rw [e] at hg; cases hg
  · rw [e] at hg
    have : some g' = some g := hg
    simp only [Option.some.injEq] at this
    subst this
    rw [World.putObj_heap_same hl] at hh
    cases hh
theorem ownB_in {a : Option Addr} {n c k : Nat} (h : (Value.slice a n c).ownBlock = some k) : InB a k := by
  cases a with
  | none => cases h
  | some x =>
    obtain ⟨b, o, s⟩ := x
    have : some b = some k := h
    simp only [Option.some.injEq] at this
    subst this
    exact ⟨o, s, rfl⟩
theorem JR.row {w W : World} {G cap : Nat} {xs : List Value} {rs : List RowM} (h : JR w G cap xs rs W) {j : Nat} (hj : j < rs.length) : ∃ ga gc aa ac ta tc, W.cell? ⟨G, j * 4, none⟩ = some (.slice ga (rs[j]?.getD noR).guards.length gc) ∧ W.cell? ⟨G, j * 4 + 1, none⟩ = some (.slice aa (rs[j]?.getD noR).adds.length ac) ∧ W.cell? ⟨G, j * 4 + 2, none⟩ = some (.slice ta (rs[j]?.getD noR).tells.length tc) ∧ W.cell? ⟨G, j * 4 + 3, none⟩ = some (.bool (rs[j]?.getD noR).stop) ∧ RowOwn W (fun k => k < w.heap.size) ga gc aa ac ta tc (rs[j]?.getD noR) := by
  obtain ⟨ga, gc, aa, ac, ta, tc, e0, e1, e2, e3, f0, f1, f2⟩ := h.u j hj
  have c : ∀ k, k < 4 → W.cell? ⟨G, j * 4 + k, none⟩ = xs[j * 4 + k]? := fun k hk => by
    have := own_cell h.o (j * 4 + k) (by omega)
    exact this
  have m : ∀ {T : Nat → Prop} k, (k < w.heap.size ∨ T k) → ((k < w.heap.size ∨ k = G) ∨ T k) := fun k hk => by
    rcases hk with hk | hk
    · exact Or.inl (Or.inl hk)
    · exact Or.inr hk
  exact ⟨ga, gc, aa, ac, ta, tc, (c 0 (by omega)).trans e0, (c 1 (by omega)).trans e1, (c 2 (by omega)).trans e2, (c 3 (by omega)).trans e3, f0.mono m, f1.mono m, f2.mono m⟩
/-- A row was drawn. -/
structure RwN (w w' : World) (R : Nat) (a : Option Addr) (n cap : Nat) (bs : List Int) (p q : Int) (ga : Option Addr) (G : Nat) (gs : List FV) (aa : Option Addr) (A : Nat) (ls : List FV) (ta : Option Addr) (T : Nat) (ts : List FV) : Prop where
  t : Touch (fun x => x = R) w w'
  r : Rd w' R a n cap bs q
  g : GOff w' (fun k => k < w.heap.size) ga gs
  l : GOff w' (fun k => k < w.heap.size) aa ls
  s : GOff w' (fun k => k < w.heap.size) ta ts
  hg : gs.length = G
  hl : ls.length = A
  hs : ts.length = T
  zg : G ≤ 2000
  zl : A ≤ 2000
  zs : T ≤ 2000
  q0 : p ≤ q
  q1 : q ≤ p + 140
theorem RwN.at {w w' W : World} {R : Nat} {a : Option Addr} {n cap : Nat} {bs : List Int} {p q : Int} {ga : Option Addr} {G : Nat} {gs : List FV} {aa : Option Addr} {A : Nat} {ls : List FV} {ta : Option Addr} {T : Nat} {ts : List FV} (h : RwN w w' R a n cap bs p q ga G gs aa A ls ta T ts) (t : Touch (fun k => k < w.heap.size) w' W) : RowAt W ga G gs aa A ls ta T ts :=
  have h1 := h.zg
  have h2 := h.zl
  have h3 := h.zs
  ⟨h.g W t, h.l W t, h.s W t, h.hg, h.hl, h.hs, by omega, by omega, by omega⟩
theorem RwN.fin {w W : World} {R : Nat} {a : Option Addr} {n cap : Nat} {bs : List Int} {p q : Int} {ga : Option Addr} {G : Nat} {gs : List FV} {aa : Option Addr} {A : Nat} {ls : List FV} {ta : Option Addr} {T : Nat} {ts : List FV} (t : Touch (fun x => x = R) w W) (r : Rd W R a n cap bs q)
    (g : GOff W (fun k => k < w.heap.size + 1) ga gs) (l : GOff W (fun k => k < w.heap.size + 1) aa ls) (s : GOff W (fun k => k < w.heap.size + 1) ta ts) (hg : gs.length = G) (hl : ls.length = A) (hs : ts.length = T) (zg : G ≤ 2000) (zl : A ≤ 2000) (zs : T ≤ 2000) (q0 : p ≤ q) (q1 : q ≤ p + 140)
    (hR : R < w.heap.size) (ha : 0 < n → ∀ b o, a = some ⟨b, o, none⟩ → b < w.heap.size) (v0 v1 v2 v3 : Value) : RwN w ((((W.setCell ⟨w.heap.size, 0, none⟩ v0).setCell ⟨w.heap.size, 1, none⟩ v1).setCell ⟨w.heap.size, 2, none⟩ v2).setCell ⟨w.heap.size, 3, none⟩ v3) R a n cap bs p q ga G gs aa A ls ta T ts := by
  have f : 0 < n → ∀ b o, a = some ⟨b, o, none⟩ → b ≠ w.heap.size := fun h0 b o e => by have := ha h0 b o e; omega
  have T4 : Touch (fun k => k < w.heap.size + 1) W ((((W.setCell ⟨w.heap.size, 0, none⟩ v0).setCell ⟨w.heap.size, 1, none⟩ v1).setCell ⟨w.heap.size, 2, none⟩ v2).setCell ⟨w.heap.size, 3, none⟩ v3) :=
    Touch.setCell (Touch.setCell (Touch.setCell (Touch.setCell (S := fun k => k < w.heap.size + 1) (Touch.refl _ _) (Nat.lt_succ_self _) _) (Nat.lt_succ_self _) _) (Nat.lt_succ_self _) _) (Nat.lt_succ_self _) _
  have m : ∀ k, k < w.heap.size → k < w.heap.size + 1 := fun k h => by omega
  exact ⟨(((t.setNewF (Nat.le_refl _) 0 v0).setNewF (Nat.le_refl _) 1 v1).setNewF (Nat.le_refl _) 2 v2).setNewF (Nat.le_refl _) 3 v3, (((r.setNew (by omega) f 0 v0).setNew (by omega) f 1 v1).setNew (by omega) f 2 v2).setNew (by omega) f 3 v3, (g.touch T4).mono m, (l.touch T4).mono m, (s.touch T4).mono m, hg, hl, hs, zg, zl, zs, q0, q1⟩

set_option maxHeartbeats 12800000 in
theorem row_f (R : Nat) (a : Option Addr) (n cap : Nat) (bs : List Int) (p M : Int) (w : World) (hR : Rd w R a n cap bs p) (hp : 0 ≤ p) (hp1 : p ≤ 4000000) (hM : 1 ≤ M) (hM1 : M ≤ 1000) (ha : 0 < n → ∀ b o, a = some ⟨b, o, none⟩ → b < w.heap.size) :
    Calls Try.prog 29 #[.pointer (some ⟨R, 0, none⟩), .int .i64 M] w fun e w' => ∃ ga G gc gs aa A ac ls ta T tc ts st q, e = .returned (rowV ga G gc aa A ac ta T tc st) ∧ RwN w w' R a n cap bs p q ga G gs aa A ls ta T ts := by
  have hRl := hR.c.lt
  have B0 := (Below.refl w.heap.size w).alloc (Nat.le_refl _) (.cells #[.slice none 0 0, .slice none 0 0, .slice none 0 0, .bool false] 25)
  have rb := Cel.new w [.slice none 0 0, .slice none 0 0, .slice none 0 0, .bool false] 25
  obtain ⟨i0, hi, hz0, hz1, hz2⟩ := info_parts Try.infoForm
  go_enter Try.func29, Try.ntmps29
  go_wp2_with fail
  refine (act_f R a n cap bs p _ (hR.below B0) hp (by omega) (fun h0 b o e => by have := ha h0 b o e; rw [World.size_alloc]; omega)).mono ?_
  rintro e w1 ⟨ad, N, c, ls0, q1, rfl, jl, hN, hok, hq0, hq1⟩
  have TT := (Touch.of (S := fun x => x = R) B0).trans jl.t
  have rd := jl.r
  replace rb := rb.touch jl.t (by omega)
  have s1 := jl.t.size
  rw [World.size_alloc] at s1
  have hF := jl.g hN
  have hN8 : N ≤ 6 := (actB_parts hok).1
  have hfit := rowsL_fit (by omega) (actB_parts hok).2 hF
  obtain ⟨hr1, hr2, hr3, -⟩ := rowsL_few hN hok
  have h8 : 2 ^ tests ls0 ≤ 8 := Nat.le_trans (Nat.pow_le_pow_right (by omega) hr3) (by decide)
  go_wp2_with fail
  refine (srows_any ad N c ls0 _ hN hF (by omega)).mono ?_
  rintro e w2 ⟨G0, cp, xs, rfl, J⟩
  rw [rowsB, hok] at J ⊢
  simp only [if_true] at J ⊢
  replace TT := TT.trans (Touch.of J.b)
  replace rd := rd.below J.b
  replace rb := rb.below J.b
  have s2 := J.b.size
  obtain ⟨rs, hrs⟩ : ∃ rs, rs = rowsL ls0 := ⟨_, rfl⟩
  rw [← hrs] at J hfit hr1 hr2 ⊢
  obtain ⟨L, hL⟩ : ∃ L, L = rs.length := ⟨_, rfl⟩
  rw [← hL] at hr1 hr2 ⊢
  have HL : Hid (rs.length = L) := hL.symm
  clear jl hF B0 hR hok hN hrs hL
  go_wp2_with fail
  refine (pick_any R a n cap bs q1 (L : Int) _ rd (by omega) (by omega) (by omega) (by omega)).mono ?_
  rintro e w3 ⟨rj, hj0, hj1, rfl, t3, R3⟩
  obtain ⟨j, rfl⟩ := Int.eq_ofNat_of_zero_le hj0
  have hj : j < rs.length := by rw [HL.out]; omega
  obtain ⟨ga, gc, aa, ac, ta, tc, p0, p1, p2, p3, fo⟩ := J.row hj
  have hGl := J.lt
  have nR : G0 ≠ R := by omega
  have hnr := hfit _ (by rw [List.getElem?_eq_getElem hj]; exact List.getElem_mem _ : rs[j]?.getD noR ∈ rs)
  have k0 := (World.cell?_of_block (a := ⟨G0, j * 4, none⟩) (t3.block G0 hGl.2 nR)).trans p0
  have k1 := (World.cell?_of_block (a := ⟨G0, j * 4 + 1, none⟩) (t3.block G0 hGl.2 nR)).trans p1
  have k2 := (World.cell?_of_block (a := ⟨G0, j * 4 + 2, none⟩) (t3.block G0 hGl.2 nR)).trans p2
  have k3 := (World.cell?_of_block (a := ⟨G0, j * 4 + 3, none⟩) (t3.block G0 hGl.2 nR)).trans p3
  have fO : RowOwn w3 (fun k => k < w1.heap.size) ga gc aa ac ta tc (rs[j]?.getD noR) := ⟨fo.1.touch (t3.mono (fun k hk => Or.inl (by omega))), fo.2.1.touch (t3.mono (fun k hk => Or.inl (by omega))), fo.2.2.touch (t3.mono (fun k hk => Or.inl (by omega)))⟩
  have s3 := t3.size
  replace TT := TT.trans t3
  replace rb := rb.touch t3 (by omega)
  clear p0 p1 p2 p3 fo J hfit rd t3 hj0
  clear HL
  generalize rs[j]?.getD noR = r at *
  obtain ⟨rg, ra, rt, st⟩ := r
  dsimp only at k0 k1 k2 k3 hnr
  have zg : rg.length ≤ 1000 := hnr.lg
  have za : ra.length ≤ 3 := hnr.la
  have zt : rt.length ≤ 1000 := hnr.lt
  obtain ⟨o0, o1, o2⟩ := fO
  dsimp only at o0 o1 o2
  generalize rg.length = NG at *
  generalize ra.length = NA at *
  generalize rt.length = NT at *
  go_upto_region 3 with fail
  have al := (Below.refl w3.heap.size w3).alloc (Nat.le_refl _) (.cells #[.slice ga NG gc, .slice aa NA ac, .slice ta NT tc, .bool st] 25)
  have xb := Cel.new w3 [.slice ga NG gc, .slice aa NA ac, .slice ta NT tc, .bool st] 25
  replace rd := R3.below al
  replace rb := rb.below al
  replace TT := TT.trans (Touch.of al)
  replace o0 := o0.above.below al
  replace o1 := o1.above.below al
  replace o2 := o2.above.below al
  obtain ⟨X, hX⟩ : ∃ x, x = w3.heap.size := ⟨_, rfl⟩
  have s4 := al.size
  obtain ⟨W4, hW4⟩ : ∃ W, W = w3.alloc (.cells #[.slice ga NG gc, .slice aa NA ac, .slice ta NT tc, .bool st] 25) := ⟨_, rfl⟩
  rw [← hX, ← hW4]
  rw [← hX] at xb s3
  rw [← hW4] at al xb rd rb TT o0 o1 o2 s4
  clear al R3 k0 k1 k2 k3 hW4
  have xR : X ≠ R := by omega
  have xw : w.heap.size < X := by omega
  have xX : w3.heap.size ≤ X := by omega
  have xX2 : X ≤ w3.heap.size := by omega
  clear hX
  go_wp2_with fail
  refine (pick_any R a n cap bs (q1 + 1) M _ rd (by omega) (by omega) (by omega) (by omega)).mono ?_
  rintro e w5 ⟨u, u0, u1, rfl, t5, R5⟩
  replace TT := TT.trans t5
  replace rd := R5
  replace rb := rb.touch t5 (by omega)
  replace xb := xb.touch t5 xR
  replace o0 := o0.touch (t5.mono (fun k hk => Or.inl (Or.inl (by omega))))
  replace o1 := o1.touch (t5.mono (fun k hk => Or.inl (Or.inl (by omega))))
  replace o2 := o2.touch (t5.mono (fun k hk => Or.inl (Or.inl (by omega))))
  have s5 := t5.size
  clear t5 R5
  by_cases hu : 0 < u
  · obtain ⟨gs, hgL, hgO⟩ := fown_g o0
    replace hgO := hgO.mono (S' := fun k => k < w.heap.size + 1) (fun k hk => Or.inl (Or.inl (by omega)))
    obtain ⟨ls, hlL, hlO⟩ := fown_g o1
    replace hlO := hlO.mono (S' := fun k => k < w.heap.size + 1) (fun k hk => Or.inl (Or.inl (by omega)))
    obtain ⟨ts, hsL, hsO⟩ := fown_g o2
    replace hsO := hsO.mono (S' := fun k => k < w.heap.size + 1) (fun k hk => Or.inl (Or.inl (by omega)))
    have g0 := xb.cell 0
    have g1 := xb.cell 1
    have g2 := xb.cell 2
    have g3 := xb.cell 3
    have h0 := rb.cell 0
    have h1 := rb.cell 1
    have h2 := rb.cell 2
    have h3 := rb.cell 3
    simp only [List.getElem?_cons_zero, List.getElem?_cons_succ] at g0 g1 g2 g3 h0 h1 h2 h3
    have f0 := rb.free 0
    have f1 := rb.free 1
    have f2 := rb.free 2
    have f3 := rb.free 3
    have lr := rb.lt
    have hZ := fun v0 v1 v2 v3 => RwN.fin (p := p) TT rd hgO hlO hsO hgL hlL hsL (by omega) (by omega) (by omega) (by omega) (by omega) hRl ha v0 v1 v2 v3
    clear TT rd hgO hlO hsO
    go_wp2
    have u := ((((rb.set 0 (.slice ga NG gc)).set 1 (.slice aa NA ac)).set 2 (.slice ta NT tc)).set 3 (.bool st))
    obtain ⟨u0, u1, u2, u3⟩ := u.quad
    exact bodyPost_ret (v := rowV ga NG gc aa NA ac ta NT tc st) (by simp [results, Try.results29, go_sem, u0, u1, u2, u3]) rfl ⟨_, _, _, gs, _, _, _, ls, _, _, _, ts, _, _, rfl, hZ _ _ _ _⟩
  · obtain rfl : u = 0 := by omega
    clear hu u0 u1
    go_wp2_with fail
    refine (pick_any R a n cap bs (q1 + 1 + 1) 4 _ rd (by omega) (by omega) (by omega) (by omega)).mono ?_
    rintro e w6 ⟨s, z0, z1, rfl, t5, R5⟩
    replace TT := TT.trans t5
    replace rd := R5
    replace rb := rb.touch t5 (by omega)
    replace xb := xb.touch t5 xR
    replace o0 := o0.touch (t5.mono (fun k hk => Or.inl (Or.inl (by omega))))
    replace o1 := o1.touch (t5.mono (fun k hk => Or.inl (Or.inl (by omega))))
    replace o2 := o2.touch (t5.mono (fun k hk => Or.inl (Or.inl (by omega))))
    have s6 := t5.size
    clear t5 R5
    rcases (show s = 0 ∨ s = 1 ∨ s = 2 ∨ s = 3 from by omega) with rfl | rfl | rfl | rfl
    · have g3 := xb.cell 3
      have f3 := xb.free 3
      have lx := xb.lt
      simp only [List.getElem?_cons_zero, List.getElem?_cons_succ] at g3
      go_upto_region 13 with fail
      clear g3 f3
      have T7 : Touch (fun k => k = X) w6 (w6.setCell ⟨X, 3, none⟩ (.bool (!st))) := Touch.setCell (S := fun k => k = X) (Touch.refl _ _) rfl _
      replace TT := TT.setNewF (B := X) (by omega) 3 (.bool (!st))
      replace rd := rd.setNew (B := X) (by omega) (fun h0 b o e => by have := ha h0 b o e; omega) 3 (.bool (!st))
      replace rb := rb.setOther (B' := X) (by omega) 3 (.bool (!st))
      replace xb := xb.set 3 (.bool (!st))
      replace o0 := o0.touch (T7.mono (fun k hk => Or.inr (by omega)))
      replace o1 := o1.touch (T7.mono (fun k hk => Or.inr (by omega)))
      replace o2 := o2.touch (T7.mono (fun k hk => Or.inr (by omega)))
      clear T7
      simp only [List.set_cons_succ, List.set_cons_zero] at xb
      obtain ⟨gs, hgL, hgO⟩ := fown_g o0
      replace hgO := hgO.mono (S' := fun k => k < w.heap.size + 1) (fun k hk => Or.inl (Or.inl (by omega)))
      obtain ⟨ls, hlL, hlO⟩ := fown_g o1
      replace hlO := hlO.mono (S' := fun k => k < w.heap.size + 1) (fun k hk => Or.inl (Or.inl (by omega)))
      obtain ⟨ts, hsL, hsO⟩ := fown_g o2
      replace hsO := hsO.mono (S' := fun k => k < w.heap.size + 1) (fun k hk => Or.inl (Or.inl (by omega)))
      have g0 := xb.cell 0
      have g1 := xb.cell 1
      have g2 := xb.cell 2
      have g3 := xb.cell 3
      have h0 := rb.cell 0
      have h1 := rb.cell 1
      have h2 := rb.cell 2
      have h3 := rb.cell 3
      simp only [List.getElem?_cons_zero, List.getElem?_cons_succ] at g0 g1 g2 g3 h0 h1 h2 h3
      have f0 := rb.free 0
      have f1 := rb.free 1
      have f2 := rb.free 2
      have f3 := rb.free 3
      have lr := rb.lt
      have hZ := fun v0 v1 v2 v3 => RwN.fin (p := p) TT rd hgO hlO hsO hgL hlL hsL (by omega) (by omega) (by omega) (by omega) (by omega) hRl ha v0 v1 v2 v3
      clear TT rd hgO hlO hsO
      go_wp2
      have u := ((((rb.set 0 (.slice ga NG gc)).set 1 (.slice aa NA ac)).set 2 (.slice ta NT tc)).set 3 (.bool (!st)))
      obtain ⟨u0, u1, u2, u3⟩ := u.quad
      exact bodyPost_ret (v := rowV ga NG gc aa NA ac ta NT tc (!st)) (by simp [results, Try.results29, go_sem, u0, u1, u2, u3]) rfl ⟨_, _, _, gs, _, _, _, ls, _, _, _, ts, _, _, rfl, hZ _ _ _ _⟩
    · have hlow : ∀ k, (Value.slice aa NA ac).ownBlock = some k → w1.heap.size ≤ k ∧ k < w3.heap.size := fun k hk => by
        have h := fown_lo o1 hk
        constructor
        · exact Nat.le_of_not_lt (fun h2 => h (Or.inl (Or.inl h2)))
        · exact Nat.lt_of_not_le (fun h2 => h (Or.inr h2))
      obtain ⟨ys, hys, hpush⟩ := fown_push (S0 := fun k => k < w.heap.size + 1 ∨ k = X) (T := fun k => InB none k) (o1.mono (fun k hk => by
        rcases hk with (hk | hk) | ⟨_, _, hk⟩
        · exact Or.inl (Or.inl (by omega))
        · exact Or.inr (by omega)
        · cases hk)) (fun g hg hs => by
        have h := hlow g hg
        rcases hs with hs | hs <;> omega)
      have hown0 := hys w6 (Touch.refl _ _)
      have lX6 : X < w6.heap.size := xb.lt
      have gx : w6.cell? ⟨X, 1, none⟩ = some (.slice aa NA ac) := xb.cell 1
      go_upto_region 10 with fail
      refine wp_region_ends (fun _ => True) (fun Y => Y.cell? ⟨X, 1, none⟩ = some (.slice aa NA ac)) 6 (by kernel_rfl) ?_
      have dr : Below w6.heap.size w6 w6.drew := (Below.refl _ _).drew
      obtain ⟨V0, hV0⟩ : ∃ V, V = w6.drew := ⟨_, rfl⟩
      rw [← hV0] at dr ⊢
      clear hV0
      have Td : Touch (fun k => k < w.heap.size + 1 ∨ k = X) w6 V0 := Touch.of dr
      replace TT := TT.trans (Touch.of dr)
      replace rd := rd.below dr
      replace rb := rb.below dr
      replace xb := xb.below dr
      replace o0 := o0.below dr
      replace o1 := o1.below dr
      replace o2 := o2.below dr
      have sd := dr.size
      clear dr gx hown0
      have hSS : (fun _ : World => True) V0 ∧ (fun Y : World => Y.cell? ⟨X, 1, none⟩ = some (.slice aa NA ac)) V0 := ⟨trivial, xb.cell 1⟩
      refine tkL (i := 0) rfl hSS ?_
      refine tkM (i := 1) rfl rfl hSS ?_
      refine tkL (i := 2) rfl hSS ?_
      simp only [Act.put, List.setIfInBounds_toArray, List.set_cons_succ, List.set_cons_zero, List.getElem_toArray, List.getElem_cons_succ, List.getElem_cons_zero]
      refine wpAnyE_one (i := 3) (by kernel_rfl) rfl (fun Kn hK => ?_)
      go_simp
      refine (form_f R a n cap bs (q1 + 1 + 1 + 1) 2 _ rd (by omega) (by omega) (by omega) (by omega) rd.ha).mono ?_
      rintro ee w7 ⟨B1, nC, cC, B2, nD, cD, K, C, D, q6, rfl, fm⟩
      have t7 := fm.t
      have b1 := fm.b1
      have b2 := fm.b2
      have c4 := fm.c4
      have d4 := fm.d4
      have qa := fm.q0
      have qb := fm.q1
      have iC := fm.c
      have iD := fm.d
      have lC := iC.blk fm.c1
      have lD := iD.blk fm.d1
      have T7 := Td.trans (t7.mono (fun k hk => Or.inl (by omega)))
      replace TT := TT.trans t7
      replace rd := fm.r
      replace rb := rb.touch t7 (by omega)
      replace xb := xb.touch t7 xR
      replace o0 := o0.touch (t7.mono (fun k hk => Or.inl (Or.inl (by omega))))
      replace o1 := o1.touch (t7.mono (fun k hk => Or.inl (Or.inl (by omega))))
      replace o2 := o2.touch (t7.mono (fun k hk => Or.inl (Or.inl (by omega))))
      have s7 := t7.size
      clear fm t7 hSS Td
      (try dsimp only)
      refine hK.out _ _ ⟨trivial, fun _ => xb.cell 1⟩ ?_
      clear hK Kn
      refine wpAnyE_one (i := 4) (by kernel_rfl) rfl (fun Kn hK => ?_)
      go_simp
      have al := (Below.refl w7.heap.size w7).alloc (Nat.le_refl _) (.cells #[.slice (some ⟨B1, 0, none⟩) nC cC, .slice (some ⟨B2, 0, none⟩) nD cD, .int .i64 K] 34)
      have hnew := heap_alloc_new w7 (.cells #[.slice (some ⟨B1, 0, none⟩) nC cC, .slice (some ⟨B2, 0, none⟩) nD cD, .int .i64 K] 34)
      obtain ⟨w8, hw8⟩ : ∃ W, W = w7.alloc (.cells #[.slice (some ⟨B1, 0, none⟩) nC cC, .slice (some ⟨B2, 0, none⟩) nD cD, .int .i64 K] 34) := ⟨_, rfl⟩
      have s8 : w8.heap.size ≤ w7.heap.size + 1 := by rw [hw8, World.size_alloc]; omega
      have s8b : w7.heap.size < w8.heap.size := by rw [hw8, World.size_alloc]; omega
      rw [← hw8] at al hnew ⊢
      clear hw8
      replace T7 := T7.trans (Touch.of al)
      replace TT := TT.trans (Touch.of al)
      replace rd := rd.below al
      replace rb := rb.below al
      replace xb := xb.below al
      replace o0 := o0.below al
      replace o1 := o1.below al
      replace o2 := o2.below al
      replace iC := iC.below al
      replace iD := iD.below al
      clear al
      refine hK.out _ _ ⟨trivial, fun _ => xb.cell 1⟩ ?_
      clear hK Kn
      have hown := hys w8 T7
      refine wpAnyE_one (i := 5) (by kernel_rfl) rfl (fun Kn hK => ?_)
      rw [if_pos (by rfl)]
      refine wp_append_lies _ (.tmp 40) (.tmp 43) 23 rfl 0 34 i0 _ 3 56 Try.underlying23 hi hz0 hz1 hz2 rfl (by omega) (.slice aa NA ac) NA ys (by rfl) hown ⟨w7.heap.size, 0, none⟩ 1 1 [Value.slice (some ⟨B1, 0, none⟩) nC cC, Value.slice (some ⟨B2, 0, none⟩) nD cD, Value.int .i64 K] (by rfl) (by rfl) (World.news_of_block (cs := #[Value.slice (some ⟨B1, 0, none⟩) nC cC, Value.slice (some ⟨B2, 0, none⟩) nD cD, Value.int .i64 K]) (t := 34) (fr := (0, 0)) hnew) (by simp [Value.oneCell']) (by omega) (by unfold maxLen; omega) (by omega) (Nat.zero_le _) w8.heap.size rfl ?_
      intro g cp9 w9 hown9 hgrow hat hlt9
      have hO := hpush w8 w9 g cp9 w8.heap.size B1 nC cC B2 nD cD K C D T7 hgrow hown9 hat rfl (by omega) iC iD c4 d4 (by omega) (by omega) (by omega) (by omega) (by omega) (by omega)
      have tg : Touch (fun k => (Value.slice aa NA ac).ownBlock = some k) w8 w9 := grown_touch hgrow (fun z hz => hz)
      replace TT := TT.grown hgrow (fun z hz => by have := hlow z hz; omega)
      replace rd := rd.touch tg (fun h => by have := hlow _ h; omega) (fun h0 b o e h => by have := hlow _ h; have := ha h0 b o e; omega)
      replace rb := rb.grew hgrow (fun h => by have := hlow _ h; omega)
      replace xb := xb.grew hgrow (fun h => by have := hlow _ h; omega)
      replace o0 := o0.touch (tg.mono (fun k hk => Or.inl (Or.inr (Or.inl (ownB_in hk)))))
      replace o2 := o2.touch (tg.mono (fun k hk => Or.inl (Or.inr (Or.inr (ownB_in hk)))))
      obtain ⟨us, hul, huO⟩ := hO
      have s9 := hgrow.size
      clear tg hgrow hown9 hat hlt9 hown hpush hys iC iD T7 hnew
      refine hK.out _ _ ⟨trivial, fun _ => xb.cell 1⟩ ?_
      clear hK Kn
      refine wpAnyE_one (i := 6) (by kernel_rfl) rfl (fun Kn hK => ?_)
      go_simp
      refine hK.out _ _ ⟨trivial, fun h => absurd h (by decide)⟩ ?_
      clear hK Kn
      have gx := xb.cell 1
      have fx := xb.free 1
      simp only [List.getElem?_cons_zero, List.getElem?_cons_succ] at gx
      refine wpAnyE_one (i := 7) (by kernel_rfl) rfl (fun Kn hK => ?_)
      go_simp
      have T7 : Touch (fun k => k = X) w9 (w9.setCell ⟨X, 1, none⟩ (.slice (some ⟨g, 0, none⟩) (NA + 1) cp9)) := Touch.setCell (S := fun k => k = X) (Touch.refl _ _) rfl _
      replace TT := TT.setNewF (B := X) (by omega) 1 (.slice (some ⟨g, 0, none⟩) (NA + 1) cp9)
      replace rd := rd.setNew (B := X) (by omega) (fun h0 b o e => by have := ha h0 b o e; omega) 1 (.slice (some ⟨g, 0, none⟩) (NA + 1) cp9)
      replace rb := rb.setOther (B' := X) (by omega) 1 (.slice (some ⟨g, 0, none⟩) (NA + 1) cp9)
      replace xb := xb.set 1 (.slice (some ⟨g, 0, none⟩) (NA + 1) cp9)
      replace huO := huO.touch (T7.mono (fun k hk => Or.inr hk))
      replace o0 := o0.touch (T7.mono (fun k hk => Or.inr (by omega)))
      replace o2 := o2.touch (T7.mono (fun k hk => Or.inr (by omega)))
      clear T7 gx fx
      simp only [List.set_cons_succ, List.set_cons_zero] at xb
      refine hK.out _ _ ⟨trivial, fun h => absurd h (by decide)⟩ ?_
      clear hK Kn
      refine wpAnyE_done (by kernel_rfl) ?_ _
      replace huO := huO.mono (S' := fun k => k < w.heap.size + 1) (fun k hk => Or.inl hk)
      clear hlow o1
      obtain ⟨gs, hgL, hgO⟩ := fown_g o0
      replace hgO := hgO.mono (S' := fun k => k < w.heap.size + 1) (fun k hk => Or.inl (Or.inl (by omega)))
      obtain ⟨ts, hsL, hsO⟩ := fown_g o2
      replace hsO := hsO.mono (S' := fun k => k < w.heap.size + 1) (fun k hk => Or.inl (Or.inl (by omega)))
      have hlL := hul
      have hlO := huO
      clear hul huO
      have g0 := xb.cell 0
      have g1 := xb.cell 1
      have g2 := xb.cell 2
      have g3 := xb.cell 3
      have h0 := rb.cell 0
      have h1 := rb.cell 1
      have h2 := rb.cell 2
      have h3 := rb.cell 3
      simp only [List.getElem?_cons_zero, List.getElem?_cons_succ] at g0 g1 g2 g3 h0 h1 h2 h3
      have f0 := rb.free 0
      have f1 := rb.free 1
      have f2 := rb.free 2
      have f3 := rb.free 3
      have lr := rb.lt
      have hZ := fun v0 v1 v2 v3 => RwN.fin (p := p) TT rd hgO hlO hsO hgL hlL hsL (by omega) (by omega) (by omega) (by omega) (by omega) hRl ha v0 v1 v2 v3
      clear TT rd hgO hlO hsO
      go_wp2
      have u := ((((rb.set 0 (.slice ga NG gc)).set 1 (.slice (some ⟨g, 0, none⟩) (NA + 1) cp9)).set 2 (.slice ta NT tc)).set 3 (.bool st))
      obtain ⟨u0, u1, u2, u3⟩ := u.quad
      exact bodyPost_ret (v := rowV ga NG gc (some ⟨g, 0, none⟩) (NA + 1) cp9 ta NT tc st) (by simp [results, Try.results29, go_sem, u0, u1, u2, u3]) rfl ⟨_, _, _, gs, _, _, _, us, _, _, _, ts, _, _, rfl, hZ _ _ _ _⟩
    · have hlow : ∀ k, (Value.slice ga NG gc).ownBlock = some k → w1.heap.size ≤ k ∧ k < w3.heap.size := fun k hk => by
        have h := fown_lo o0 hk
        constructor
        · exact Nat.le_of_not_lt (fun h2 => h (Or.inl (Or.inl h2)))
        · exact Nat.lt_of_not_le (fun h2 => h (Or.inr h2))
      obtain ⟨ys, hys, hpush⟩ := fown_push (S0 := fun k => k < w.heap.size + 1 ∨ k = X) (T := fun k => InB none k) (o0.mono (fun k hk => by
        rcases hk with (hk | hk) | ⟨_, _, hk⟩
        · exact Or.inl (Or.inl (by omega))
        · exact Or.inr (by omega)
        · cases hk)) (fun g hg hs => by
        have h := hlow g hg
        rcases hs with hs | hs <;> omega)
      have hown0 := hys w6 (Touch.refl _ _)
      have lX6 : X < w6.heap.size := xb.lt
      have gx : w6.cell? ⟨X, 0, none⟩ = some (.slice ga NG gc) := xb.cell 0
      go_upto_region 12 with fail
      refine wp_region_ends (fun _ => True) (fun Y => Y.cell? ⟨X, 0, none⟩ = some (.slice ga NG gc)) 6 (by kernel_rfl) ?_
      have dr : Below w6.heap.size w6 w6.drew := (Below.refl _ _).drew
      obtain ⟨V0, hV0⟩ : ∃ V, V = w6.drew := ⟨_, rfl⟩
      rw [← hV0] at dr ⊢
      clear hV0
      have Td : Touch (fun k => k < w.heap.size + 1 ∨ k = X) w6 V0 := Touch.of dr
      replace TT := TT.trans (Touch.of dr)
      replace rd := rd.below dr
      replace rb := rb.below dr
      replace xb := xb.below dr
      replace o0 := o0.below dr
      replace o1 := o1.below dr
      replace o2 := o2.below dr
      have sd := dr.size
      clear dr gx hown0
      have hSS : (fun _ : World => True) V0 ∧ (fun Y : World => Y.cell? ⟨X, 0, none⟩ = some (.slice ga NG gc)) V0 := ⟨trivial, xb.cell 0⟩
      refine tkL (i := 0) rfl hSS ?_
      refine tkM (i := 1) rfl rfl hSS ?_
      refine tkL (i := 2) rfl hSS ?_
      simp only [Act.put, List.setIfInBounds_toArray, List.set_cons_succ, List.set_cons_zero, List.getElem_toArray, List.getElem_cons_succ, List.getElem_cons_zero]
      refine wpAnyE_one (i := 3) (by kernel_rfl) rfl (fun Kn hK => ?_)
      go_simp
      refine (form_f R a n cap bs (q1 + 1 + 1 + 1) 2 _ rd (by omega) (by omega) (by omega) (by omega) rd.ha).mono ?_
      rintro ee w7 ⟨B1, nC, cC, B2, nD, cD, K, C, D, q6, rfl, fm⟩
      have t7 := fm.t
      have b1 := fm.b1
      have b2 := fm.b2
      have c4 := fm.c4
      have d4 := fm.d4
      have qa := fm.q0
      have qb := fm.q1
      have iC := fm.c
      have iD := fm.d
      have lC := iC.blk fm.c1
      have lD := iD.blk fm.d1
      have T7 := Td.trans (t7.mono (fun k hk => Or.inl (by omega)))
      replace TT := TT.trans t7
      replace rd := fm.r
      replace rb := rb.touch t7 (by omega)
      replace xb := xb.touch t7 xR
      replace o0 := o0.touch (t7.mono (fun k hk => Or.inl (Or.inl (by omega))))
      replace o1 := o1.touch (t7.mono (fun k hk => Or.inl (Or.inl (by omega))))
      replace o2 := o2.touch (t7.mono (fun k hk => Or.inl (Or.inl (by omega))))
      have s7 := t7.size
      clear fm t7 hSS Td
      (try dsimp only)
      refine hK.out _ _ ⟨trivial, fun _ => xb.cell 0⟩ ?_
      clear hK Kn
      refine wpAnyE_one (i := 4) (by kernel_rfl) rfl (fun Kn hK => ?_)
      go_simp
      have al := (Below.refl w7.heap.size w7).alloc (Nat.le_refl _) (.cells #[.slice (some ⟨B1, 0, none⟩) nC cC, .slice (some ⟨B2, 0, none⟩) nD cD, .int .i64 K] 34)
      have hnew := heap_alloc_new w7 (.cells #[.slice (some ⟨B1, 0, none⟩) nC cC, .slice (some ⟨B2, 0, none⟩) nD cD, .int .i64 K] 34)
      obtain ⟨w8, hw8⟩ : ∃ W, W = w7.alloc (.cells #[.slice (some ⟨B1, 0, none⟩) nC cC, .slice (some ⟨B2, 0, none⟩) nD cD, .int .i64 K] 34) := ⟨_, rfl⟩
      have s8 : w8.heap.size ≤ w7.heap.size + 1 := by rw [hw8, World.size_alloc]; omega
      have s8b : w7.heap.size < w8.heap.size := by rw [hw8, World.size_alloc]; omega
      rw [← hw8] at al hnew ⊢
      clear hw8
      replace T7 := T7.trans (Touch.of al)
      replace TT := TT.trans (Touch.of al)
      replace rd := rd.below al
      replace rb := rb.below al
      replace xb := xb.below al
      replace o0 := o0.below al
      replace o1 := o1.below al
      replace o2 := o2.below al
      replace iC := iC.below al
      replace iD := iD.below al
      clear al
      refine hK.out _ _ ⟨trivial, fun _ => xb.cell 0⟩ ?_
      clear hK Kn
      have hown := hys w8 T7
      refine wpAnyE_one (i := 5) (by kernel_rfl) rfl (fun Kn hK => ?_)
      rw [if_pos (by rfl)]
      refine wp_append_lies _ (.tmp 49) (.tmp 52) 23 rfl 0 34 i0 _ 3 56 Try.underlying23 hi hz0 hz1 hz2 rfl (by omega) (.slice ga NG gc) NG ys (by rfl) hown ⟨w7.heap.size, 0, none⟩ 1 1 [Value.slice (some ⟨B1, 0, none⟩) nC cC, Value.slice (some ⟨B2, 0, none⟩) nD cD, Value.int .i64 K] (by rfl) (by rfl) (World.news_of_block (cs := #[Value.slice (some ⟨B1, 0, none⟩) nC cC, Value.slice (some ⟨B2, 0, none⟩) nD cD, Value.int .i64 K]) (t := 34) (fr := (0, 0)) hnew) (by simp [Value.oneCell']) (by omega) (by unfold maxLen; omega) (by omega) (Nat.zero_le _) w8.heap.size rfl ?_
      intro g cp9 w9 hown9 hgrow hat hlt9
      have hO := hpush w8 w9 g cp9 w8.heap.size B1 nC cC B2 nD cD K C D T7 hgrow hown9 hat rfl (by omega) iC iD c4 d4 (by omega) (by omega) (by omega) (by omega) (by omega) (by omega)
      have tg : Touch (fun k => (Value.slice ga NG gc).ownBlock = some k) w8 w9 := grown_touch hgrow (fun z hz => hz)
      replace TT := TT.grown hgrow (fun z hz => by have := hlow z hz; omega)
      replace rd := rd.touch tg (fun h => by have := hlow _ h; omega) (fun h0 b o e h => by have := hlow _ h; have := ha h0 b o e; omega)
      replace rb := rb.grew hgrow (fun h => by have := hlow _ h; omega)
      replace xb := xb.grew hgrow (fun h => by have := hlow _ h; omega)
      replace o1 := o1.touch (tg.mono (fun k hk => Or.inl (Or.inr (Or.inl (ownB_in hk)))))
      replace o2 := o2.touch (tg.mono (fun k hk => Or.inl (Or.inr (Or.inl (ownB_in hk)))))
      obtain ⟨us, hul, huO⟩ := hO
      have s9 := hgrow.size
      clear tg hgrow hown9 hat hlt9 hown hpush hys iC iD T7 hnew
      refine hK.out _ _ ⟨trivial, fun _ => xb.cell 0⟩ ?_
      clear hK Kn
      refine wpAnyE_one (i := 6) (by kernel_rfl) rfl (fun Kn hK => ?_)
      go_simp
      refine hK.out _ _ ⟨trivial, fun h => absurd h (by decide)⟩ ?_
      clear hK Kn
      have gx := xb.cell 0
      have fx := xb.free 0
      simp only [List.getElem?_cons_zero, List.getElem?_cons_succ] at gx
      refine wpAnyE_one (i := 7) (by kernel_rfl) rfl (fun Kn hK => ?_)
      go_simp
      have T7 : Touch (fun k => k = X) w9 (w9.setCell ⟨X, 0, none⟩ (.slice (some ⟨g, 0, none⟩) (NG + 1) cp9)) := Touch.setCell (S := fun k => k = X) (Touch.refl _ _) rfl _
      replace TT := TT.setNewF (B := X) (by omega) 0 (.slice (some ⟨g, 0, none⟩) (NG + 1) cp9)
      replace rd := rd.setNew (B := X) (by omega) (fun h0 b o e => by have := ha h0 b o e; omega) 0 (.slice (some ⟨g, 0, none⟩) (NG + 1) cp9)
      replace rb := rb.setOther (B' := X) (by omega) 0 (.slice (some ⟨g, 0, none⟩) (NG + 1) cp9)
      replace xb := xb.set 0 (.slice (some ⟨g, 0, none⟩) (NG + 1) cp9)
      replace huO := huO.touch (T7.mono (fun k hk => Or.inr hk))
      replace o1 := o1.touch (T7.mono (fun k hk => Or.inr (by omega)))
      replace o2 := o2.touch (T7.mono (fun k hk => Or.inr (by omega)))
      clear T7 gx fx
      simp only [List.set_cons_succ, List.set_cons_zero] at xb
      refine hK.out _ _ ⟨trivial, fun h => absurd h (by decide)⟩ ?_
      clear hK Kn
      refine wpAnyE_done (by kernel_rfl) ?_ _
      replace huO := huO.mono (S' := fun k => k < w.heap.size + 1) (fun k hk => Or.inl hk)
      clear hlow o0
      obtain ⟨ls, hlL, hlO⟩ := fown_g o1
      replace hlO := hlO.mono (S' := fun k => k < w.heap.size + 1) (fun k hk => Or.inl (Or.inl (by omega)))
      obtain ⟨ts, hsL, hsO⟩ := fown_g o2
      replace hsO := hsO.mono (S' := fun k => k < w.heap.size + 1) (fun k hk => Or.inl (Or.inl (by omega)))
      have hgL := hul
      have hgO := huO
      clear hul huO
      have g0 := xb.cell 0
      have g1 := xb.cell 1
      have g2 := xb.cell 2
      have g3 := xb.cell 3
      have h0 := rb.cell 0
      have h1 := rb.cell 1
      have h2 := rb.cell 2
      have h3 := rb.cell 3
      simp only [List.getElem?_cons_zero, List.getElem?_cons_succ] at g0 g1 g2 g3 h0 h1 h2 h3
      have f0 := rb.free 0
      have f1 := rb.free 1
      have f2 := rb.free 2
      have f3 := rb.free 3
      have lr := rb.lt
      have hZ := fun v0 v1 v2 v3 => RwN.fin (p := p) TT rd hgO hlO hsO hgL hlL hsL (by omega) (by omega) (by omega) (by omega) (by omega) hRl ha v0 v1 v2 v3
      clear TT rd hgO hlO hsO
      go_wp2
      have u := ((((rb.set 0 (.slice (some ⟨g, 0, none⟩) (NG + 1) cp9)).set 1 (.slice aa NA ac)).set 2 (.slice ta NT tc)).set 3 (.bool st))
      obtain ⟨u0, u1, u2, u3⟩ := u.quad
      exact bodyPost_ret (v := rowV (some ⟨g, 0, none⟩) (NG + 1) cp9 aa NA ac ta NT tc st) (by simp [results, Try.results29, go_sem, u0, u1, u2, u3]) rfl ⟨_, _, _, us, _, _, _, ls, _, _, _, ts, _, _, rfl, hZ _ _ _ _⟩
    · have hlow : ∀ k, (Value.slice ta NT tc).ownBlock = some k → w1.heap.size ≤ k ∧ k < w3.heap.size := fun k hk => by
        have h := fown_lo o2 hk
        constructor
        · exact Nat.le_of_not_lt (fun h2 => h (Or.inl (Or.inl h2)))
        · exact Nat.lt_of_not_le (fun h2 => h (Or.inr h2))
      obtain ⟨ys, hys, hpush⟩ := fown_push (S0 := fun k => k < w.heap.size + 1 ∨ k = X) (T := fun k => InB none k) (o2.mono (fun k hk => by
        rcases hk with (hk | hk) | ⟨_, _, hk⟩
        · exact Or.inl (Or.inl (by omega))
        · exact Or.inr (by omega)
        · cases hk)) (fun g hg hs => by
        have h := hlow g hg
        rcases hs with hs | hs <;> omega)
      have hown0 := hys w6 (Touch.refl _ _)
      have lX6 : X < w6.heap.size := xb.lt
      have gx : w6.cell? ⟨X, 2, none⟩ = some (.slice ta NT tc) := xb.cell 2
      go_upto_region 6 with fail
      refine wp_region_ends (fun _ => True) (fun Y => Y.cell? ⟨X, 2, none⟩ = some (.slice ta NT tc)) 6 (by kernel_rfl) ?_
      have dr : Below w6.heap.size w6 w6.drew := (Below.refl _ _).drew
      obtain ⟨V0, hV0⟩ : ∃ V, V = w6.drew := ⟨_, rfl⟩
      rw [← hV0] at dr ⊢
      clear hV0
      have Td : Touch (fun k => k < w.heap.size + 1 ∨ k = X) w6 V0 := Touch.of dr
      replace TT := TT.trans (Touch.of dr)
      replace rd := rd.below dr
      replace rb := rb.below dr
      replace xb := xb.below dr
      replace o0 := o0.below dr
      replace o1 := o1.below dr
      replace o2 := o2.below dr
      have sd := dr.size
      clear dr gx hown0
      have hSS : (fun _ : World => True) V0 ∧ (fun Y : World => Y.cell? ⟨X, 2, none⟩ = some (.slice ta NT tc)) V0 := ⟨trivial, xb.cell 2⟩
      refine tkL (i := 0) rfl hSS ?_
      refine tkM (i := 1) rfl rfl hSS ?_
      refine tkL (i := 2) rfl hSS ?_
      simp only [Act.put, List.setIfInBounds_toArray, List.set_cons_succ, List.set_cons_zero, List.getElem_toArray, List.getElem_cons_succ, List.getElem_cons_zero]
      refine wpAnyE_one (i := 3) (by kernel_rfl) rfl (fun Kn hK => ?_)
      go_simp
      refine (form_f R a n cap bs (q1 + 1 + 1 + 1) 2 _ rd (by omega) (by omega) (by omega) (by omega) rd.ha).mono ?_
      rintro ee w7 ⟨B1, nC, cC, B2, nD, cD, K, C, D, q6, rfl, fm⟩
      have t7 := fm.t
      have b1 := fm.b1
      have b2 := fm.b2
      have c4 := fm.c4
      have d4 := fm.d4
      have qa := fm.q0
      have qb := fm.q1
      have iC := fm.c
      have iD := fm.d
      have lC := iC.blk fm.c1
      have lD := iD.blk fm.d1
      have T7 := Td.trans (t7.mono (fun k hk => Or.inl (by omega)))
      replace TT := TT.trans t7
      replace rd := fm.r
      replace rb := rb.touch t7 (by omega)
      replace xb := xb.touch t7 xR
      replace o0 := o0.touch (t7.mono (fun k hk => Or.inl (Or.inl (by omega))))
      replace o1 := o1.touch (t7.mono (fun k hk => Or.inl (Or.inl (by omega))))
      replace o2 := o2.touch (t7.mono (fun k hk => Or.inl (Or.inl (by omega))))
      have s7 := t7.size
      clear fm t7 hSS Td
      (try dsimp only)
      refine hK.out _ _ ⟨trivial, fun _ => xb.cell 2⟩ ?_
      clear hK Kn
      refine wpAnyE_one (i := 4) (by kernel_rfl) rfl (fun Kn hK => ?_)
      go_simp
      have al := (Below.refl w7.heap.size w7).alloc (Nat.le_refl _) (.cells #[.slice (some ⟨B1, 0, none⟩) nC cC, .slice (some ⟨B2, 0, none⟩) nD cD, .int .i64 K] 34)
      have hnew := heap_alloc_new w7 (.cells #[.slice (some ⟨B1, 0, none⟩) nC cC, .slice (some ⟨B2, 0, none⟩) nD cD, .int .i64 K] 34)
      obtain ⟨w8, hw8⟩ : ∃ W, W = w7.alloc (.cells #[.slice (some ⟨B1, 0, none⟩) nC cC, .slice (some ⟨B2, 0, none⟩) nD cD, .int .i64 K] 34) := ⟨_, rfl⟩
      have s8 : w8.heap.size ≤ w7.heap.size + 1 := by rw [hw8, World.size_alloc]; omega
      have s8b : w7.heap.size < w8.heap.size := by rw [hw8, World.size_alloc]; omega
      rw [← hw8] at al hnew ⊢
      clear hw8
      replace T7 := T7.trans (Touch.of al)
      replace TT := TT.trans (Touch.of al)
      replace rd := rd.below al
      replace rb := rb.below al
      replace xb := xb.below al
      replace o0 := o0.below al
      replace o1 := o1.below al
      replace o2 := o2.below al
      replace iC := iC.below al
      replace iD := iD.below al
      clear al
      refine hK.out _ _ ⟨trivial, fun _ => xb.cell 2⟩ ?_
      clear hK Kn
      have hown := hys w8 T7
      refine wpAnyE_one (i := 5) (by kernel_rfl) rfl (fun Kn hK => ?_)
      rw [if_pos (by rfl)]
      refine wp_append_lies _ (.tmp 25) (.tmp 28) 23 rfl 0 34 i0 _ 3 56 Try.underlying23 hi hz0 hz1 hz2 rfl (by omega) (.slice ta NT tc) NT ys (by rfl) hown ⟨w7.heap.size, 0, none⟩ 1 1 [Value.slice (some ⟨B1, 0, none⟩) nC cC, Value.slice (some ⟨B2, 0, none⟩) nD cD, Value.int .i64 K] (by rfl) (by rfl) (World.news_of_block (cs := #[Value.slice (some ⟨B1, 0, none⟩) nC cC, Value.slice (some ⟨B2, 0, none⟩) nD cD, Value.int .i64 K]) (t := 34) (fr := (0, 0)) hnew) (by simp [Value.oneCell']) (by omega) (by unfold maxLen; omega) (by omega) (Nat.zero_le _) w8.heap.size rfl ?_
      intro g cp9 w9 hown9 hgrow hat hlt9
      have hO := hpush w8 w9 g cp9 w8.heap.size B1 nC cC B2 nD cD K C D T7 hgrow hown9 hat rfl (by omega) iC iD c4 d4 (by omega) (by omega) (by omega) (by omega) (by omega) (by omega)
      have tg : Touch (fun k => (Value.slice ta NT tc).ownBlock = some k) w8 w9 := grown_touch hgrow (fun z hz => hz)
      replace TT := TT.grown hgrow (fun z hz => by have := hlow z hz; omega)
      replace rd := rd.touch tg (fun h => by have := hlow _ h; omega) (fun h0 b o e h => by have := hlow _ h; have := ha h0 b o e; omega)
      replace rb := rb.grew hgrow (fun h => by have := hlow _ h; omega)
      replace xb := xb.grew hgrow (fun h => by have := hlow _ h; omega)
      replace o0 := o0.touch (tg.mono (fun k hk => Or.inl (Or.inr (Or.inr (ownB_in hk)))))
      replace o1 := o1.touch (tg.mono (fun k hk => Or.inl (Or.inr (Or.inr (ownB_in hk)))))
      obtain ⟨us, hul, huO⟩ := hO
      have s9 := hgrow.size
      clear tg hgrow hown9 hat hlt9 hown hpush hys iC iD T7 hnew
      refine hK.out _ _ ⟨trivial, fun _ => xb.cell 2⟩ ?_
      clear hK Kn
      refine wpAnyE_one (i := 6) (by kernel_rfl) rfl (fun Kn hK => ?_)
      go_simp
      refine hK.out _ _ ⟨trivial, fun h => absurd h (by decide)⟩ ?_
      clear hK Kn
      have gx := xb.cell 2
      have fx := xb.free 2
      simp only [List.getElem?_cons_zero, List.getElem?_cons_succ] at gx
      refine wpAnyE_one (i := 7) (by kernel_rfl) rfl (fun Kn hK => ?_)
      go_simp
      have T7 : Touch (fun k => k = X) w9 (w9.setCell ⟨X, 2, none⟩ (.slice (some ⟨g, 0, none⟩) (NT + 1) cp9)) := Touch.setCell (S := fun k => k = X) (Touch.refl _ _) rfl _
      replace TT := TT.setNewF (B := X) (by omega) 2 (.slice (some ⟨g, 0, none⟩) (NT + 1) cp9)
      replace rd := rd.setNew (B := X) (by omega) (fun h0 b o e => by have := ha h0 b o e; omega) 2 (.slice (some ⟨g, 0, none⟩) (NT + 1) cp9)
      replace rb := rb.setOther (B' := X) (by omega) 2 (.slice (some ⟨g, 0, none⟩) (NT + 1) cp9)
      replace xb := xb.set 2 (.slice (some ⟨g, 0, none⟩) (NT + 1) cp9)
      replace huO := huO.touch (T7.mono (fun k hk => Or.inr hk))
      replace o0 := o0.touch (T7.mono (fun k hk => Or.inr (by omega)))
      replace o1 := o1.touch (T7.mono (fun k hk => Or.inr (by omega)))
      clear T7 gx fx
      simp only [List.set_cons_succ, List.set_cons_zero] at xb
      refine hK.out _ _ ⟨trivial, fun h => absurd h (by decide)⟩ ?_
      clear hK Kn
      refine wpAnyE_done (by kernel_rfl) ?_ _
      replace huO := huO.mono (S' := fun k => k < w.heap.size + 1) (fun k hk => Or.inl hk)
      clear hlow o2
      obtain ⟨gs, hgL, hgO⟩ := fown_g o0
      replace hgO := hgO.mono (S' := fun k => k < w.heap.size + 1) (fun k hk => Or.inl (Or.inl (by omega)))
      obtain ⟨ls, hlL, hlO⟩ := fown_g o1
      replace hlO := hlO.mono (S' := fun k => k < w.heap.size + 1) (fun k hk => Or.inl (Or.inl (by omega)))
      have hsL := hul
      have hsO := huO
      clear hul huO
      have g0 := xb.cell 0
      have g1 := xb.cell 1
      have g2 := xb.cell 2
      have g3 := xb.cell 3
      have h0 := rb.cell 0
      have h1 := rb.cell 1
      have h2 := rb.cell 2
      have h3 := rb.cell 3
      simp only [List.getElem?_cons_zero, List.getElem?_cons_succ] at g0 g1 g2 g3 h0 h1 h2 h3
      have f0 := rb.free 0
      have f1 := rb.free 1
      have f2 := rb.free 2
      have f3 := rb.free 3
      have lr := rb.lt
      have hZ := fun v0 v1 v2 v3 => RwN.fin (p := p) TT rd hgO hlO hsO hgL hlL hsL (by omega) (by omega) (by omega) (by omega) (by omega) hRl ha v0 v1 v2 v3
      clear TT rd hgO hlO hsO
      go_wp2
      have u := ((((rb.set 0 (.slice ga NG gc)).set 1 (.slice aa NA ac)).set 2 (.slice (some ⟨g, 0, none⟩) (NT + 1) cp9)).set 3 (.bool st))
      obtain ⟨u0, u1, u2, u3⟩ := u.quad
      exact bodyPost_ret (v := rowV ga NG gc aa NA ac (some ⟨g, 0, none⟩) (NT + 1) cp9 st) (by simp [results, Try.results29, go_sem, u0, u1, u2, u3]) rfl ⟨_, _, _, gs, _, _, _, ls, _, _, _, us, _, _, rfl, hZ _ _ _ _⟩


set_option maxHeartbeats 3200000 in
theorem dRowFits (a : Option Addr) (n cap : Nat) (bs : List Int) (w : World) (h : BInts w a n bs) (hn : n ≤ cap) (hn1 : n ≤ 1048576) (hc : cap ≤ maxLen) :
    Calls Try.prog 6 #[.slice a n cap] w fun e w' => ∃ ga G gc gs aa A ac ls ta T tc ts st va p cv V ua q cu U, e = .returned (.tuple #[rowV ga G gc aa A ac ta T tc st, .slice va p cv, .slice ua q cu]) ∧ Below w.heap.size w w' ∧ (∀ W, Touch (fun k => k < w.heap.size) w' W → RowAt W ga G gs aa A ls ta T ts ∧ Ints W va p V ∧ Ints W ua q U) ∧ p ≤ 4 ∧ q ≤ 4 ∧ G ≤ 2000 ∧ A ≤ 2000 ∧ T ≤ 2000 := by
  have q0 := Cel.new w [.slice none 0 0, .slice none 0 0, .slice none 0 0, .bool false] 25
  have al := (Below.refl w.heap.size w).alloc (Nat.le_refl _) (.cells #[.slice none 0 0, .slice none 0 0, .slice none 0 0, .bool false] 25)
  go_enter Try.func6, Try.ntmps6
  go_wp2_with fail
  refine (open_any _ _ _ bs _ (h.below al) hn hn1 hc).mono ?_
  rintro e w1 ⟨R, n', cap2, bs', rfl, b1, hR, r1⟩
  rw [World.size_alloc] at hR
  have hRl := r1.c.lt
  replace q0 := q0.below b1
  go_wp2_with fail
  refine (row_f R a n' cap2 bs' 0 12 _ r1 (by omega) (by omega) (by omega) (by omega) r1.ha).mono ?_
  rintro e w2 ⟨ga, G, gc, gs, aa, A, ac, ls, ta, T, tc, ts, st, q, rfl, j⟩
  have u0 := j.q0
  have u1 := j.q1
  have zG := j.zg
  have zL := j.zl
  have zS := j.zs
  have hsz := j.t.size
  have BB := b1.trans (j.t.below (B := (w.alloc (.cells #[.slice none 0 0, .slice none 0 0, .slice none 0 0, .bool false] 25)).heap.size) (by have := b1.size; omega) (fun k hk => by rw [World.size_alloc]; omega))
  replace q0 := q0.touch j.t (by omega)
  go_wp2_with fail
  refine (vals_gen R a n' cap2 bs' q 16 _ j.r (by omega) (by omega) (by omega) (by omega) j.r.ha).mono ?_
  rintro e w3 ⟨va, vp, cv, V, q3, rfl, d3⟩
  have u2 := d3.q0
  have u3 := d3.q1
  have p3 := d3.h4
  have T3 := d3.t
  have hs3 := T3.size
  replace q0 := q0.touch d3.t (by omega)
  go_wp2_with fail
  refine (args_gen R a n' cap2 bs' q3 16 _ d3.r (by omega) (by omega) (by omega) (by omega) d3.r.ha).mono ?_
  rintro e w4 ⟨ua, uq, cu, U, q4, rfl, d4⟩
  have p4 := d4.h4
  replace q0 := q0.touch d4.t (by omega)
  replace T3 := T3.trans d4.t
  have hs4 := d4.t.size
  have hV := d3.i.off d4.t (fun b o e hs => by have := d3.lo b o e; omega)
  have hU := d4.i
  have loV := d3.lo
  have loU := d4.lo
  replace BB := BB.trans (T3.below (B := (w.alloc (.cells #[.slice none 0 0, .slice none 0 0, .slice none 0 0, .bool false] 25)).heap.size) (by have := BB.size; omega) (fun k hk => by rw [World.size_alloc]; omega))
  have BW : Below w.heap.size w w4 := al.trans (BB.mono (by rw [World.size_alloc]; omega))
  have hw1 := b1.size
  rw [World.size_alloc] at hw1
  have TZ : ∀ v0 v1 v2 v3, Touch (fun k => k < w1.heap.size) w2 ((((w4.setCell ⟨w.heap.size, 0, none⟩ v0).setCell ⟨w.heap.size, 1, none⟩ v1).setCell ⟨w.heap.size, 2, none⟩ v2).setCell ⟨w.heap.size, 3, none⟩ v3) := fun v0 v1 v2 v3 =>
    (T3.mono (fun k hk => by omega)).trans (Touch.setCell (Touch.setCell (Touch.setCell (Touch.setCell (S := fun k => k < w1.heap.size) (Touch.refl _ _) (show w.heap.size < w1.heap.size by omega) _) (show w.heap.size < w1.heap.size by omega) _) (show w.heap.size < w1.heap.size by omega) _) (show w.heap.size < w1.heap.size by omega) _)
  have hA : ∀ v0 v1 v2 v3 W, Touch (fun k => k < w.heap.size) ((((w4.setCell ⟨w.heap.size, 0, none⟩ v0).setCell ⟨w.heap.size, 1, none⟩ v1).setCell ⟨w.heap.size, 2, none⟩ v2).setCell ⟨w.heap.size, 3, none⟩ v3) W → RowAt W ga G gs aa A ls ta T ts := fun v0 v1 v2 v3 W t => j.at ((TZ v0 v1 v2 v3).trans (t.mono (fun k hk => by omega)))
  have mV : ∀ b o, va = some ⟨b, o, none⟩ → w.heap.size ≤ b := fun b o e => by have := loV b o e; omega
  have mU : ∀ b o, ua = some ⟨b, o, none⟩ → w.heap.size ≤ b := fun b o e => by have := loU b o e; omega
  have fV : ∀ b o, va = some ⟨b, o, none⟩ → b ≠ w.heap.size := fun b o e => by have := loV b o e; omega
  have fU : ∀ b o, ua = some ⟨b, o, none⟩ → b ≠ w.heap.size := fun b o e => by have := loU b o e; omega
  have g0 := q0.cell 0
  have g1 := q0.cell 1
  have g2 := q0.cell 2
  have g3 := q0.cell 3
  simp only [List.getElem?_cons_zero, List.getElem?_cons_succ] at g0 g1 g2 g3
  have f0 := q0.free 0
  have f1 := q0.free 1
  have f2 := q0.free 2
  have f3 := q0.free 3
  have lq := q0.lt
  clear r1 b1 d3 d4 j T3 BB TZ hs4 hs3 loV loU
  go_wp2
  have z := ((((q0.set 0 (.slice ga G gc)).set 1 (.slice aa A ac)).set 2 (.slice ta T tc)).set 3 (.bool st))
  obtain ⟨z0, z1, z2, z3⟩ := z.quad
  exact bodyPost_ret (v := .tuple #[rowV ga G gc aa A ac ta T tc st, .slice va vp cv, .slice ua uq cu]) (by simp [results, Try.results6, go_sem, z0, z1, z2, z3]) rfl
    ⟨ga, G, gc, gs, aa, A, ac, ls, ta, T, tc, ts, st, va, vp, cv, V, ua, uq, cu, U, rfl, (((BW.setCell (Nat.le_refl _) _).setCell (Nat.le_refl _) _).setCell (Nat.le_refl _) _).setCell (Nat.le_refl _) _, fun W t => ⟨hA _ _ _ _ W t, ((((hV.setFar fV 0 _).setFar fV 1 _).setFar fV 2 _).setFar fV 3 _).off t (fun b o e hs => by have := mV b o e; omega), ((((hU.setFar fU 0 _).setFar fU 1 _).setFar fU 2 _).setFar fU 3 _).off t (fun b o e hs => by have := mU b o e; omega)⟩, p3, p4, zG, zL, zS⟩

set_option maxHeartbeats 3200000 in
theorem dRowDo (a : Option Addr) (n cap : Nat) (bs : List Int) (w : World) (h : BInts w a n bs) (hn : n ≤ cap) (hn1 : n ≤ 1048576) (hc : cap ≤ maxLen) :
    Calls Try.prog 14 #[.slice a n cap] w fun e w' => ∃ ga G gc gs aa A ac ls ta T tc ts st va p cv V ua q cu U, e = .returned (.tuple #[rowV ga G gc aa A ac ta T tc st, .slice va p cv, .slice ua q cu]) ∧ Below w.heap.size w w' ∧ RowAt w' ga G gs aa A ls ta T ts ∧ Ints w' va p V ∧ Ints w' ua q U ∧ p ≤ 4 ∧ q ≤ 4 ∧ G ≤ 2000 ∧ A ≤ 2000 ∧ T ≤ 2000 := by
  have q0 := Cel.new w [.slice none 0 0, .slice none 0 0, .slice none 0 0, .bool false] 25
  have al := (Below.refl w.heap.size w).alloc (Nat.le_refl _) (.cells #[.slice none 0 0, .slice none 0 0, .slice none 0 0, .bool false] 25)
  go_enter Try.func14, Try.ntmps14
  go_wp2_with fail
  refine (dRowFits _ _ _ bs _ (h.below al) hn hn1 hc).mono ?_
  rintro e w1 ⟨ga, G, gc, gs, aa, A, ac, ls, ta, T, tc, ts, st, va, p, cv, V, ua, q, cu, U, rfl, b1, hA, hp, hq, zG, zL, zS⟩
  rw [World.size_alloc] at hA
  have BW : Below w.heap.size w w1 := al.trans (b1.mono (by rw [World.size_alloc]; omega))
  replace q0 := q0.below b1
  have g0 := q0.cell 0
  have g1 := q0.cell 1
  have g2 := q0.cell 2
  have g3 := q0.cell 3
  simp only [List.getElem?_cons_zero, List.getElem?_cons_succ] at g0 g1 g2 g3
  have f0 := q0.free 0
  have f1 := q0.free 1
  have f2 := q0.free 2
  have f3 := q0.free 3
  have lq := q0.lt
  have TZ : ∀ v0 v1 v2 v3, Touch (fun k => k < w.heap.size + 1) w1 ((((w1.setCell ⟨w.heap.size, 0, none⟩ v0).setCell ⟨w.heap.size, 1, none⟩ v1).setCell ⟨w.heap.size, 2, none⟩ v2).setCell ⟨w.heap.size, 3, none⟩ v3) := fun v0 v1 v2 v3 =>
    Touch.setCell (Touch.setCell (Touch.setCell (Touch.setCell (S := fun k => k < w.heap.size + 1) (Touch.refl _ _) (Nat.lt_succ_self _) _) (Nat.lt_succ_self _) _) (Nat.lt_succ_self _) _) (Nat.lt_succ_self _) _
  have hZ := fun v0 v1 v2 v3 => hA _ (TZ v0 v1 v2 v3)
  clear hA b1 TZ
  go_wp2
  have z := ((((q0.set 0 (.slice ga G gc)).set 1 (.slice aa A ac)).set 2 (.slice ta T tc)).set 3 (.bool st))
  obtain ⟨z0, z1, z2, z3⟩ := z.quad
  exact bodyPost_ret (v := .tuple #[rowV ga G gc aa A ac ta T tc st, .slice va p cv, .slice ua q cu]) (by simp [results, Try.results14, go_sem, z0, z1, z2, z3]) rfl
    ⟨ga, G, gc, gs, aa, A, ac, ls, ta, T, tc, ts, st, va, p, cv, V, ua, q, cu, U, rfl, (((BW.setCell (Nat.le_refl _) _).setCell (Nat.le_refl _) _).setCell (Nat.le_refl _) _).setCell (Nat.le_refl _) _, (hZ _ _ _ _).1, (hZ _ _ _ _).2.1, (hZ _ _ _ _).2.2, hp, hq, zG, zL, zS⟩

end Go.Proofs.Ytemcinobgdphnaa
namespace Go.Proofs.Ytemcinobgdphnaa
open Go.RowKit
set_option linter.unusedVariables false
set_option maxRecDepth 100000

/-- A guard holds. -/
def fitB (V A : List Int) (f : FV) : Bool := decide (0 ≤ atV f.C f.D f.K V A)
def fitsB (gs ls ts : List FV) (a t : Nat) (st : Bool) (p q : Nat) (V A : List Int) : Bool := rowB gs ls ts a t st && okN 3 10000 p V && okN 2 9 q A && gs.all (fitB V A)

theorem allP_take_succ {P : FV → Bool} {fs : List FV} {k : Nat} (h : k < fs.length) (h1 : (fs.take k).all P = true) (h2 : P (fs[k]?.getD noFV) = true) : (fs.take (k + 1)).all P = true := by
  rw [List.take_succ_eq_append_getElem h, List.all_append, h1]
  rw [List.getElem?_eq_getElem h] at h2
  simpa using h2
theorem allP_no {P : FV → Bool} {fs : List FV} {k : Nat} (h : k < fs.length) (h2 : P (fs[k]?.getD noFV) = false) : fs.all P = false := by
  rw [List.all_eq_false]
  rw [List.getElem?_eq_getElem h] at h2
  exact ⟨fs[k], List.getElem_mem h, by simpa using h2⟩
theorem all_at {fs : List FV} {k : Nat} (h : fs.all FV.ok = true) (hk : k < fs.length) : (fs[k]?.getD noFV).ok = true := by
  rw [List.getElem?_eq_getElem hk]
  exact List.all_eq_true.1 h _ (List.getElem_mem hk)
theorem rowB_g {gs ls ts : List FV} {a t : Nat} {st : Bool} (h : rowB gs ls ts a t st = true) : gs.all FV.ok = true ∧ ls.all FV.ok = true ∧ ts.all FV.ok = true := by
  simp only [rowB, Bool.and_eq_true] at h
  exact ⟨h.1.1.1, h.1.1.2, h.1.2⟩
theorem okN_nat {c : Nat} {m : Int} {n : Nat} {zs : List Int} (hm : 0 ≤ m) (h : okN c m n zs = true) : n = c ∧ bnd m zs := by
  obtain ⟨h1, h2⟩ := okN_elim hm h
  exact ⟨by omega, h2⟩

set_option maxHeartbeats 3200000 in
theorem sfits_any (g : Option Addr) (G cg : Nat) (gs : List FV) (a : Option Addr) (A ca : Nat) (ls : List FV) (t : Option Addr) (T ct : Nat) (ts : List FV) (st : Bool) (v : Option Addr) (p cv : Nat) (V : List Int) (u : Option Addr) (q cu : Nat) (U : List Int) (w : World) (h : RowAt w g G gs a A ls t T ts) (hV : Ints w v p V) (hU : Ints w u q U) (hp : p ≤ 1048576) (hq : q ≤ 1048576) :
    Calls Try.prog 12 #[rowV g G cg a A ca t T ct st, .slice v p cv, .slice u q cu] w fun e w' => e = .returned (.bool (fitsB gs ls ts A T st p q V U)) ∧ Below w.heap.size w w' := by
  have n0 := BX.new w [.slice g G cg, .slice a A ca, .slice t T ct, .bool st] 25
  have zg := h.zg
  have HG : Hid (gs.length = G) := h.hg
  obtain ⟨rb, hrb⟩ : ∃ rb, rb = rowB gs ls ts A T st := ⟨_, rfl⟩
  obtain ⟨vb, hvb⟩ : ∃ vb, vb = okN 3 10000 p V := ⟨_, rfl⟩
  obtain ⟨ub, hub⟩ : ∃ ub, ub = okN 2 9 q U := ⟨_, rfl⟩
  have HR : Hid (rb = rowB gs ls ts A T st) := hrb
  have HV : Hid (vb = okN 3 10000 p V) := hvb
  have HU : Hid (ub = okN 2 9 q U) := hub
  clear hrb hvb hub
  go_enter Try.func12, Try.ntmps12
  go_wp2_with fail
  refine (srow_any _ _ _ gs _ _ _ ls _ _ _ ts _ _ (h.alloc _)).mono ?_
  rintro e w1 ⟨rfl, b1⟩
  have n1 := n0.below b1
  rw [← HR.out]
  clear n0 b1
  obtain ⟨c0, c1, c2, c3⟩ := n1.p.quad
  cases rb
  · go_wp2
    go_ret
    exact ⟨ret_bool (by rw [fitsB, ← HR.out]; rfl), n1.b⟩
  go_wp2_with fail
  refine (sval_any _ _ _ V _ (hV.below n1.b) hp).mono ?_
  rintro e w2 ⟨rfl, rfl⟩
  rw [← HV.out]
  cases vb
  · go_wp2
    go_ret
    exact ⟨ret_bool (by rw [fitsB, ← HR.out, ← HV.out]; rfl), n1.b⟩
  go_wp2_with fail
  refine (sarg_any _ _ _ U _ (hU.below n1.b) hq).mono ?_
  rintro e w2 ⟨rfl, rfl⟩
  rw [← HU.out]
  cases ub
  · go_wp2
    go_ret
    exact ⟨ret_bool (by rw [fitsB, ← HR.out, ← HV.out, ← HU.out]; rfl), n1.b⟩
  have HF : Hid (fitsB gs ls ts A T st p q V U = gs.all (fitB V U)) := by show _ = _; rw [fitsB, ← HR.out, ← HV.out, ← HU.out]; rfl
  have HO : Hid (gs.all FV.ok = true) := (rowB_g HR.out.symm).1
  obtain ⟨rfl, bV⟩ := okN_nat (c := 3) (by omega) HV.out.symm
  obtain ⟨rfl, bU⟩ := okN_nat (c := 2) (by omega) HU.out.symm
  have hg1 := (h.below n1.b).g
  have hV1 := hV.below n1.b
  have hU1 := hU.below n1.b
  clear h hV hU HR HV HU
  go_wp2_with fail
  go_loopw [7] (fun  i wr => ∃ k : Nat, k ≤ G ∧ i = .int .i64 k ∧ Below w2.heap.size w2 wr ∧ (gs.take k).all (fitB V U) = true) (fun  i _ => G - (intOf i).toNat)
  case atStart => exact ⟨0, Nat.zero_le _, rfl, Below.refl _ _, by simp⟩
  case round =>
    clear c0 c1 c2 c3
    obtain ⟨k, hk, rfl, hb, hall⟩ := hrel
    have HA : Hid ((gs.take k).all (fitB V U) = true) := hall
    have nr := n1.below hb
    obtain ⟨c0, c1, c2, c3⟩ := nr.p.quad
    clear hall
    by_cases hlt : k < G
    · obtain ⟨b, off, rfl, e0, e1, e2, e3⟩ := (hg1.below hb) k (by rw [HG.out]; exact hlt)
      have hok := all_at (k := k) HO.out (by rw [HG.out]; exact hlt)
      generalize HGk : gs[k]?.getD noFV = f at *
      have HG' : Hid (gs[k]?.getD noFV = f) := HGk
      clear HGk hg1
      obtain ⟨fa, fn, fcap, fc, fm, fcap', fK, fC, fD⟩ := f
      obtain ⟨iC, iD, _, _⟩ := e3
      simp only at e0 e1 e2 iC iD
      obtain ⟨rfl, rfl, bC, bD, bK⟩ := formB_elim (show formB fn fm fC fD fK = true from hok)
      have HX : Hid (fitB V U (gs[k]?.getD noFV) = decide (0 ≤ atV fC fD fK V U)) := by show _ = _; rw [HG'.out]; rfl
      clear HG' hok
      generalize HXv : atV fC fD fK V U = x at *
      have hx : Hid (atV fC fD fK V U = x) := HXv
      clear HXv
      by_cases hneg : x < 0
      · go_wp2_with fail
        refine (sat_any _ _ _ _ _ fC fD _ _ _ _ V U _ iC iD (hV1.below hb) (hU1.below hb) bC bD bK bV bU).mono ?_
        rintro e w3 ⟨rfl, b3⟩
        rw [hx.out]
        have n3 := nr.below b3
        go_wp2
        go_ret
        exact ⟨ret_bool (by rw [HF.out, allP_no (k := k) (by rw [HG.out]; exact hlt) (by rw [HX.out]; simp; omega)]), n3.b⟩
      · have hx0 : 0 ≤ x := by omega
        go_wp2_with fail
        refine (sat_any _ _ _ _ _ fC fD _ _ _ _ V U _ iC iD (hV1.below hb) (hU1.below hb) bC bD bK bV bU).mono ?_
        rintro e w3 ⟨rfl, b3⟩
        rw [hx.out]
        have B3 : Below w2.heap.size w2 w3 := hb.trans (b3.mono hb.size)
        clear b3 hb iC iD e0 e1 e2 c0 c1 c2 c3
        go_wp2
        go_roundw
        case rel => exact ⟨k + 1, by omega, by go_num, B3, allP_take_succ (by rw [HG.out]; exact hlt) HA.out (by rw [HX.out]; simp; omega)⟩
        case measure => simp [intOf]; omega
    · go_wp2
      go_ret
      exact ⟨ret_bool (by rw [HF.out]; have := HA.out; rw [List.take_of_length_le (by rw [HG.out]; omega)] at this; exact this.symm), nr.b⟩

set_option maxHeartbeats 3200000 in
theorem ifits_any (g : Option Addr) (G cg : Nat) (gs : List FV) (a : Option Addr) (A ca : Nat) (ls : List FV) (t : Option Addr) (T ct : Nat) (ts : List FV) (st : Bool) (v : Option Addr) (p cv : Nat) (V : List Int) (u : Option Addr) (q cu : Nat) (U : List Int) (w : World) (h : RowAt w g G gs a A ls t T ts) (hV : Ints w v p V) (hU : Ints w u q U) (hp : p ≤ 1048576) (hq : q ≤ 1048576) :
    Calls Try.prog 11 #[rowV g G cg a A ca t T ct st, .slice v p cv, .slice u q cu] w fun e w' => e = .returned (.bool (fitsB gs ls ts A T st p q V U)) ∧ Below w.heap.size w w' := by
  have n0 := BX.new w [.slice g G cg, .slice a A ca, .slice t T ct, .bool st] 25
  have zg := h.zg
  have HG : Hid (gs.length = G) := h.hg
  obtain ⟨rb, hrb⟩ : ∃ rb, rb = rowB gs ls ts A T st := ⟨_, rfl⟩
  obtain ⟨vb, hvb⟩ : ∃ vb, vb = okN 3 10000 p V := ⟨_, rfl⟩
  obtain ⟨ub, hub⟩ : ∃ ub, ub = okN 2 9 q U := ⟨_, rfl⟩
  have HR : Hid (rb = rowB gs ls ts A T st) := hrb
  have HV : Hid (vb = okN 3 10000 p V) := hvb
  have HU : Hid (ub = okN 2 9 q U) := hub
  clear hrb hvb hub
  go_enter Try.func11, Try.ntmps11
  go_wp2_with fail
  refine (irow_any _ _ _ gs _ _ _ ls _ _ _ ts _ _ (h.alloc _)).mono ?_
  rintro e w1 ⟨rfl, b1⟩
  have n1 := n0.below b1
  rw [← HR.out]
  clear n0 b1
  obtain ⟨c0, c1, c2, c3⟩ := n1.p.quad
  cases rb
  · go_wp2
    go_ret
    exact ⟨ret_bool (by rw [fitsB, ← HR.out]; rfl), n1.b⟩
  go_wp2_with fail
  refine (ival_any _ _ _ V _ (hV.below n1.b) hp).mono ?_
  rintro e w2 ⟨rfl, rfl⟩
  rw [← HV.out]
  cases vb
  · go_wp2
    go_ret
    exact ⟨ret_bool (by rw [fitsB, ← HR.out, ← HV.out]; rfl), n1.b⟩
  go_wp2_with fail
  refine (iarg_any _ _ _ U _ (hU.below n1.b) hq).mono ?_
  rintro e w2 ⟨rfl, rfl⟩
  rw [← HU.out]
  cases ub
  · go_wp2
    go_ret
    exact ⟨ret_bool (by rw [fitsB, ← HR.out, ← HV.out, ← HU.out]; rfl), n1.b⟩
  have HF : Hid (fitsB gs ls ts A T st p q V U = gs.all (fitB V U)) := by show _ = _; rw [fitsB, ← HR.out, ← HV.out, ← HU.out]; rfl
  have HO : Hid (gs.all FV.ok = true) := (rowB_g HR.out.symm).1
  obtain ⟨rfl, bV⟩ := okN_nat (c := 3) (by omega) HV.out.symm
  obtain ⟨rfl, bU⟩ := okN_nat (c := 2) (by omega) HU.out.symm
  have hg1 := (h.below n1.b).g
  have hV1 := hV.below n1.b
  have hU1 := hU.below n1.b
  clear h hV hU HR HV HU
  go_wp2_with fail
  go_loopw [8, 25] (fun _ i wr => ∃ k : Nat, k ≤ G ∧ i = .int .i64 k ∧ Below w2.heap.size w2 wr ∧ (gs.take k).all (fitB V U) = true) (fun _ i _ => G - (intOf i).toNat)
  case atStart => exact ⟨0, Nat.zero_le _, rfl, Below.refl _ _, by simp⟩
  case round =>
    clear c0 c1 c2 c3
    obtain ⟨k, hk, rfl, hb, hall⟩ := hrel
    have HA : Hid ((gs.take k).all (fitB V U) = true) := hall
    have nr := n1.below hb
    obtain ⟨c0, c1, c2, c3⟩ := nr.p.quad
    clear hall
    by_cases hlt : k < G
    · obtain ⟨b, off, rfl, e0, e1, e2, e3⟩ := (hg1.below hb) k (by rw [HG.out]; exact hlt)
      have hok := all_at (k := k) HO.out (by rw [HG.out]; exact hlt)
      generalize HGk : gs[k]?.getD noFV = f at *
      have HG' : Hid (gs[k]?.getD noFV = f) := HGk
      clear HGk hg1
      obtain ⟨fa, fn, fcap, fc, fm, fcap', fK, fC, fD⟩ := f
      obtain ⟨iC, iD, _, _⟩ := e3
      simp only at e0 e1 e2 iC iD
      obtain ⟨rfl, rfl, bC, bD, bK⟩ := formB_elim (show formB fn fm fC fD fK = true from hok)
      have HX : Hid (fitB V U (gs[k]?.getD noFV) = decide (0 ≤ atV fC fD fK V U)) := by show _ = _; rw [HG'.out]; rfl
      clear HG' hok
      generalize HXv : atV fC fD fK V U = x at *
      have hx : Hid (atV fC fD fK V U = x) := HXv
      clear HXv
      by_cases hneg : x < 0
      · go_wp2_with fail
        refine (iat_any _ _ _ _ _ fC fD _ _ _ _ V U _ (iC.alloc _) (iD.alloc _) ((hV1.below hb).alloc _) ((hU1.below hb).alloc _) bC bD bK bV bU).mono ?_
        rintro e w3 ⟨rfl, b3⟩
        rw [hx.out]
        have n3 := (nr.alloc _).below b3
        go_wp2
        go_ret
        exact ⟨ret_bool (by rw [HF.out, allP_no (k := k) (by rw [HG.out]; exact hlt) (by rw [HX.out]; simp; omega)]), n3.b⟩
      · have hx0 : 0 ≤ x := by omega
        go_wp2_with fail
        refine (iat_any _ _ _ _ _ fC fD _ _ _ _ V U _ (iC.alloc _) (iD.alloc _) ((hV1.below hb).alloc _) ((hU1.below hb).alloc _) bC bD bK bV bU).mono ?_
        rintro e w3 ⟨rfl, b3⟩
        rw [hx.out]
        have B3 : Below w2.heap.size w2 w3 := (hb.alloc hb.size _).trans (b3.mono (by have := hb.size; simp; omega))
        clear b3 hb iC iD e0 e1 e2 c0 c1 c2 c3
        go_wp2
        go_roundw
        case rel => exact ⟨k + 1, by omega, by go_num, B3, allP_take_succ (by rw [HG.out]; exact hlt) HA.out (by rw [HX.out]; simp; omega)⟩
        case measure => simp [intOf]; omega
    · go_wp2
      go_ret
      exact ⟨ret_bool (by rw [HF.out]; have := HA.out; rw [List.take_of_length_le (by rw [HG.out]; omega)] at this; exact this.symm), nr.b⟩

end Go.Proofs.Ytemcinobgdphnaa
