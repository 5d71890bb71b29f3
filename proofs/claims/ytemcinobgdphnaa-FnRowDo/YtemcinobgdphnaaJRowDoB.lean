/-
  Lemmas that the claim's last text rests on: DrRw, Fits, Do, Sum5, RowDoI, RowDoS, MarkS2, ResL, RunL, RunS, Leave, Leave2, Stops, RunI, FvL, RunC, DrAy, RunD.
-/
import Derived.Test.YtemcinobgdphnaaRowsS
import Derived.Test.YtemcinobgdphnaaRowsP
import Derived.Test.YtemcinobgdphnaaJRowDoA
import Derived.Test.YtemcinobgdphnaaTk
import Derived.RangeFuncRecord
import Derived.Deep.AppendLies
import Derived.Deep.DeepCutAuto
import Derived.Test.YtemcinobgdphnaaRow
import Derived.Test.YtemcinobgdphnaaOwn
import Derived.Test.YtemcinobgdphnaaKeyed
import Derived.Test.YtemcinobgdphnaaMade
import Derived.Test.YtemcinobgdphnaaAct
import Derived.Deep.RegionHeld3
import Derived.Laws.Pointers
import Derived.Defers
import Derived.Recover
namespace Go.Proofs.Ytemcinobgdphnaa
open Go.RowKit Go.Deep
set_option linter.unusedVariables false
set_option maxRecDepth 100000
set_option linter.unusedSimpArgs false

/-- Forms of any lengths, read whatever becomes of the blocks of S. -/
def GOff (W : World) (S : Nat → Prop) (a : Option Addr) (gs : List FV) : Prop := ∀ W', Touch S W W' → FormsG W' a gs
theorem GOff.touch {W W' : World} {S : Nat → Prop} {a : Option Addr} {gs : List FV} (h : GOff W S a gs) (t : Touch S W W') : GOff W' S a gs := fun W'' t' => h W'' (t.trans t')
theorem GOff.below {W W' : World} {S : Nat → Prop} {a : Option Addr} {gs : List FV} (h : GOff W S a gs) (b : Below W.heap.size W W') : GOff W' S a gs := h.touch (Touch.of b)
theorem GOff.mono {W : World} {S S' : Nat → Prop} {a : Option Addr} {gs : List FV} (h : GOff W S a gs) (hs : ∀ k, S' k → S k) : GOff W S' a gs := fun W' t => h W' (t.mono hs)
/-- What cells hold is what the forms are. -/
def Gcs (xs : List Value) (gs : List FV) (n : Nat) : Prop := gs.length = n ∧ ∀ i, i < n → xs[i * 3]? = some (.slice (gs[i]?.getD noFV).a (gs[i]?.getD noFV).n (gs[i]?.getD noFV).cap) ∧ xs[i * 3 + 1]? = some (.slice (gs[i]?.getD noFV).c (gs[i]?.getD noFV).m (gs[i]?.getD noFV).cap') ∧ xs[i * 3 + 2]? = some (.int .i64 (gs[i]?.getD noFV).K)
theorem TermsOk.gcs {W : World} {G : Nat} {xs : List Value} {fs : List Frm} {n : Nat} (h : TermsOk W G xs fs n) : ∀ k, k ≤ n → ∃ gs, Gcs xs gs k ∧ ∀ i, i < k → (gs[i]?.getD noFV).n = 3 ∧ (gs[i]?.getD noFV).m = 2 ∧ (gs[i]?.getD noFV).C = (fs[i]?.getD ([], [], 0)).1 ∧ (gs[i]?.getD noFV).D = (fs[i]?.getD ([], [], 0)).2.1
  | 0, _ => ⟨[], ⟨rfl, fun i hi => by omega⟩, fun i hi => by omega⟩
  | k + 1, hk => by
    obtain ⟨gs, ⟨hl, hg⟩, hf⟩ := h.gcs k (by omega)
    obtain ⟨a', c', ca, cc, e0, e1, e2, i1, i2, n1, n2⟩ := h k (by omega)
    refine ⟨gs ++ [⟨a', 3, ca, c', 2, cc, (fs[k]?.getD ([], [], 0)).2.2, (fs[k]?.getD ([], [], 0)).1, (fs[k]?.getD ([], [], 0)).2.1⟩], ⟨by rw [List.length_append, hl]; rfl, fun i hi => ?_⟩, fun i hi => ?_⟩
    · by_cases h1 : i < k
      · rw [List.getElem?_append_left (by omega)]; exact hg i h1
      · obtain rfl : i = k := by omega
        rw [List.getElem?_append_right (by omega), hl, Nat.sub_self]
        exact ⟨e0, e1, e2⟩
    · by_cases h1 : i < k
      · rw [List.getElem?_append_left (by omega)]; exact hf i h1
      · obtain rfl : i = k := by omega
        rw [List.getElem?_append_right (by omega), hl, Nat.sub_self]
        exact ⟨rfl, rfl, rfl, rfl⟩
/-- Forms whose cells are known, and whose terms are. -/
theorem Gcs.at {W : World} {G : Nat} {xs : List Value} {fs : List Frm} {n : Nat} {gs : List FV} (h : TermsOk W G xs fs n) (hc : Gcs xs gs n) (hf : ∀ i, i < n → (gs[i]?.getD noFV).n = 3 ∧ (gs[i]?.getD noFV).m = 2 ∧ (gs[i]?.getD noFV).C = (fs[i]?.getD ([], [], 0)).1 ∧ (gs[i]?.getD noFV).D = (fs[i]?.getD ([], [], 0)).2.1) : ∀ i, i < n → (gs[i]?.getD noFV).At W := fun i hi => by
  obtain ⟨a', c', ca, cc, e0, e1, e2, i1, i2, n1, n2⟩ := h i hi
  obtain ⟨g0, g1, g2⟩ := hc.2 i hi
  obtain ⟨f0, f1, f2, f3⟩ := hf i hi
  rw [e0] at g0
  rw [e1] at g1
  simp only [Option.some.injEq, Value.slice.injEq] at g0 g1
  refine ⟨?_, ?_, by omega, by omega⟩
  · rw [← g0.1, f0, f2]; exact i1
  · rw [← g1.1, f1, f3]; exact i2
theorem fown_g {W : World} {S : Nat → Prop} {a : Option Addr} {n cap : Nat} {fs : List Frm} (h : FOwn W S (.slice a n cap) n fs) : ∃ gs : List FV, gs.length = n ∧ GOff W S a gs := by
  obtain ⟨xs, h⟩ := h
  obtain ⟨o, G, hG, ht⟩ := h W (Touch.refl _ _)
  obtain ⟨gs, hc, hf⟩ := ht.gcs n (Nat.le_refl _)
  refine ⟨gs, hc.1, fun W' t i hi => ?_⟩
  have hi' : i < n := by rw [← hc.1]; exact hi
  obtain ⟨o', G', hG', ht'⟩ := h W' t
  obtain ⟨g0, g1, g2⟩ := hc.2 i hi'
  have hA := Gcs.at ht' hc hf i hi'
  rcases o'.2 with ⟨_, h0⟩ | ⟨g, cap', cur, e, hg, hh, _⟩
  · omega
  · rw [e] at o'
    simp only [Value.slice.injEq] at e
    obtain ⟨rfl, _, rfl⟩ := e
    refine ⟨g, 0, rfl, ?_, ?_, ?_, hA⟩
    · rw [own_cell o' _ (by omega), Nat.zero_add]; exact g0
    · rw [own_cell o' _ (by omega), Nat.zero_add]; exact g1
    · rw [own_cell o' _ (by omega), Nat.zero_add]; exact g2
/-- Terms read on, whatever becomes of their own row. -/
theorem terms_past {W W' : World} {S : Nat → Prop} {G n : Nat} {xs : List Value} {fs : List Frm} (h : ∀ W', Touch S W W' → TermsOk W' G xs fs n) (hG : G < W.heap.size) (t : Touch (fun k => S k ∨ k = G) W W') : TermsOk W' G xs fs n := by
  obtain ⟨o, ho⟩ : ∃ o, W.heap[G]? = some o := ⟨_, Array.getElem?_eq_getElem hG⟩
  have hG' : G < W'.heap.size := Nat.lt_of_lt_of_le hG t.size
  have t3 : Touch S W (W'.putObj G o) := ⟨t.os, t.tape, t.output, by simpa [World.putObj] using t.size, fun k hk hn => by
    by_cases e : k = G
    · subst e; rw [World.putObj_heap_same hG', ho]
    · rw [World.putObj_heap_other e]; exact t.block k hk (fun h => h.elim hn e)⟩
  have h3 := h _ t3
  intro i hi
  obtain ⟨a', c', ca, cc, e0, e1, e2, i1, i2, n1, n2⟩ := h3 i hi
  have past : ∀ {a : Option Addr} {m : Nat} {zs : List Int}, Ints (W'.putObj G o) a m zs → (∀ b o, a = some ⟨b, o, none⟩ → b ≠ G) → Ints W' a m zs := fun {a m zs} hI hn => ⟨hI.1, fun j hj => by
    obtain ⟨b, off, e, hc⟩ := hI.2 j hj
    refine ⟨b, off, e, ?_⟩
    rw [← hc]
    exact (World.cell?_of_block (World.putObj_heap_other (hn b off e))).symm⟩
  exact ⟨a', c', ca, cc, e0, e1, e2, past i1 n1, past i2 n2, n1, n2⟩
theorem grown_touch {W W' : World} {S : Nat → Prop} {r : Option Nat} (h : W.grownBy W' r) (hs : ∀ g, r = some g → S g) : Touch S W W' := ⟨h.os, h.tape, h.output, h.size, fun k hk hn => h.block k hk (fun e => hn (hs k e.symm))⟩
theorem offG {W W' : World} {S : Nat → Prop} {a : Option Addr} {n : Nat} {zs : List Int} (h : Ints W a n zs) (t : Touch S W W') (hn : ∀ b o, a = some ⟨b, o, none⟩ → ¬ S b) : Ints W' a n zs := h.offC hn t
/-- One form more behind forms that are their own; it may be of any lengths. -/
theorem fown_push {W : World} {S0 T : Nat → Prop} {a : Option Addr} {n cap : Nat} {fs : List Frm} (hF : FOwn W (fun k => S0 k ∨ T k) (.slice a n cap) n fs) (hB : ∀ g, (Value.slice a n cap).ownBlock = some g → ¬ S0 g) :
    ∃ xs, (∀ W1, Touch (S0) W W1 → W1.ownsRow 0 34 3 (.slice a n cap) n xs) ∧ ∀ (W1 W2 : World) (g cp H B1 nC cC B2 nD cD : Nat) (K : Int) (C D : List Int), Touch (S0) W W1 → W1.grownBy W2 (Value.slice a n cap).ownBlock → W2.ownsRow 0 34 3 (.slice (some ⟨g, 0, none⟩) (n + 1) cp) (n + 1) (xs ++ [.slice (some ⟨B1, 0, none⟩) nC cC, .slice (some ⟨B2, 0, none⟩) nD cD, .int .i64 K]) → (Value.slice a n cap).ownBlock = some g ∨ g = H → W1.heap.size = H → ¬ S0 H →
      Ints W1 (some ⟨B1, 0, none⟩) nC C → Ints W1 (some ⟨B2, 0, none⟩) nD D → nC ≤ 4 → nD ≤ 4 → W.heap.size ≤ B1 → B1 < H → W.heap.size ≤ B2 → B2 < H → ¬ S0 B1 → ¬ S0 B2 → ∃ gs : List FV, gs.length = n + 1 ∧ GOff W2 (S0) (some ⟨g, 0, none⟩) gs := by
  obtain ⟨xs, h⟩ := hF
  refine ⟨xs, fun W1 t => (h W1 (t.mono (fun k hk => Or.inl hk))).1, ?_⟩
  intro W1 W2 g cp H B1 nC cC B2 nD cD K C D t1 hgrow hown hat hH hBH i1 i2 hnC hnD p1 q1 p2 q2 hS1 hS2
  obtain ⟨o, G, hG, ht⟩ := h W (Touch.refl _ _)
  obtain ⟨gs, hc, hf⟩ := ht.gcs n (Nat.le_refl _)
  have hlen : xs.length = n * 3 := by have := o.1; omega
  have hgl : gs.length = n := hc.1
  have hgB : ¬ S0 g := by
    rcases hat with e | e
    · exact hB _ e
    · rw [e]; exact hBH
  have hlt : ∀ x, (Value.slice a n cap).ownBlock = some x → x < W.heap.size := fun x hx => by
    rcases o.2 with ⟨e, _⟩ | ⟨g', cap', cur, e, _, hh, _⟩
    · rw [e] at hx; cases hx
    · rw [e] at hx
      have : some g' = some x := hx
      simp only [Option.some.injEq] at this
      subst this
      exact lt_of_block hh
  refine ⟨gs ++ [⟨some ⟨B1, 0, none⟩, nC, cC, some ⟨B2, 0, none⟩, nD, cD, K, C, D⟩], by rw [List.length_append, hgl]; rfl, fun W3 t3 i hi => ?_⟩
  rw [List.length_append, hgl, List.length_singleton] at hi
  have o3 := own_off hown (fun z hz hs => by
    have : some g = some z := hz
    simp only [Option.some.injEq] at this
    rw [← this] at hs
    exact hgB hs) t3
  have T2 : Touch (fun k => S0 k ∨ (Value.slice a n cap).ownBlock = some k) W1 W3 := (grown_touch hgrow (fun z hz => Or.inr hz)).trans (t3.mono (fun k hk => Or.inl hk))
  by_cases hin : i < n
  · have TT : Touch (fun k => S0 k ∨ (Value.slice a n cap).ownBlock = some k) W W3 := (t1.mono (fun k hk => Or.inl hk)).trans T2
    rcases hG with hG | ⟨_, h0⟩
    · have t4 : TermsOk W3 G xs fs n := terms_past (S := S0) (fun W' t => by
        obtain ⟨_, G', hG', ht'⟩ := h W' (t.mono (fun k hk => Or.inl hk))
        rcases hG' with e | ⟨e, _⟩
        · rw [hG] at e; simp only [Option.some.injEq] at e; rw [e]; exact ht'
        · rw [hG] at e; cases e) (hlt G hG) (TT.mono (fun k hk => by
          rcases hk with hk | hk
          · exact Or.inl hk
          · exact Or.inr (by rw [hG] at hk; simp only [Option.some.injEq] at hk; exact hk.symm)))
      have hA := Gcs.at t4 hc hf i hin
      obtain ⟨g0, g1, g2⟩ := hc.2 i hin
      rw [List.getElem?_append_left (by omega)]
      refine ⟨g, 0, rfl, ?_, ?_, ?_, hA⟩
      · rw [own_cell o3 _ (by omega), Nat.zero_add, List.getElem?_append_left (by omega)]; exact g0
      · rw [own_cell o3 _ (by omega), Nat.zero_add, List.getElem?_append_left (by omega)]; exact g1
      · rw [own_cell o3 _ (by omega), Nat.zero_add, List.getElem?_append_left (by omega)]; exact g2
    · omega
  · obtain rfl : i = n := by omega
    rw [List.getElem?_append_right (by omega), hgl, Nat.sub_self]
    refine ⟨g, 0, rfl, ?_, ?_, ?_, ⟨offG i1 T2 (fun b o e hs => ?_), offG i2 T2 (fun b o e hs => ?_), show nC ≤ 1048576 by omega, show nD ≤ 1048576 by omega⟩⟩
    · rw [own_cell o3 _ (by omega), Nat.zero_add, List.getElem?_append_right (by omega), hlen, Nat.sub_self]; rfl
    · rw [own_cell o3 _ (by omega), Nat.zero_add, List.getElem?_append_right (by omega), hlen, Nat.add_sub_cancel_left]; rfl
    · rw [own_cell o3 _ (by omega), Nat.zero_add, List.getElem?_append_right (by omega), hlen, Nat.add_sub_cancel_left]; rfl
    · have e' : (some ⟨B1, 0, none⟩ : Option Addr) = some ⟨b, o, none⟩ := e
      simp only [Option.some.injEq, Addr.mk.injEq] at e'
      rcases hs with hs | hs
      · exact hS1 (e'.1 ▸ hs)
      · have := hlt _ hs; omega
    · have e' : (some ⟨B2, 0, none⟩ : Option Addr) = some ⟨b, o, none⟩ := e
      simp only [Option.some.injEq, Addr.mk.injEq] at e'
      rcases hs with hs | hs
      · exact hS2 (e'.1 ▸ hs)
      · have := hlt _ hs; omega
theorem fown_lo {W : World} {S : Nat → Prop} {v : Value} {n : Nat} {fs : List Frm} (h : FOwn W S v n fs) {g : Nat} (hg : v.ownBlock = some g) : ¬ S g := fun hs => by
  obtain ⟨xs, h⟩ := h
  obtain ⟨o, _⟩ := h W (Touch.refl _ _)
  have hl : g < W.heap.size := by
    rcases o.2 with ⟨e, _⟩ | ⟨g', cap', cur, e, _, hh, _⟩
    · rw [e] at hg; cases hg
    · rw [e] at hg
      have : some g' = some g := hg
      simp only [Option.some.injEq] at this
      subst this
      exact lt_of_block hh
  have t : Touch S W (W.putObj g (.deferred Option.none)) := ⟨rfl, rfl, rfl, by simp [World.putObj], fun k hk hn => by
    by_cases e : k = g
    · subst e; exact absurd hs hn
    · exact World.putObj_heap_other e⟩
  obtain ⟨o', _⟩ := h _ t
  rcases o'.2 with ⟨e, _⟩ | ⟨g', cap', cur, e, _, hh, _⟩
  · rw [e] at hg; cases hg
  · rw [e] at hg
    have : some g' = some g := hg
    simp only [Option.some.injEq] at this
    subst this
    rw [World.putObj_heap_same hl] at hh
    cases hh
theorem ownB_in {a : Option Addr} {n c k : Nat} (h : (Value.slice a n c).ownBlock = some k) : InB a k := by
  cases a with
  | none => cases h
  | some x =>
    obtain ⟨b, o, s⟩ := x
    have : some b = some k := h
    simp only [Option.some.injEq] at this
    subst this
    exact ⟨o, s, rfl⟩
theorem JR.row {w W : World} {G cap : Nat} {xs : List Value} {rs : List RowM} (h : JR w G cap xs rs W) {j : Nat} (hj : j < rs.length) : ∃ ga gc aa ac ta tc, W.cell? ⟨G, j * 4, none⟩ = some (.slice ga (rs[j]?.getD noR).guards.length gc) ∧ W.cell? ⟨G, j * 4 + 1, none⟩ = some (.slice aa (rs[j]?.getD noR).adds.length ac) ∧ W.cell? ⟨G, j * 4 + 2, none⟩ = some (.slice ta (rs[j]?.getD noR).tells.length tc) ∧ W.cell? ⟨G, j * 4 + 3, none⟩ = some (.bool (rs[j]?.getD noR).stop) ∧ RowOwn W (fun k => k < w.heap.size) ga gc aa ac ta tc (rs[j]?.getD noR) := by
  obtain ⟨ga, gc, aa, ac, ta, tc, e0, e1, e2, e3, f0, f1, f2⟩ := h.u j hj
  have c : ∀ k, k < 4 → W.cell? ⟨G, j * 4 + k, none⟩ = xs[j * 4 + k]? := fun k hk => by
    have := own_cell h.o (j * 4 + k) (by omega)
    exact this
  have m : ∀ {T : Nat → Prop} k, (k < w.heap.size ∨ T k) → ((k < w.heap.size ∨ k = G) ∨ T k) := fun k hk => by
    rcases hk with hk | hk
    · exact Or.inl (Or.inl hk)
    · exact Or.inr hk
  exact ⟨ga, gc, aa, ac, ta, tc, (c 0 (by omega)).trans e0, (c 1 (by omega)).trans e1, (c 2 (by omega)).trans e2, (c 3 (by omega)).trans e3, f0.mono m, f1.mono m, f2.mono m⟩
/-- A row was drawn. -/
structure RwN (w w' : World) (R : Nat) (a : Option Addr) (n cap : Nat) (bs : List Int) (p q : Int) (ga : Option Addr) (G : Nat) (gs : List FV) (aa : Option Addr) (A : Nat) (ls : List FV) (ta : Option Addr) (T : Nat) (ts : List FV) : Prop where
  t : Touch (fun x => x = R) w w'
  r : Rd w' R a n cap bs q
  g : GOff w' (fun k => k < w.heap.size) ga gs
  l : GOff w' (fun k => k < w.heap.size) aa ls
  s : GOff w' (fun k => k < w.heap.size) ta ts
  hg : gs.length = G
  hl : ls.length = A
  hs : ts.length = T
  zg : G ≤ 2000
  zl : A ≤ 2000
  zs : T ≤ 2000
  q0 : p ≤ q
  q1 : q ≤ p + 140
theorem RwN.at {w w' W : World} {R : Nat} {a : Option Addr} {n cap : Nat} {bs : List Int} {p q : Int} {ga : Option Addr} {G : Nat} {gs : List FV} {aa : Option Addr} {A : Nat} {ls : List FV} {ta : Option Addr} {T : Nat} {ts : List FV} (h : RwN w w' R a n cap bs p q ga G gs aa A ls ta T ts) (t : Touch (fun k => k < w.heap.size) w' W) : RowAt W ga G gs aa A ls ta T ts :=
  have h1 := h.zg
  have h2 := h.zl
  have h3 := h.zs
  ⟨h.g W t, h.l W t, h.s W t, h.hg, h.hl, h.hs, by omega, by omega, by omega⟩
theorem RwN.fin {w W : World} {R : Nat} {a : Option Addr} {n cap : Nat} {bs : List Int} {p q : Int} {ga : Option Addr} {G : Nat} {gs : List FV} {aa : Option Addr} {A : Nat} {ls : List FV} {ta : Option Addr} {T : Nat} {ts : List FV} (t : Touch (fun x => x = R) w W) (r : Rd W R a n cap bs q)
    (g : GOff W (fun k => k < w.heap.size + 1) ga gs) (l : GOff W (fun k => k < w.heap.size + 1) aa ls) (s : GOff W (fun k => k < w.heap.size + 1) ta ts) (hg : gs.length = G) (hl : ls.length = A) (hs : ts.length = T) (zg : G ≤ 2000) (zl : A ≤ 2000) (zs : T ≤ 2000) (q0 : p ≤ q) (q1 : q ≤ p + 140)
    (hR : R < w.heap.size) (ha : 0 < n → ∀ b o, a = some ⟨b, o, none⟩ → b < w.heap.size) (v0 v1 v2 v3 : Value) : RwN w ((((W.setCell ⟨w.heap.size, 0, none⟩ v0).setCell ⟨w.heap.size, 1, none⟩ v1).setCell ⟨w.heap.size, 2, none⟩ v2).setCell ⟨w.heap.size, 3, none⟩ v3) R a n cap bs p q ga G gs aa A ls ta T ts := by
  have f : 0 < n → ∀ b o, a = some ⟨b, o, none⟩ → b ≠ w.heap.size := fun h0 b o e => by have := ha h0 b o e; omega
  have T4 : Touch (fun k => k < w.heap.size + 1) W ((((W.setCell ⟨w.heap.size, 0, none⟩ v0).setCell ⟨w.heap.size, 1, none⟩ v1).setCell ⟨w.heap.size, 2, none⟩ v2).setCell ⟨w.heap.size, 3, none⟩ v3) :=
    Touch.setCell (Touch.setCell (Touch.setCell (Touch.setCell (S := fun k => k < w.heap.size + 1) (Touch.refl _ _) (Nat.lt_succ_self _) _) (Nat.lt_succ_self _) _) (Nat.lt_succ_self _) _) (Nat.lt_succ_self _) _
  have m : ∀ k, k < w.heap.size → k < w.heap.size + 1 := fun k h => by omega
  exact ⟨(((t.setNewF (Nat.le_refl _) 0 v0).setNewF (Nat.le_refl _) 1 v1).setNewF (Nat.le_refl _) 2 v2).setNewF (Nat.le_refl _) 3 v3, (((r.setNew (by omega) f 0 v0).setNew (by omega) f 1 v1).setNew (by omega) f 2 v2).setNew (by omega) f 3 v3, (g.touch T4).mono m, (l.touch T4).mono m, (s.touch T4).mono m, hg, hl, hs, zg, zl, zs, q0, q1⟩

set_option maxHeartbeats 12800000 in
theorem row_f (R : Nat) (a : Option Addr) (n cap : Nat) (bs : List Int) (p M : Int) (w : World) (hR : Rd w R a n cap bs p) (hp : 0 ≤ p) (hp1 : p ≤ 4000000) (hM : 1 ≤ M) (hM1 : M ≤ 1000) (ha : 0 < n → ∀ b o, a = some ⟨b, o, none⟩ → b < w.heap.size) :
    Calls Try.prog 29 #[.pointer (some ⟨R, 0, none⟩), .int .i64 M] w fun e w' => ∃ ga G gc gs aa A ac ls ta T tc ts st q, e = .returned (rowV ga G gc aa A ac ta T tc st) ∧ RwN w w' R a n cap bs p q ga G gs aa A ls ta T ts := by
  have hRl := hR.c.lt
  have B0 := (Below.refl w.heap.size w).alloc (Nat.le_refl _) (.cells #[.slice none 0 0, .slice none 0 0, .slice none 0 0, .bool false] 25)
  have rb := Cel.new w [.slice none 0 0, .slice none 0 0, .slice none 0 0, .bool false] 25
  obtain ⟨i0, hi, hz0, hz1, hz2⟩ := info_parts Try.infoForm
  go_enter Try.func29, Try.ntmps29
  go_wp2_with fail
  refine (act_f R a n cap bs p _ (hR.below B0) hp (by omega) (fun h0 b o e => by have := ha h0 b o e; rw [World.size_alloc]; omega)).mono ?_
  rintro e w1 ⟨ad, N, c, ls0, q1, rfl, jl, hN, hok, hq0, hq1⟩
  have TT := (Touch.of (S := fun x => x = R) B0).trans jl.t
  have rd := jl.r
  replace rb := rb.touch jl.t (by omega)
  have s1 := jl.t.size
  rw [World.size_alloc] at s1
  have hF := jl.g hN
  have hN8 : N ≤ 6 := (actB_parts hok).1
  have hfit := rowsL_fit (by omega) (actB_parts hok).2 hF
  obtain ⟨hr1, hr2, hr3, -⟩ := rowsL_few hN hok
  have h8 : 2 ^ tests ls0 ≤ 8 := Nat.le_trans (Nat.pow_le_pow_right (by omega) hr3) (by decide)
  go_wp2_with fail
  refine (srows_any ad N c ls0 _ hN hF (by omega)).mono ?_
  rintro e w2 ⟨G0, cp, xs, rfl, J⟩
  rw [rowsB, hok] at J ⊢
  simp only [if_true] at J ⊢
  replace TT := TT.trans (Touch.of J.b)
  replace rd := rd.below J.b
  replace rb := rb.below J.b
  have s2 := J.b.size
  obtain ⟨rs, hrs⟩ : ∃ rs, rs = rowsL ls0 := ⟨_, rfl⟩
  rw [← hrs] at J hfit hr1 hr2 ⊢
  obtain ⟨L, hL⟩ : ∃ L, L = rs.length := ⟨_, rfl⟩
  rw [← hL] at hr1 hr2 ⊢
  have HL : Hid (rs.length = L) := hL.symm
  clear jl hF B0 hR hok hN hrs hL
  go_wp2_with fail
  refine (pick_any R a n cap bs q1 (L : Int) _ rd (by omega) (by omega) (by omega) (by omega)).mono ?_
  rintro e w3 ⟨rj, hj0, hj1, rfl, t3, R3⟩
  obtain ⟨j, rfl⟩ := Int.eq_ofNat_of_zero_le hj0
  have hj : j < rs.length := by rw [HL.out]; omega
  obtain ⟨ga, gc, aa, ac, ta, tc, p0, p1, p2, p3, fo⟩ := J.row hj
  have hGl := J.lt
  have nR : G0 ≠ R := by omega
  have hnr := hfit _ (by rw [List.getElem?_eq_getElem hj]; exact List.getElem_mem _ : rs[j]?.getD noR ∈ rs)
  have k0 := (World.cell?_of_block (a := ⟨G0, j * 4, none⟩) (t3.block G0 hGl.2 nR)).trans p0
  have k1 := (World.cell?_of_block (a := ⟨G0, j * 4 + 1, none⟩) (t3.block G0 hGl.2 nR)).trans p1
  have k2 := (World.cell?_of_block (a := ⟨G0, j * 4 + 2, none⟩) (t3.block G0 hGl.2 nR)).trans p2
  have k3 := (World.cell?_of_block (a := ⟨G0, j * 4 + 3, none⟩) (t3.block G0 hGl.2 nR)).trans p3
  have fO : RowOwn w3 (fun k => k < w1.heap.size) ga gc aa ac ta tc (rs[j]?.getD noR) := ⟨fo.1.touch (t3.mono (fun k hk => Or.inl (by omega))), fo.2.1.touch (t3.mono (fun k hk => Or.inl (by omega))), fo.2.2.touch (t3.mono (fun k hk => Or.inl (by omega)))⟩
  have s3 := t3.size
  replace TT := TT.trans t3
  replace rb := rb.touch t3 (by omega)
  clear p0 p1 p2 p3 fo J hfit rd t3 hj0
  clear HL
  generalize rs[j]?.getD noR = r at *
  obtain ⟨rg, ra, rt, st⟩ := r
  dsimp only at k0 k1 k2 k3 hnr
  have zg : rg.length ≤ 1000 := hnr.lg
  have za : ra.length ≤ 3 := hnr.la
  have zt : rt.length ≤ 1000 := hnr.lt
  obtain ⟨o0, o1, o2⟩ := fO
  dsimp only at o0 o1 o2
  generalize rg.length = NG at *
  generalize ra.length = NA at *
  generalize rt.length = NT at *
  go_upto_region 3 with fail
  have al := (Below.refl w3.heap.size w3).alloc (Nat.le_refl _) (.cells #[.slice ga NG gc, .slice aa NA ac, .slice ta NT tc, .bool st] 25)
  have xb := Cel.new w3 [.slice ga NG gc, .slice aa NA ac, .slice ta NT tc, .bool st] 25
  replace rd := R3.below al
  replace rb := rb.below al
  replace TT := TT.trans (Touch.of al)
  replace o0 := o0.above.below al
  replace o1 := o1.above.below al
  replace o2 := o2.above.below al
  obtain ⟨X, hX⟩ : ∃ x, x = w3.heap.size := ⟨_, rfl⟩
  have s4 := al.size
  obtain ⟨W4, hW4⟩ : ∃ W, W = w3.alloc (.cells #[.slice ga NG gc, .slice aa NA ac, .slice ta NT tc, .bool st] 25) := ⟨_, rfl⟩
  rw [← hX, ← hW4]
  rw [← hX] at xb s3
  rw [← hW4] at al xb rd rb TT o0 o1 o2 s4
  clear al R3 k0 k1 k2 k3 hW4
  have xR : X ≠ R := by omega
  have xw : w.heap.size < X := by omega
  have xX : w3.heap.size ≤ X := by omega
  have xX2 : X ≤ w3.heap.size := by omega
  clear hX
  go_wp2_with fail
  refine (pick_any R a n cap bs (q1 + 1) M _ rd (by omega) (by omega) (by omega) (by omega)).mono ?_
  rintro e w5 ⟨u, u0, u1, rfl, t5, R5⟩
  replace TT := TT.trans t5
  replace rd := R5
  replace rb := rb.touch t5 (by omega)
  replace xb := xb.touch t5 xR
  replace o0 := o0.touch (t5.mono (fun k hk => Or.inl (Or.inl (by omega))))
  replace o1 := o1.touch (t5.mono (fun k hk => Or.inl (Or.inl (by omega))))
  replace o2 := o2.touch (t5.mono (fun k hk => Or.inl (Or.inl (by omega))))
  have s5 := t5.size
  clear t5 R5
  by_cases hu : 0 < u
  · obtain ⟨gs, hgL, hgO⟩ := fown_g o0
    replace hgO := hgO.mono (S' := fun k => k < w.heap.size + 1) (fun k hk => Or.inl (Or.inl (by omega)))
    obtain ⟨ls, hlL, hlO⟩ := fown_g o1
    replace hlO := hlO.mono (S' := fun k => k < w.heap.size + 1) (fun k hk => Or.inl (Or.inl (by omega)))
    obtain ⟨ts, hsL, hsO⟩ := fown_g o2
    replace hsO := hsO.mono (S' := fun k => k < w.heap.size + 1) (fun k hk => Or.inl (Or.inl (by omega)))
    have g0 := xb.cell 0
    have g1 := xb.cell 1
    have g2 := xb.cell 2
    have g3 := xb.cell 3
    have h0 := rb.cell 0
    have h1 := rb.cell 1
    have h2 := rb.cell 2
    have h3 := rb.cell 3
    simp only [List.getElem?_cons_zero, List.getElem?_cons_succ] at g0 g1 g2 g3 h0 h1 h2 h3
    have f0 := rb.free 0
    have f1 := rb.free 1
    have f2 := rb.free 2
    have f3 := rb.free 3
    have lr := rb.lt
    have hZ := fun v0 v1 v2 v3 => RwN.fin (p := p) TT rd hgO hlO hsO hgL hlL hsL (by omega) (by omega) (by omega) (by omega) (by omega) hRl ha v0 v1 v2 v3
    clear TT rd hgO hlO hsO
    go_wp2
    have u := ((((rb.set 0 (.slice ga NG gc)).set 1 (.slice aa NA ac)).set 2 (.slice ta NT tc)).set 3 (.bool st))
    obtain ⟨u0, u1, u2, u3⟩ := u.quad
    exact bodyPost_ret (v := rowV ga NG gc aa NA ac ta NT tc st) (by simp [results, Try.results29, go_sem, u0, u1, u2, u3]) rfl ⟨_, _, _, gs, _, _, _, ls, _, _, _, ts, _, _, rfl, hZ _ _ _ _⟩
  · obtain rfl : u = 0 := by omega
    clear hu u0 u1
    go_wp2_with fail
    refine (pick_any R a n cap bs (q1 + 1 + 1) 4 _ rd (by omega) (by omega) (by omega) (by omega)).mono ?_
    rintro e w6 ⟨s, z0, z1, rfl, t5, R5⟩
    replace TT := TT.trans t5
    replace rd := R5
    replace rb := rb.touch t5 (by omega)
    replace xb := xb.touch t5 xR
    replace o0 := o0.touch (t5.mono (fun k hk => Or.inl (Or.inl (by omega))))
    replace o1 := o1.touch (t5.mono (fun k hk => Or.inl (Or.inl (by omega))))
    replace o2 := o2.touch (t5.mono (fun k hk => Or.inl (Or.inl (by omega))))
    have s6 := t5.size
    clear t5 R5
    rcases (show s = 0 ∨ s = 1 ∨ s = 2 ∨ s = 3 from by omega) with rfl | rfl | rfl | rfl
    · have g3 := xb.cell 3
      have f3 := xb.free 3
      have lx := xb.lt
      simp only [List.getElem?_cons_zero, List.getElem?_cons_succ] at g3
      go_upto_region 13 with fail
      clear g3 f3
      have T7 : Touch (fun k => k = X) w6 (w6.setCell ⟨X, 3, none⟩ (.bool (!st))) := Touch.setCell (S := fun k => k = X) (Touch.refl _ _) rfl _
      replace TT := TT.setNewF (B := X) (by omega) 3 (.bool (!st))
      replace rd := rd.setNew (B := X) (by omega) (fun h0 b o e => by have := ha h0 b o e; omega) 3 (.bool (!st))
      replace rb := rb.setOther (B' := X) (by omega) 3 (.bool (!st))
      replace xb := xb.set 3 (.bool (!st))
      replace o0 := o0.touch (T7.mono (fun k hk => Or.inr (by omega)))
      replace o1 := o1.touch (T7.mono (fun k hk => Or.inr (by omega)))
      replace o2 := o2.touch (T7.mono (fun k hk => Or.inr (by omega)))
      clear T7
      simp only [List.set_cons_succ, List.set_cons_zero] at xb
      obtain ⟨gs, hgL, hgO⟩ := fown_g o0
      replace hgO := hgO.mono (S' := fun k => k < w.heap.size + 1) (fun k hk => Or.inl (Or.inl (by omega)))
      obtain ⟨ls, hlL, hlO⟩ := fown_g o1
      replace hlO := hlO.mono (S' := fun k => k < w.heap.size + 1) (fun k hk => Or.inl (Or.inl (by omega)))
      obtain ⟨ts, hsL, hsO⟩ := fown_g o2
      replace hsO := hsO.mono (S' := fun k => k < w.heap.size + 1) (fun k hk => Or.inl (Or.inl (by omega)))
      have g0 := xb.cell 0
      have g1 := xb.cell 1
      have g2 := xb.cell 2
      have g3 := xb.cell 3
      have h0 := rb.cell 0
      have h1 := rb.cell 1
      have h2 := rb.cell 2
      have h3 := rb.cell 3
      simp only [List.getElem?_cons_zero, List.getElem?_cons_succ] at g0 g1 g2 g3 h0 h1 h2 h3
      have f0 := rb.free 0
      have f1 := rb.free 1
      have f2 := rb.free 2
      have f3 := rb.free 3
      have lr := rb.lt
      have hZ := fun v0 v1 v2 v3 => RwN.fin (p := p) TT rd hgO hlO hsO hgL hlL hsL (by omega) (by omega) (by omega) (by omega) (by omega) hRl ha v0 v1 v2 v3
      clear TT rd hgO hlO hsO
      go_wp2
      have u := ((((rb.set 0 (.slice ga NG gc)).set 1 (.slice aa NA ac)).set 2 (.slice ta NT tc)).set 3 (.bool (!st)))
      obtain ⟨u0, u1, u2, u3⟩ := u.quad
      exact bodyPost_ret (v := rowV ga NG gc aa NA ac ta NT tc (!st)) (by simp [results, Try.results29, go_sem, u0, u1, u2, u3]) rfl ⟨_, _, _, gs, _, _, _, ls, _, _, _, ts, _, _, rfl, hZ _ _ _ _⟩
    · have hlow : ∀ k, (Value.slice aa NA ac).ownBlock = some k → w1.heap.size ≤ k ∧ k < w3.heap.size := fun k hk => by
        have h := fown_lo o1 hk
        constructor
        · exact Nat.le_of_not_lt (fun h2 => h (Or.inl (Or.inl h2)))
        · exact Nat.lt_of_not_le (fun h2 => h (Or.inr h2))
      obtain ⟨ys, hys, hpush⟩ := fown_push (S0 := fun k => k < w.heap.size + 1 ∨ k = X) (T := fun k => InB none k) (o1.mono (fun k hk => by
        rcases hk with (hk | hk) | ⟨_, _, hk⟩
        · exact Or.inl (Or.inl (by omega))
        · exact Or.inr (by omega)
        · cases hk)) (fun g hg hs => by
        have h := hlow g hg
        rcases hs with hs | hs <;> omega)
      have hown0 := hys w6 (Touch.refl _ _)
      have lX6 : X < w6.heap.size := xb.lt
      have gx : w6.cell? ⟨X, 1, none⟩ = some (.slice aa NA ac) := xb.cell 1
      go_upto_region 10 with fail
      refine wp_region_ends (fun _ => True) (fun Y => Y.cell? ⟨X, 1, none⟩ = some (.slice aa NA ac)) 6 (by kernel_rfl) ?_
      have dr : Below w6.heap.size w6 w6.drew := (Below.refl _ _).drew
      obtain ⟨V0, hV0⟩ : ∃ V, V = w6.drew := ⟨_, rfl⟩
      rw [← hV0] at dr ⊢
      clear hV0
      have Td : Touch (fun k => k < w.heap.size + 1 ∨ k = X) w6 V0 := Touch.of dr
      replace TT := TT.trans (Touch.of dr)
      replace rd := rd.below dr
      replace rb := rb.below dr
      replace xb := xb.below dr
      replace o0 := o0.below dr
      replace o1 := o1.below dr
      replace o2 := o2.below dr
      have sd := dr.size
      clear dr gx hown0
      have hSS : (fun _ : World => True) V0 ∧ (fun Y : World => Y.cell? ⟨X, 1, none⟩ = some (.slice aa NA ac)) V0 := ⟨trivial, xb.cell 1⟩
      refine tkL (i := 0) rfl hSS ?_
      refine tkM (i := 1) rfl rfl hSS ?_
      refine tkL (i := 2) rfl hSS ?_
      simp only [Act.put, List.setIfInBounds_toArray, List.set_cons_succ, List.set_cons_zero, List.getElem_toArray, List.getElem_cons_succ, List.getElem_cons_zero]
      refine wpAnyE_one (i := 3) (by kernel_rfl) rfl (fun Kn hK => ?_)
      go_simp
      refine (form_f R a n cap bs (q1 + 1 + 1 + 1) 2 _ rd (by omega) (by omega) (by omega) (by omega) rd.ha).mono ?_
      rintro ee w7 ⟨B1, nC, cC, B2, nD, cD, K, C, D, q6, rfl, fm⟩
      have t7 := fm.t
      have b1 := fm.b1
      have b2 := fm.b2
      have c4 := fm.c4
      have d4 := fm.d4
      have qa := fm.q0
      have qb := fm.q1
      have iC := fm.c
      have iD := fm.d
      have lC := iC.blk fm.c1
      have lD := iD.blk fm.d1
      have T7 := Td.trans (t7.mono (fun k hk => Or.inl (by omega)))
      replace TT := TT.trans t7
      replace rd := fm.r
      replace rb := rb.touch t7 (by omega)
      replace xb := xb.touch t7 xR
      replace o0 := o0.touch (t7.mono (fun k hk => Or.inl (Or.inl (by omega))))
      replace o1 := o1.touch (t7.mono (fun k hk => Or.inl (Or.inl (by omega))))
      replace o2 := o2.touch (t7.mono (fun k hk => Or.inl (Or.inl (by omega))))
      have s7 := t7.size
      clear fm t7 hSS Td
      (try dsimp only)
      refine hK.out _ _ ⟨trivial, fun _ => xb.cell 1⟩ ?_
      clear hK Kn
      refine wpAnyE_one (i := 4) (by kernel_rfl) rfl (fun Kn hK => ?_)
      go_simp
      have al := (Below.refl w7.heap.size w7).alloc (Nat.le_refl _) (.cells #[.slice (some ⟨B1, 0, none⟩) nC cC, .slice (some ⟨B2, 0, none⟩) nD cD, .int .i64 K] 34)
      have hnew := heap_alloc_new w7 (.cells #[.slice (some ⟨B1, 0, none⟩) nC cC, .slice (some ⟨B2, 0, none⟩) nD cD, .int .i64 K] 34)
      obtain ⟨w8, hw8⟩ : ∃ W, W = w7.alloc (.cells #[.slice (some ⟨B1, 0, none⟩) nC cC, .slice (some ⟨B2, 0, none⟩) nD cD, .int .i64 K] 34) := ⟨_, rfl⟩
      have s8 : w8.heap.size ≤ w7.heap.size + 1 := by rw [hw8, World.size_alloc]; omega
      have s8b : w7.heap.size < w8.heap.size := by rw [hw8, World.size_alloc]; omega
      rw [← hw8] at al hnew ⊢
      clear hw8
      replace T7 := T7.trans (Touch.of al)
      replace TT := TT.trans (Touch.of al)
      replace rd := rd.below al
      replace rb := rb.below al
      replace xb := xb.below al
      replace o0 := o0.below al
      replace o1 := o1.below al
      replace o2 := o2.below al
      replace iC := iC.below al
      replace iD := iD.below al
      clear al
      refine hK.out _ _ ⟨trivial, fun _ => xb.cell 1⟩ ?_
      clear hK Kn
      have hown := hys w8 T7
      refine wpAnyE_one (i := 5) (by kernel_rfl) rfl (fun Kn hK => ?_)
      rw [if_pos (by rfl)]
      refine wp_append_lies _ (.tmp 40) (.tmp 43) 23 rfl 0 34 i0 _ 3 56 Try.underlying23 hi hz0 hz1 hz2 rfl (by omega) (.slice aa NA ac) NA ys (by rfl) hown ⟨w7.heap.size, 0, none⟩ 1 1 [Value.slice (some ⟨B1, 0, none⟩) nC cC, Value.slice (some ⟨B2, 0, none⟩) nD cD, Value.int .i64 K] (by rfl) (by rfl) (World.news_of_block (cs := #[Value.slice (some ⟨B1, 0, none⟩) nC cC, Value.slice (some ⟨B2, 0, none⟩) nD cD, Value.int .i64 K]) (t := 34) (fr := (0, 0)) hnew) (by simp [Value.oneCell']) (by omega) (by unfold maxLen; omega) (by omega) (Nat.zero_le _) w8.heap.size rfl ?_
      intro g cp9 w9 hown9 hgrow hat hlt9
      have hO := hpush w8 w9 g cp9 w8.heap.size B1 nC cC B2 nD cD K C D T7 hgrow hown9 hat rfl (by omega) iC iD c4 d4 (by omega) (by omega) (by omega) (by omega) (by omega) (by omega)
      have tg : Touch (fun k => (Value.slice aa NA ac).ownBlock = some k) w8 w9 := grown_touch hgrow (fun z hz => hz)
      replace TT := TT.grown hgrow (fun z hz => by have := hlow z hz; omega)
      replace rd := rd.touch tg (fun h => by have := hlow _ h; omega) (fun h0 b o e h => by have := hlow _ h; have := ha h0 b o e; omega)
      replace rb := rb.grew hgrow (fun h => by have := hlow _ h; omega)
      replace xb := xb.grew hgrow (fun h => by have := hlow _ h; omega)
      replace o0 := o0.touch (tg.mono (fun k hk => Or.inl (Or.inr (Or.inl (ownB_in hk)))))
      replace o2 := o2.touch (tg.mono (fun k hk => Or.inl (Or.inr (Or.inr (ownB_in hk)))))
      obtain ⟨us, hul, huO⟩ := hO
      have s9 := hgrow.size
      clear tg hgrow hown9 hat hlt9 hown hpush hys iC iD T7 hnew
      refine hK.out _ _ ⟨trivial, fun _ => xb.cell 1⟩ ?_
      clear hK Kn
      refine wpAnyE_one (i := 6) (by kernel_rfl) rfl (fun Kn hK => ?_)
      go_simp
      refine hK.out _ _ ⟨trivial, fun h => absurd h (by decide)⟩ ?_
      clear hK Kn
      have gx := xb.cell 1
      have fx := xb.free 1
      simp only [List.getElem?_cons_zero, List.getElem?_cons_succ] at gx
      refine wpAnyE_one (i := 7) (by kernel_rfl) rfl (fun Kn hK => ?_)
      go_simp
      have T7 : Touch (fun k => k = X) w9 (w9.setCell ⟨X, 1, none⟩ (.slice (some ⟨g, 0, none⟩) (NA + 1) cp9)) := Touch.setCell (S := fun k => k = X) (Touch.refl _ _) rfl _
      replace TT := TT.setNewF (B := X) (by omega) 1 (.slice (some ⟨g, 0, none⟩) (NA + 1) cp9)
      replace rd := rd.setNew (B := X) (by omega) (fun h0 b o e => by have := ha h0 b o e; omega) 1 (.slice (some ⟨g, 0, none⟩) (NA + 1) cp9)
      replace rb := rb.setOther (B' := X) (by omega) 1 (.slice (some ⟨g, 0, none⟩) (NA + 1) cp9)
      replace xb := xb.set 1 (.slice (some ⟨g, 0, none⟩) (NA + 1) cp9)
      replace huO := huO.touch (T7.mono (fun k hk => Or.inr hk))
      replace o0 := o0.touch (T7.mono (fun k hk => Or.inr (by omega)))
      replace o2 := o2.touch (T7.mono (fun k hk => Or.inr (by omega)))
      clear T7 gx fx
      simp only [List.set_cons_succ, List.set_cons_zero] at xb
      refine hK.out _ _ ⟨trivial, fun h => absurd h (by decide)⟩ ?_
      clear hK Kn
      refine wpAnyE_done (by kernel_rfl) ?_ _
      replace huO := huO.mono (S' := fun k => k < w.heap.size + 1) (fun k hk => Or.inl hk)
      clear hlow o1
      obtain ⟨gs, hgL, hgO⟩ := fown_g o0
      replace hgO := hgO.mono (S' := fun k => k < w.heap.size + 1) (fun k hk => Or.inl (Or.inl (by omega)))
      obtain ⟨ts, hsL, hsO⟩ := fown_g o2
      replace hsO := hsO.mono (S' := fun k => k < w.heap.size + 1) (fun k hk => Or.inl (Or.inl (by omega)))
      have hlL := hul
      have hlO := huO
      clear hul huO
      have g0 := xb.cell 0
      have g1 := xb.cell 1
      have g2 := xb.cell 2
      have g3 := xb.cell 3
      have h0 := rb.cell 0
      have h1 := rb.cell 1
      have h2 := rb.cell 2
      have h3 := rb.cell 3
      simp only [List.getElem?_cons_zero, List.getElem?_cons_succ] at g0 g1 g2 g3 h0 h1 h2 h3
      have f0 := rb.free 0
      have f1 := rb.free 1
      have f2 := rb.free 2
      have f3 := rb.free 3
      have lr := rb.lt
      have hZ := fun v0 v1 v2 v3 => RwN.fin (p := p) TT rd hgO hlO hsO hgL hlL hsL (by omega) (by omega) (by omega) (by omega) (by omega) hRl ha v0 v1 v2 v3
      clear TT rd hgO hlO hsO
      go_wp2
      have u := ((((rb.set 0 (.slice ga NG gc)).set 1 (.slice (some ⟨g, 0, none⟩) (NA + 1) cp9)).set 2 (.slice ta NT tc)).set 3 (.bool st))
      obtain ⟨u0, u1, u2, u3⟩ := u.quad
      exact bodyPost_ret (v := rowV ga NG gc (some ⟨g, 0, none⟩) (NA + 1) cp9 ta NT tc st) (by simp [results, Try.results29, go_sem, u0, u1, u2, u3]) rfl ⟨_, _, _, gs, _, _, _, us, _, _, _, ts, _, _, rfl, hZ _ _ _ _⟩
    · have hlow : ∀ k, (Value.slice ga NG gc).ownBlock = some k → w1.heap.size ≤ k ∧ k < w3.heap.size := fun k hk => by
        have h := fown_lo o0 hk
        constructor
        · exact Nat.le_of_not_lt (fun h2 => h (Or.inl (Or.inl h2)))
        · exact Nat.lt_of_not_le (fun h2 => h (Or.inr h2))
      obtain ⟨ys, hys, hpush⟩ := fown_push (S0 := fun k => k < w.heap.size + 1 ∨ k = X) (T := fun k => InB none k) (o0.mono (fun k hk => by
        rcases hk with (hk | hk) | ⟨_, _, hk⟩
        · exact Or.inl (Or.inl (by omega))
        · exact Or.inr (by omega)
        · cases hk)) (fun g hg hs => by
        have h := hlow g hg
        rcases hs with hs | hs <;> omega)
      have hown0 := hys w6 (Touch.refl _ _)
      have lX6 : X < w6.heap.size := xb.lt
      have gx : w6.cell? ⟨X, 0, none⟩ = some (.slice ga NG gc) := xb.cell 0
      go_upto_region 12 with fail
      refine wp_region_ends (fun _ => True) (fun Y => Y.cell? ⟨X, 0, none⟩ = some (.slice ga NG gc)) 6 (by kernel_rfl) ?_
      have dr : Below w6.heap.size w6 w6.drew := (Below.refl _ _).drew
      obtain ⟨V0, hV0⟩ : ∃ V, V = w6.drew := ⟨_, rfl⟩
      rw [← hV0] at dr ⊢
      clear hV0
      have Td : Touch (fun k => k < w.heap.size + 1 ∨ k = X) w6 V0 := Touch.of dr
      replace TT := TT.trans (Touch.of dr)
      replace rd := rd.below dr
      replace rb := rb.below dr
      replace xb := xb.below dr
      replace o0 := o0.below dr
      replace o1 := o1.below dr
      replace o2 := o2.below dr
      have sd := dr.size
      clear dr gx hown0
      have hSS : (fun _ : World => True) V0 ∧ (fun Y : World => Y.cell? ⟨X, 0, none⟩ = some (.slice ga NG gc)) V0 := ⟨trivial, xb.cell 0⟩
      refine tkL (i := 0) rfl hSS ?_
      refine tkM (i := 1) rfl rfl hSS ?_
      refine tkL (i := 2) rfl hSS ?_
      simp only [Act.put, List.setIfInBounds_toArray, List.set_cons_succ, List.set_cons_zero, List.getElem_toArray, List.getElem_cons_succ, List.getElem_cons_zero]
      refine wpAnyE_one (i := 3) (by kernel_rfl) rfl (fun Kn hK => ?_)
      go_simp
      refine (form_f R a n cap bs (q1 + 1 + 1 + 1) 2 _ rd (by omega) (by omega) (by omega) (by omega) rd.ha).mono ?_
      rintro ee w7 ⟨B1, nC, cC, B2, nD, cD, K, C, D, q6, rfl, fm⟩
      have t7 := fm.t
      have b1 := fm.b1
      have b2 := fm.b2
      have c4 := fm.c4
      have d4 := fm.d4
      have qa := fm.q0
      have qb := fm.q1
      have iC := fm.c
      have iD := fm.d
      have lC := iC.blk fm.c1
      have lD := iD.blk fm.d1
      have T7 := Td.trans (t7.mono (fun k hk => Or.inl (by omega)))
      replace TT := TT.trans t7
      replace rd := fm.r
      replace rb := rb.touch t7 (by omega)
      replace xb := xb.touch t7 xR
      replace o0 := o0.touch (t7.mono (fun k hk => Or.inl (Or.inl (by omega))))
      replace o1 := o1.touch (t7.mono (fun k hk => Or.inl (Or.inl (by omega))))
      replace o2 := o2.touch (t7.mono (fun k hk => Or.inl (Or.inl (by omega))))
      have s7 := t7.size
      clear fm t7 hSS Td
      (try dsimp only)
      refine hK.out _ _ ⟨trivial, fun _ => xb.cell 0⟩ ?_
      clear hK Kn
      refine wpAnyE_one (i := 4) (by kernel_rfl) rfl (fun Kn hK => ?_)
      go_simp
      have al := (Below.refl w7.heap.size w7).alloc (Nat.le_refl _) (.cells #[.slice (some ⟨B1, 0, none⟩) nC cC, .slice (some ⟨B2, 0, none⟩) nD cD, .int .i64 K] 34)
      have hnew := heap_alloc_new w7 (.cells #[.slice (some ⟨B1, 0, none⟩) nC cC, .slice (some ⟨B2, 0, none⟩) nD cD, .int .i64 K] 34)
      obtain ⟨w8, hw8⟩ : ∃ W, W = w7.alloc (.cells #[.slice (some ⟨B1, 0, none⟩) nC cC, .slice (some ⟨B2, 0, none⟩) nD cD, .int .i64 K] 34) := ⟨_, rfl⟩
      have s8 : w8.heap.size ≤ w7.heap.size + 1 := by rw [hw8, World.size_alloc]; omega
      have s8b : w7.heap.size < w8.heap.size := by rw [hw8, World.size_alloc]; omega
      rw [← hw8] at al hnew ⊢
      clear hw8
      replace T7 := T7.trans (Touch.of al)
      replace TT := TT.trans (Touch.of al)
      replace rd := rd.below al
      replace rb := rb.below al
      replace xb := xb.below al
      replace o0 := o0.below al
      replace o1 := o1.below al
      replace o2 := o2.below al
      replace iC := iC.below al
      replace iD := iD.below al
      clear al
      refine hK.out _ _ ⟨trivial, fun _ => xb.cell 0⟩ ?_
      clear hK Kn
      have hown := hys w8 T7
      refine wpAnyE_one (i := 5) (by kernel_rfl) rfl (fun Kn hK => ?_)
      rw [if_pos (by rfl)]
      refine wp_append_lies _ (.tmp 49) (.tmp 52) 23 rfl 0 34 i0 _ 3 56 Try.underlying23 hi hz0 hz1 hz2 rfl (by omega) (.slice ga NG gc) NG ys (by rfl) hown ⟨w7.heap.size, 0, none⟩ 1 1 [Value.slice (some ⟨B1, 0, none⟩) nC cC, Value.slice (some ⟨B2, 0, none⟩) nD cD, Value.int .i64 K] (by rfl) (by rfl) (World.news_of_block (cs := #[Value.slice (some ⟨B1, 0, none⟩) nC cC, Value.slice (some ⟨B2, 0, none⟩) nD cD, Value.int .i64 K]) (t := 34) (fr := (0, 0)) hnew) (by simp [Value.oneCell']) (by omega) (by unfold maxLen; omega) (by omega) (Nat.zero_le _) w8.heap.size rfl ?_
      intro g cp9 w9 hown9 hgrow hat hlt9
      have hO := hpush w8 w9 g cp9 w8.heap.size B1 nC cC B2 nD cD K C D T7 hgrow hown9 hat rfl (by omega) iC iD c4 d4 (by omega) (by omega) (by omega) (by omega) (by omega) (by omega)
      have tg : Touch (fun k => (Value.slice ga NG gc).ownBlock = some k) w8 w9 := grown_touch hgrow (fun z hz => hz)
      replace TT := TT.grown hgrow (fun z hz => by have := hlow z hz; omega)
      replace rd := rd.touch tg (fun h => by have := hlow _ h; omega) (fun h0 b o e h => by have := hlow _ h; have := ha h0 b o e; omega)
      replace rb := rb.grew hgrow (fun h => by have := hlow _ h; omega)
      replace xb := xb.grew hgrow (fun h => by have := hlow _ h; omega)
      replace o1 := o1.touch (tg.mono (fun k hk => Or.inl (Or.inr (Or.inl (ownB_in hk)))))
      replace o2 := o2.touch (tg.mono (fun k hk => Or.inl (Or.inr (Or.inl (ownB_in hk)))))
      obtain ⟨us, hul, huO⟩ := hO
      have s9 := hgrow.size
      clear tg hgrow hown9 hat hlt9 hown hpush hys iC iD T7 hnew
      refine hK.out _ _ ⟨trivial, fun _ => xb.cell 0⟩ ?_
      clear hK Kn
      refine wpAnyE_one (i := 6) (by kernel_rfl) rfl (fun Kn hK => ?_)
      go_simp
      refine hK.out _ _ ⟨trivial, fun h => absurd h (by decide)⟩ ?_
      clear hK Kn
      have gx := xb.cell 0
      have fx := xb.free 0
      simp only [List.getElem?_cons_zero, List.getElem?_cons_succ] at gx
      refine wpAnyE_one (i := 7) (by kernel_rfl) rfl (fun Kn hK => ?_)
      go_simp
      have T7 : Touch (fun k => k = X) w9 (w9.setCell ⟨X, 0, none⟩ (.slice (some ⟨g, 0, none⟩) (NG + 1) cp9)) := Touch.setCell (S := fun k => k = X) (Touch.refl _ _) rfl _
      replace TT := TT.setNewF (B := X) (by omega) 0 (.slice (some ⟨g, 0, none⟩) (NG + 1) cp9)
      replace rd := rd.setNew (B := X) (by omega) (fun h0 b o e => by have := ha h0 b o e; omega) 0 (.slice (some ⟨g, 0, none⟩) (NG + 1) cp9)
      replace rb := rb.setOther (B' := X) (by omega) 0 (.slice (some ⟨g, 0, none⟩) (NG + 1) cp9)
      replace xb := xb.set 0 (.slice (some ⟨g, 0, none⟩) (NG + 1) cp9)
      replace huO := huO.touch (T7.mono (fun k hk => Or.inr hk))
      replace o1 := o1.touch (T7.mono (fun k hk => Or.inr (by omega)))
      replace o2 := o2.touch (T7.mono (fun k hk => Or.inr (by omega)))
      clear T7 gx fx
      simp only [List.set_cons_succ, List.set_cons_zero] at xb
      refine hK.out _ _ ⟨trivial, fun h => absurd h (by decide)⟩ ?_
      clear hK Kn
      refine wpAnyE_done (by kernel_rfl) ?_ _
      replace huO := huO.mono (S' := fun k => k < w.heap.size + 1) (fun k hk => Or.inl hk)
      clear hlow o0
      obtain ⟨ls, hlL, hlO⟩ := fown_g o1
      replace hlO := hlO.mono (S' := fun k => k < w.heap.size + 1) (fun k hk => Or.inl (Or.inl (by omega)))
      obtain ⟨ts, hsL, hsO⟩ := fown_g o2
      replace hsO := hsO.mono (S' := fun k => k < w.heap.size + 1) (fun k hk => Or.inl (Or.inl (by omega)))
      have hgL := hul
      have hgO := huO
      clear hul huO
      have g0 := xb.cell 0
      have g1 := xb.cell 1
      have g2 := xb.cell 2
      have g3 := xb.cell 3
      have h0 := rb.cell 0
      have h1 := rb.cell 1
      have h2 := rb.cell 2
      have h3 := rb.cell 3
      simp only [List.getElem?_cons_zero, List.getElem?_cons_succ] at g0 g1 g2 g3 h0 h1 h2 h3
      have f0 := rb.free 0
      have f1 := rb.free 1
      have f2 := rb.free 2
      have f3 := rb.free 3
      have lr := rb.lt
      have hZ := fun v0 v1 v2 v3 => RwN.fin (p := p) TT rd hgO hlO hsO hgL hlL hsL (by omega) (by omega) (by omega) (by omega) (by omega) hRl ha v0 v1 v2 v3
      clear TT rd hgO hlO hsO
      go_wp2
      have u := ((((rb.set 0 (.slice (some ⟨g, 0, none⟩) (NG + 1) cp9)).set 1 (.slice aa NA ac)).set 2 (.slice ta NT tc)).set 3 (.bool st))
      obtain ⟨u0, u1, u2, u3⟩ := u.quad
      exact bodyPost_ret (v := rowV (some ⟨g, 0, none⟩) (NG + 1) cp9 aa NA ac ta NT tc st) (by simp [results, Try.results29, go_sem, u0, u1, u2, u3]) rfl ⟨_, _, _, us, _, _, _, ls, _, _, _, ts, _, _, rfl, hZ _ _ _ _⟩
    · have hlow : ∀ k, (Value.slice ta NT tc).ownBlock = some k → w1.heap.size ≤ k ∧ k < w3.heap.size := fun k hk => by
        have h := fown_lo o2 hk
        constructor
        · exact Nat.le_of_not_lt (fun h2 => h (Or.inl (Or.inl h2)))
        · exact Nat.lt_of_not_le (fun h2 => h (Or.inr h2))
      obtain ⟨ys, hys, hpush⟩ := fown_push (S0 := fun k => k < w.heap.size + 1 ∨ k = X) (T := fun k => InB none k) (o2.mono (fun k hk => by
        rcases hk with (hk | hk) | ⟨_, _, hk⟩
        · exact Or.inl (Or.inl (by omega))
        · exact Or.inr (by omega)
        · cases hk)) (fun g hg hs => by
        have h := hlow g hg
        rcases hs with hs | hs <;> omega)
      have hown0 := hys w6 (Touch.refl _ _)
      have lX6 : X < w6.heap.size := xb.lt
      have gx : w6.cell? ⟨X, 2, none⟩ = some (.slice ta NT tc) := xb.cell 2
      go_upto_region 6 with fail
      refine wp_region_ends (fun _ => True) (fun Y => Y.cell? ⟨X, 2, none⟩ = some (.slice ta NT tc)) 6 (by kernel_rfl) ?_
      have dr : Below w6.heap.size w6 w6.drew := (Below.refl _ _).drew
      obtain ⟨V0, hV0⟩ : ∃ V, V = w6.drew := ⟨_, rfl⟩
      rw [← hV0] at dr ⊢
      clear hV0
      have Td : Touch (fun k => k < w.heap.size + 1 ∨ k = X) w6 V0 := Touch.of dr
      replace TT := TT.trans (Touch.of dr)
      replace rd := rd.below dr
      replace rb := rb.below dr
      replace xb := xb.below dr
      replace o0 := o0.below dr
      replace o1 := o1.below dr
      replace o2 := o2.below dr
      have sd := dr.size
      clear dr gx hown0
      have hSS : (fun _ : World => True) V0 ∧ (fun Y : World => Y.cell? ⟨X, 2, none⟩ = some (.slice ta NT tc)) V0 := ⟨trivial, xb.cell 2⟩
      refine tkL (i := 0) rfl hSS ?_
      refine tkM (i := 1) rfl rfl hSS ?_
      refine tkL (i := 2) rfl hSS ?_
      simp only [Act.put, List.setIfInBounds_toArray, List.set_cons_succ, List.set_cons_zero, List.getElem_toArray, List.getElem_cons_succ, List.getElem_cons_zero]
      refine wpAnyE_one (i := 3) (by kernel_rfl) rfl (fun Kn hK => ?_)
      go_simp
      refine (form_f R a n cap bs (q1 + 1 + 1 + 1) 2 _ rd (by omega) (by omega) (by omega) (by omega) rd.ha).mono ?_
      rintro ee w7 ⟨B1, nC, cC, B2, nD, cD, K, C, D, q6, rfl, fm⟩
      have t7 := fm.t
      have b1 := fm.b1
      have b2 := fm.b2
      have c4 := fm.c4
      have d4 := fm.d4
      have qa := fm.q0
      have qb := fm.q1
      have iC := fm.c
      have iD := fm.d
      have lC := iC.blk fm.c1
      have lD := iD.blk fm.d1
      have T7 := Td.trans (t7.mono (fun k hk => Or.inl (by omega)))
      replace TT := TT.trans t7
      replace rd := fm.r
      replace rb := rb.touch t7 (by omega)
      replace xb := xb.touch t7 xR
      replace o0 := o0.touch (t7.mono (fun k hk => Or.inl (Or.inl (by omega))))
      replace o1 := o1.touch (t7.mono (fun k hk => Or.inl (Or.inl (by omega))))
      replace o2 := o2.touch (t7.mono (fun k hk => Or.inl (Or.inl (by omega))))
      have s7 := t7.size
      clear fm t7 hSS Td
      (try dsimp only)
      refine hK.out _ _ ⟨trivial, fun _ => xb.cell 2⟩ ?_
      clear hK Kn
      refine wpAnyE_one (i := 4) (by kernel_rfl) rfl (fun Kn hK => ?_)
      go_simp
      have al := (Below.refl w7.heap.size w7).alloc (Nat.le_refl _) (.cells #[.slice (some ⟨B1, 0, none⟩) nC cC, .slice (some ⟨B2, 0, none⟩) nD cD, .int .i64 K] 34)
      have hnew := heap_alloc_new w7 (.cells #[.slice (some ⟨B1, 0, none⟩) nC cC, .slice (some ⟨B2, 0, none⟩) nD cD, .int .i64 K] 34)
      obtain ⟨w8, hw8⟩ : ∃ W, W = w7.alloc (.cells #[.slice (some ⟨B1, 0, none⟩) nC cC, .slice (some ⟨B2, 0, none⟩) nD cD, .int .i64 K] 34) := ⟨_, rfl⟩
      have s8 : w8.heap.size ≤ w7.heap.size + 1 := by rw [hw8, World.size_alloc]; omega
      have s8b : w7.heap.size < w8.heap.size := by rw [hw8, World.size_alloc]; omega
      rw [← hw8] at al hnew ⊢
      clear hw8
      replace T7 := T7.trans (Touch.of al)
      replace TT := TT.trans (Touch.of al)
      replace rd := rd.below al
      replace rb := rb.below al
      replace xb := xb.below al
      replace o0 := o0.below al
      replace o1 := o1.below al
      replace o2 := o2.below al
      replace iC := iC.below al
      replace iD := iD.below al
      clear al
      refine hK.out _ _ ⟨trivial, fun _ => xb.cell 2⟩ ?_
      clear hK Kn
      have hown := hys w8 T7
      refine wpAnyE_one (i := 5) (by kernel_rfl) rfl (fun Kn hK => ?_)
      rw [if_pos (by rfl)]
      refine wp_append_lies _ (.tmp 25) (.tmp 28) 23 rfl 0 34 i0 _ 3 56 Try.underlying23 hi hz0 hz1 hz2 rfl (by omega) (.slice ta NT tc) NT ys (by rfl) hown ⟨w7.heap.size, 0, none⟩ 1 1 [Value.slice (some ⟨B1, 0, none⟩) nC cC, Value.slice (some ⟨B2, 0, none⟩) nD cD, Value.int .i64 K] (by rfl) (by rfl) (World.news_of_block (cs := #[Value.slice (some ⟨B1, 0, none⟩) nC cC, Value.slice (some ⟨B2, 0, none⟩) nD cD, Value.int .i64 K]) (t := 34) (fr := (0, 0)) hnew) (by simp [Value.oneCell']) (by omega) (by unfold maxLen; omega) (by omega) (Nat.zero_le _) w8.heap.size rfl ?_
      intro g cp9 w9 hown9 hgrow hat hlt9
      have hO := hpush w8 w9 g cp9 w8.heap.size B1 nC cC B2 nD cD K C D T7 hgrow hown9 hat rfl (by omega) iC iD c4 d4 (by omega) (by omega) (by omega) (by omega) (by omega) (by omega)
      have tg : Touch (fun k => (Value.slice ta NT tc).ownBlock = some k) w8 w9 := grown_touch hgrow (fun z hz => hz)
      replace TT := TT.grown hgrow (fun z hz => by have := hlow z hz; omega)
      replace rd := rd.touch tg (fun h => by have := hlow _ h; omega) (fun h0 b o e h => by have := hlow _ h; have := ha h0 b o e; omega)
      replace rb := rb.grew hgrow (fun h => by have := hlow _ h; omega)
      replace xb := xb.grew hgrow (fun h => by have := hlow _ h; omega)
      replace o0 := o0.touch (tg.mono (fun k hk => Or.inl (Or.inr (Or.inr (ownB_in hk)))))
      replace o1 := o1.touch (tg.mono (fun k hk => Or.inl (Or.inr (Or.inr (ownB_in hk)))))
      obtain ⟨us, hul, huO⟩ := hO
      have s9 := hgrow.size
      clear tg hgrow hown9 hat hlt9 hown hpush hys iC iD T7 hnew
      refine hK.out _ _ ⟨trivial, fun _ => xb.cell 2⟩ ?_
      clear hK Kn
      refine wpAnyE_one (i := 6) (by kernel_rfl) rfl (fun Kn hK => ?_)
      go_simp
      refine hK.out _ _ ⟨trivial, fun h => absurd h (by decide)⟩ ?_
      clear hK Kn
      have gx := xb.cell 2
      have fx := xb.free 2
      simp only [List.getElem?_cons_zero, List.getElem?_cons_succ] at gx
      refine wpAnyE_one (i := 7) (by kernel_rfl) rfl (fun Kn hK => ?_)
      go_simp
      have T7 : Touch (fun k => k = X) w9 (w9.setCell ⟨X, 2, none⟩ (.slice (some ⟨g, 0, none⟩) (NT + 1) cp9)) := Touch.setCell (S := fun k => k = X) (Touch.refl _ _) rfl _
      replace TT := TT.setNewF (B := X) (by omega) 2 (.slice (some ⟨g, 0, none⟩) (NT + 1) cp9)
      replace rd := rd.setNew (B := X) (by omega) (fun h0 b o e => by have := ha h0 b o e; omega) 2 (.slice (some ⟨g, 0, none⟩) (NT + 1) cp9)
      replace rb := rb.setOther (B' := X) (by omega) 2 (.slice (some ⟨g, 0, none⟩) (NT + 1) cp9)
      replace xb := xb.set 2 (.slice (some ⟨g, 0, none⟩) (NT + 1) cp9)
      replace huO := huO.touch (T7.mono (fun k hk => Or.inr hk))
      replace o0 := o0.touch (T7.mono (fun k hk => Or.inr (by omega)))
      replace o1 := o1.touch (T7.mono (fun k hk => Or.inr (by omega)))
      clear T7 gx fx
      simp only [List.set_cons_succ, List.set_cons_zero] at xb
      refine hK.out _ _ ⟨trivial, fun h => absurd h (by decide)⟩ ?_
      clear hK Kn
      refine wpAnyE_done (by kernel_rfl) ?_ _
      replace huO := huO.mono (S' := fun k => k < w.heap.size + 1) (fun k hk => Or.inl hk)
      clear hlow o2
      obtain ⟨gs, hgL, hgO⟩ := fown_g o0
      replace hgO := hgO.mono (S' := fun k => k < w.heap.size + 1) (fun k hk => Or.inl (Or.inl (by omega)))
      obtain ⟨ls, hlL, hlO⟩ := fown_g o1
      replace hlO := hlO.mono (S' := fun k => k < w.heap.size + 1) (fun k hk => Or.inl (Or.inl (by omega)))
      have hsL := hul
      have hsO := huO
      clear hul huO
      have g0 := xb.cell 0
      have g1 := xb.cell 1
      have g2 := xb.cell 2
      have g3 := xb.cell 3
      have h0 := rb.cell 0
      have h1 := rb.cell 1
      have h2 := rb.cell 2
      have h3 := rb.cell 3
      simp only [List.getElem?_cons_zero, List.getElem?_cons_succ] at g0 g1 g2 g3 h0 h1 h2 h3
      have f0 := rb.free 0
      have f1 := rb.free 1
      have f2 := rb.free 2
      have f3 := rb.free 3
      have lr := rb.lt
      have hZ := fun v0 v1 v2 v3 => RwN.fin (p := p) TT rd hgO hlO hsO hgL hlL hsL (by omega) (by omega) (by omega) (by omega) (by omega) hRl ha v0 v1 v2 v3
      clear TT rd hgO hlO hsO
      go_wp2
      have u := ((((rb.set 0 (.slice ga NG gc)).set 1 (.slice aa NA ac)).set 2 (.slice (some ⟨g, 0, none⟩) (NT + 1) cp9)).set 3 (.bool st))
      obtain ⟨u0, u1, u2, u3⟩ := u.quad
      exact bodyPost_ret (v := rowV ga NG gc aa NA ac (some ⟨g, 0, none⟩) (NT + 1) cp9 st) (by simp [results, Try.results29, go_sem, u0, u1, u2, u3]) rfl ⟨_, _, _, gs, _, _, _, ls, _, _, _, us, _, _, rfl, hZ _ _ _ _⟩


set_option maxHeartbeats 3200000 in
theorem dRowFits (a : Option Addr) (n cap : Nat) (bs : List Int) (w : World) (h : BInts w a n bs) (hn : n ≤ cap) (hn1 : n ≤ 1048576) (hc : cap ≤ maxLen) :
    Calls Try.prog 6 #[.slice a n cap] w fun e w' => ∃ ga G gc gs aa A ac ls ta T tc ts st va p cv V ua q cu U, e = .returned (.tuple #[rowV ga G gc aa A ac ta T tc st, .slice va p cv, .slice ua q cu]) ∧ Below w.heap.size w w' ∧ (∀ W, Touch (fun k => k < w.heap.size) w' W → RowAt W ga G gs aa A ls ta T ts ∧ Ints W va p V ∧ Ints W ua q U) ∧ p ≤ 4 ∧ q ≤ 4 ∧ G ≤ 2000 ∧ A ≤ 2000 ∧ T ≤ 2000 := by
  have q0 := Cel.new w [.slice none 0 0, .slice none 0 0, .slice none 0 0, .bool false] 25
  have al := (Below.refl w.heap.size w).alloc (Nat.le_refl _) (.cells #[.slice none 0 0, .slice none 0 0, .slice none 0 0, .bool false] 25)
  go_enter Try.func6, Try.ntmps6
  go_wp2_with fail
  refine (open_any _ _ _ bs _ (h.below al) hn hn1 hc).mono ?_
  rintro e w1 ⟨R, n', cap2, bs', rfl, b1, hR, r1⟩
  rw [World.size_alloc] at hR
  have hRl := r1.c.lt
  replace q0 := q0.below b1
  go_wp2_with fail
  refine (row_f R a n' cap2 bs' 0 12 _ r1 (by omega) (by omega) (by omega) (by omega) r1.ha).mono ?_
  rintro e w2 ⟨ga, G, gc, gs, aa, A, ac, ls, ta, T, tc, ts, st, q, rfl, j⟩
  have u0 := j.q0
  have u1 := j.q1
  have zG := j.zg
  have zL := j.zl
  have zS := j.zs
  have hsz := j.t.size
  have BB := b1.trans (j.t.below (B := (w.alloc (.cells #[.slice none 0 0, .slice none 0 0, .slice none 0 0, .bool false] 25)).heap.size) (by have := b1.size; omega) (fun k hk => by rw [World.size_alloc]; omega))
  replace q0 := q0.touch j.t (by omega)
  go_wp2_with fail
  refine (vals_gen R a n' cap2 bs' q 16 _ j.r (by omega) (by omega) (by omega) (by omega) j.r.ha).mono ?_
  rintro e w3 ⟨va, vp, cv, V, q3, rfl, d3⟩
  have u2 := d3.q0
  have u3 := d3.q1
  have p3 := d3.h4
  have T3 := d3.t
  have hs3 := T3.size
  replace q0 := q0.touch d3.t (by omega)
  go_wp2_with fail
  refine (args_gen R a n' cap2 bs' q3 16 _ d3.r (by omega) (by omega) (by omega) (by omega) d3.r.ha).mono ?_
  rintro e w4 ⟨ua, uq, cu, U, q4, rfl, d4⟩
  have p4 := d4.h4
  replace q0 := q0.touch d4.t (by omega)
  replace T3 := T3.trans d4.t
  have hs4 := d4.t.size
  have hV := d3.i.off d4.t (fun b o e hs => by have := d3.lo b o e; omega)
  have hU := d4.i
  have loV := d3.lo
  have loU := d4.lo
  replace BB := BB.trans (T3.below (B := (w.alloc (.cells #[.slice none 0 0, .slice none 0 0, .slice none 0 0, .bool false] 25)).heap.size) (by have := BB.size; omega) (fun k hk => by rw [World.size_alloc]; omega))
  have BW : Below w.heap.size w w4 := al.trans (BB.mono (by rw [World.size_alloc]; omega))
  have hw1 := b1.size
  rw [World.size_alloc] at hw1
  have TZ : ∀ v0 v1 v2 v3, Touch (fun k => k < w1.heap.size) w2 ((((w4.setCell ⟨w.heap.size, 0, none⟩ v0).setCell ⟨w.heap.size, 1, none⟩ v1).setCell ⟨w.heap.size, 2, none⟩ v2).setCell ⟨w.heap.size, 3, none⟩ v3) := fun v0 v1 v2 v3 =>
    (T3.mono (fun k hk => by omega)).trans (Touch.setCell (Touch.setCell (Touch.setCell (Touch.setCell (S := fun k => k < w1.heap.size) (Touch.refl _ _) (show w.heap.size < w1.heap.size by omega) _) (show w.heap.size < w1.heap.size by omega) _) (show w.heap.size < w1.heap.size by omega) _) (show w.heap.size < w1.heap.size by omega) _)
  have hA : ∀ v0 v1 v2 v3 W, Touch (fun k => k < w.heap.size) ((((w4.setCell ⟨w.heap.size, 0, none⟩ v0).setCell ⟨w.heap.size, 1, none⟩ v1).setCell ⟨w.heap.size, 2, none⟩ v2).setCell ⟨w.heap.size, 3, none⟩ v3) W → RowAt W ga G gs aa A ls ta T ts := fun v0 v1 v2 v3 W t => j.at ((TZ v0 v1 v2 v3).trans (t.mono (fun k hk => by omega)))
  have mV : ∀ b o, va = some ⟨b, o, none⟩ → w.heap.size ≤ b := fun b o e => by have := loV b o e; omega
  have mU : ∀ b o, ua = some ⟨b, o, none⟩ → w.heap.size ≤ b := fun b o e => by have := loU b o e; omega
  have fV : ∀ b o, va = some ⟨b, o, none⟩ → b ≠ w.heap.size := fun b o e => by have := loV b o e; omega
  have fU : ∀ b o, ua = some ⟨b, o, none⟩ → b ≠ w.heap.size := fun b o e => by have := loU b o e; omega
  have g0 := q0.cell 0
  have g1 := q0.cell 1
  have g2 := q0.cell 2
  have g3 := q0.cell 3
  simp only [List.getElem?_cons_zero, List.getElem?_cons_succ] at g0 g1 g2 g3
  have f0 := q0.free 0
  have f1 := q0.free 1
  have f2 := q0.free 2
  have f3 := q0.free 3
  have lq := q0.lt
  clear r1 b1 d3 d4 j T3 BB TZ hs4 hs3 loV loU
  go_wp2
  have z := ((((q0.set 0 (.slice ga G gc)).set 1 (.slice aa A ac)).set 2 (.slice ta T tc)).set 3 (.bool st))
  obtain ⟨z0, z1, z2, z3⟩ := z.quad
  exact bodyPost_ret (v := .tuple #[rowV ga G gc aa A ac ta T tc st, .slice va vp cv, .slice ua uq cu]) (by simp [results, Try.results6, go_sem, z0, z1, z2, z3]) rfl
    ⟨ga, G, gc, gs, aa, A, ac, ls, ta, T, tc, ts, st, va, vp, cv, V, ua, uq, cu, U, rfl, (((BW.setCell (Nat.le_refl _) _).setCell (Nat.le_refl _) _).setCell (Nat.le_refl _) _).setCell (Nat.le_refl _) _, fun W t => ⟨hA _ _ _ _ W t, ((((hV.setFar fV 0 _).setFar fV 1 _).setFar fV 2 _).setFar fV 3 _).off t (fun b o e hs => by have := mV b o e; omega), ((((hU.setFar fU 0 _).setFar fU 1 _).setFar fU 2 _).setFar fU 3 _).off t (fun b o e hs => by have := mU b o e; omega)⟩, p3, p4, zG, zL, zS⟩

set_option maxHeartbeats 3200000 in
theorem dRowDo (a : Option Addr) (n cap : Nat) (bs : List Int) (w : World) (h : BInts w a n bs) (hn : n ≤ cap) (hn1 : n ≤ 1048576) (hc : cap ≤ maxLen) :
    Calls Try.prog 14 #[.slice a n cap] w fun e w' => ∃ ga G gc gs aa A ac ls ta T tc ts st va p cv V ua q cu U, e = .returned (.tuple #[rowV ga G gc aa A ac ta T tc st, .slice va p cv, .slice ua q cu]) ∧ Below w.heap.size w w' ∧ RowAt w' ga G gs aa A ls ta T ts ∧ Ints w' va p V ∧ Ints w' ua q U ∧ p ≤ 4 ∧ q ≤ 4 ∧ G ≤ 2000 ∧ A ≤ 2000 ∧ T ≤ 2000 := by
  have q0 := Cel.new w [.slice none 0 0, .slice none 0 0, .slice none 0 0, .bool false] 25
  have al := (Below.refl w.heap.size w).alloc (Nat.le_refl _) (.cells #[.slice none 0 0, .slice none 0 0, .slice none 0 0, .bool false] 25)
  go_enter Try.func14, Try.ntmps14
  go_wp2_with fail
  refine (dRowFits _ _ _ bs _ (h.below al) hn hn1 hc).mono ?_
  rintro e w1 ⟨ga, G, gc, gs, aa, A, ac, ls, ta, T, tc, ts, st, va, p, cv, V, ua, q, cu, U, rfl, b1, hA, hp, hq, zG, zL, zS⟩
  rw [World.size_alloc] at hA
  have BW : Below w.heap.size w w1 := al.trans (b1.mono (by rw [World.size_alloc]; omega))
  replace q0 := q0.below b1
  have g0 := q0.cell 0
  have g1 := q0.cell 1
  have g2 := q0.cell 2
  have g3 := q0.cell 3
  simp only [List.getElem?_cons_zero, List.getElem?_cons_succ] at g0 g1 g2 g3
  have f0 := q0.free 0
  have f1 := q0.free 1
  have f2 := q0.free 2
  have f3 := q0.free 3
  have lq := q0.lt
  have TZ : ∀ v0 v1 v2 v3, Touch (fun k => k < w.heap.size + 1) w1 ((((w1.setCell ⟨w.heap.size, 0, none⟩ v0).setCell ⟨w.heap.size, 1, none⟩ v1).setCell ⟨w.heap.size, 2, none⟩ v2).setCell ⟨w.heap.size, 3, none⟩ v3) := fun v0 v1 v2 v3 =>
    Touch.setCell (Touch.setCell (Touch.setCell (Touch.setCell (S := fun k => k < w.heap.size + 1) (Touch.refl _ _) (Nat.lt_succ_self _) _) (Nat.lt_succ_self _) _) (Nat.lt_succ_self _) _) (Nat.lt_succ_self _) _
  have hZ := fun v0 v1 v2 v3 => hA _ (TZ v0 v1 v2 v3)
  clear hA b1 TZ
  go_wp2
  have z := ((((q0.set 0 (.slice ga G gc)).set 1 (.slice aa A ac)).set 2 (.slice ta T tc)).set 3 (.bool st))
  obtain ⟨z0, z1, z2, z3⟩ := z.quad
  exact bodyPost_ret (v := .tuple #[rowV ga G gc aa A ac ta T tc st, .slice va p cv, .slice ua q cu]) (by simp [results, Try.results14, go_sem, z0, z1, z2, z3]) rfl
    ⟨ga, G, gc, gs, aa, A, ac, ls, ta, T, tc, ts, st, va, p, cv, V, ua, q, cu, U, rfl, (((BW.setCell (Nat.le_refl _) _).setCell (Nat.le_refl _) _).setCell (Nat.le_refl _) _).setCell (Nat.le_refl _) _, (hZ _ _ _ _).1, (hZ _ _ _ _).2.1, (hZ _ _ _ _).2.2, hp, hq, zG, zL, zS⟩

end Go.Proofs.Ytemcinobgdphnaa
namespace Go.Proofs.Ytemcinobgdphnaa
open Go.RowKit
set_option linter.unusedVariables false
set_option maxRecDepth 100000

/-- A guard holds. -/
def fitB (V A : List Int) (f : FV) : Bool := decide (0 ≤ atV f.C f.D f.K V A)
def fitsB (gs ls ts : List FV) (a t : Nat) (st : Bool) (p q : Nat) (V A : List Int) : Bool := rowB gs ls ts a t st && okN 3 10000 p V && okN 2 9 q A && gs.all (fitB V A)

theorem allP_take_succ {P : FV → Bool} {fs : List FV} {k : Nat} (h : k < fs.length) (h1 : (fs.take k).all P = true) (h2 : P (fs[k]?.getD noFV) = true) : (fs.take (k + 1)).all P = true := by
  rw [List.take_succ_eq_append_getElem h, List.all_append, h1]
  rw [List.getElem?_eq_getElem h] at h2
  simpa using h2
theorem allP_no {P : FV → Bool} {fs : List FV} {k : Nat} (h : k < fs.length) (h2 : P (fs[k]?.getD noFV) = false) : fs.all P = false := by
  rw [List.all_eq_false]
  rw [List.getElem?_eq_getElem h] at h2
  exact ⟨fs[k], List.getElem_mem h, by simpa using h2⟩
theorem all_at {fs : List FV} {k : Nat} (h : fs.all FV.ok = true) (hk : k < fs.length) : (fs[k]?.getD noFV).ok = true := by
  rw [List.getElem?_eq_getElem hk]
  exact List.all_eq_true.1 h _ (List.getElem_mem hk)
theorem rowB_g {gs ls ts : List FV} {a t : Nat} {st : Bool} (h : rowB gs ls ts a t st = true) : gs.all FV.ok = true ∧ ls.all FV.ok = true ∧ ts.all FV.ok = true := by
  simp only [rowB, Bool.and_eq_true] at h
  exact ⟨h.1.1.1, h.1.1.2, h.1.2⟩
theorem okN_nat {c : Nat} {m : Int} {n : Nat} {zs : List Int} (hm : 0 ≤ m) (h : okN c m n zs = true) : n = c ∧ bnd m zs := by
  obtain ⟨h1, h2⟩ := okN_elim hm h
  exact ⟨by omega, h2⟩

set_option maxHeartbeats 3200000 in
theorem sfits_any (g : Option Addr) (G cg : Nat) (gs : List FV) (a : Option Addr) (A ca : Nat) (ls : List FV) (t : Option Addr) (T ct : Nat) (ts : List FV) (st : Bool) (v : Option Addr) (p cv : Nat) (V : List Int) (u : Option Addr) (q cu : Nat) (U : List Int) (w : World) (h : RowAt w g G gs a A ls t T ts) (hV : Ints w v p V) (hU : Ints w u q U) (hp : p ≤ 1048576) (hq : q ≤ 1048576) :
    Calls Try.prog 12 #[rowV g G cg a A ca t T ct st, .slice v p cv, .slice u q cu] w fun e w' => e = .returned (.bool (fitsB gs ls ts A T st p q V U)) ∧ Below w.heap.size w w' := by
  have n0 := BX.new w [.slice g G cg, .slice a A ca, .slice t T ct, .bool st] 25
  have zg := h.zg
  have HG : Hid (gs.length = G) := h.hg
  obtain ⟨rb, hrb⟩ : ∃ rb, rb = rowB gs ls ts A T st := ⟨_, rfl⟩
  obtain ⟨vb, hvb⟩ : ∃ vb, vb = okN 3 10000 p V := ⟨_, rfl⟩
  obtain ⟨ub, hub⟩ : ∃ ub, ub = okN 2 9 q U := ⟨_, rfl⟩
  have HR : Hid (rb = rowB gs ls ts A T st) := hrb
  have HV : Hid (vb = okN 3 10000 p V) := hvb
  have HU : Hid (ub = okN 2 9 q U) := hub
  clear hrb hvb hub
  go_enter Try.func12, Try.ntmps12
  go_wp2_with fail
  refine (srow_any _ _ _ gs _ _ _ ls _ _ _ ts _ _ (h.alloc _)).mono ?_
  rintro e w1 ⟨rfl, b1⟩
  have n1 := n0.below b1
  rw [← HR.out]
  clear n0 b1
  obtain ⟨c0, c1, c2, c3⟩ := n1.p.quad
  cases rb
  · go_wp2
    go_ret
    exact ⟨ret_bool (by rw [fitsB, ← HR.out]; rfl), n1.b⟩
  go_wp2_with fail
  refine (sval_any _ _ _ V _ (hV.below n1.b) hp).mono ?_
  rintro e w2 ⟨rfl, rfl⟩
  rw [← HV.out]
  cases vb
  · go_wp2
    go_ret
    exact ⟨ret_bool (by rw [fitsB, ← HR.out, ← HV.out]; rfl), n1.b⟩
  go_wp2_with fail
  refine (sarg_any _ _ _ U _ (hU.below n1.b) hq).mono ?_
  rintro e w2 ⟨rfl, rfl⟩
  rw [← HU.out]
  cases ub
  · go_wp2
    go_ret
    exact ⟨ret_bool (by rw [fitsB, ← HR.out, ← HV.out, ← HU.out]; rfl), n1.b⟩
  have HF : Hid (fitsB gs ls ts A T st p q V U = gs.all (fitB V U)) := by show _ = _; rw [fitsB, ← HR.out, ← HV.out, ← HU.out]; rfl
  have HO : Hid (gs.all FV.ok = true) := (rowB_g HR.out.symm).1
  obtain ⟨rfl, bV⟩ := okN_nat (c := 3) (by omega) HV.out.symm
  obtain ⟨rfl, bU⟩ := okN_nat (c := 2) (by omega) HU.out.symm
  have hg1 := (h.below n1.b).g
  have hV1 := hV.below n1.b
  have hU1 := hU.below n1.b
  clear h hV hU HR HV HU
  go_wp2_with fail
  go_loopw [7] (fun  i wr => ∃ k : Nat, k ≤ G ∧ i = .int .i64 k ∧ Below w2.heap.size w2 wr ∧ (gs.take k).all (fitB V U) = true) (fun  i _ => G - (intOf i).toNat)
  case atStart => exact ⟨0, Nat.zero_le _, rfl, Below.refl _ _, by simp⟩
  case round =>
    clear c0 c1 c2 c3
    obtain ⟨k, hk, rfl, hb, hall⟩ := hrel
    have HA : Hid ((gs.take k).all (fitB V U) = true) := hall
    have nr := n1.below hb
    obtain ⟨c0, c1, c2, c3⟩ := nr.p.quad
    clear hall
    by_cases hlt : k < G
    · obtain ⟨b, off, rfl, e0, e1, e2, e3⟩ := (hg1.below hb) k (by rw [HG.out]; exact hlt)
      have hok := all_at (k := k) HO.out (by rw [HG.out]; exact hlt)
      generalize HGk : gs[k]?.getD noFV = f at *
      have HG' : Hid (gs[k]?.getD noFV = f) := HGk
      clear HGk hg1
      obtain ⟨fa, fn, fcap, fc, fm, fcap', fK, fC, fD⟩ := f
      obtain ⟨iC, iD, _, _⟩ := e3
      simp only at e0 e1 e2 iC iD
      obtain ⟨rfl, rfl, bC, bD, bK⟩ := formB_elim (show formB fn fm fC fD fK = true from hok)
      have HX : Hid (fitB V U (gs[k]?.getD noFV) = decide (0 ≤ atV fC fD fK V U)) := by show _ = _; rw [HG'.out]; rfl
      clear HG' hok
      generalize HXv : atV fC fD fK V U = x at *
      have hx : Hid (atV fC fD fK V U = x) := HXv
      clear HXv
      by_cases hneg : x < 0
      · go_wp2_with fail
        refine (sat_any _ _ _ _ _ fC fD _ _ _ _ V U _ iC iD (hV1.below hb) (hU1.below hb) bC bD bK bV bU).mono ?_
        rintro e w3 ⟨rfl, b3⟩
        rw [hx.out]
        have n3 := nr.below b3
        go_wp2
        go_ret
        exact ⟨ret_bool (by rw [HF.out, allP_no (k := k) (by rw [HG.out]; exact hlt) (by rw [HX.out]; simp; omega)]), n3.b⟩
      · have hx0 : 0 ≤ x := by omega
        go_wp2_with fail
        refine (sat_any _ _ _ _ _ fC fD _ _ _ _ V U _ iC iD (hV1.below hb) (hU1.below hb) bC bD bK bV bU).mono ?_
        rintro e w3 ⟨rfl, b3⟩
        rw [hx.out]
        have B3 : Below w2.heap.size w2 w3 := hb.trans (b3.mono hb.size)
        clear b3 hb iC iD e0 e1 e2 c0 c1 c2 c3
        go_wp2
        go_roundw
        case rel => exact ⟨k + 1, by omega, by go_num, B3, allP_take_succ (by rw [HG.out]; exact hlt) HA.out (by rw [HX.out]; simp; omega)⟩
        case measure => simp [intOf]; omega
    · go_wp2
      go_ret
      exact ⟨ret_bool (by rw [HF.out]; have := HA.out; rw [List.take_of_length_le (by rw [HG.out]; omega)] at this; exact this.symm), nr.b⟩

set_option maxHeartbeats 3200000 in
theorem ifits_any (g : Option Addr) (G cg : Nat) (gs : List FV) (a : Option Addr) (A ca : Nat) (ls : List FV) (t : Option Addr) (T ct : Nat) (ts : List FV) (st : Bool) (v : Option Addr) (p cv : Nat) (V : List Int) (u : Option Addr) (q cu : Nat) (U : List Int) (w : World) (h : RowAt w g G gs a A ls t T ts) (hV : Ints w v p V) (hU : Ints w u q U) (hp : p ≤ 1048576) (hq : q ≤ 1048576) :
    Calls Try.prog 11 #[rowV g G cg a A ca t T ct st, .slice v p cv, .slice u q cu] w fun e w' => e = .returned (.bool (fitsB gs ls ts A T st p q V U)) ∧ Below w.heap.size w w' := by
  have n0 := BX.new w [.slice g G cg, .slice a A ca, .slice t T ct, .bool st] 25
  have zg := h.zg
  have HG : Hid (gs.length = G) := h.hg
  obtain ⟨rb, hrb⟩ : ∃ rb, rb = rowB gs ls ts A T st := ⟨_, rfl⟩
  obtain ⟨vb, hvb⟩ : ∃ vb, vb = okN 3 10000 p V := ⟨_, rfl⟩
  obtain ⟨ub, hub⟩ : ∃ ub, ub = okN 2 9 q U := ⟨_, rfl⟩
  have HR : Hid (rb = rowB gs ls ts A T st) := hrb
  have HV : Hid (vb = okN 3 10000 p V) := hvb
  have HU : Hid (ub = okN 2 9 q U) := hub
  clear hrb hvb hub
  go_enter Try.func11, Try.ntmps11
  go_wp2_with fail
  refine (irow_any _ _ _ gs _ _ _ ls _ _ _ ts _ _ (h.alloc _)).mono ?_
  rintro e w1 ⟨rfl, b1⟩
  have n1 := n0.below b1
  rw [← HR.out]
  clear n0 b1
  obtain ⟨c0, c1, c2, c3⟩ := n1.p.quad
  cases rb
  · go_wp2
    go_ret
    exact ⟨ret_bool (by rw [fitsB, ← HR.out]; rfl), n1.b⟩
  go_wp2_with fail
  refine (ival_any _ _ _ V _ (hV.below n1.b) hp).mono ?_
  rintro e w2 ⟨rfl, rfl⟩
  rw [← HV.out]
  cases vb
  · go_wp2
    go_ret
    exact ⟨ret_bool (by rw [fitsB, ← HR.out, ← HV.out]; rfl), n1.b⟩
  go_wp2_with fail
  refine (iarg_any _ _ _ U _ (hU.below n1.b) hq).mono ?_
  rintro e w2 ⟨rfl, rfl⟩
  rw [← HU.out]
  cases ub
  · go_wp2
    go_ret
    exact ⟨ret_bool (by rw [fitsB, ← HR.out, ← HV.out, ← HU.out]; rfl), n1.b⟩
  have HF : Hid (fitsB gs ls ts A T st p q V U = gs.all (fitB V U)) := by show _ = _; rw [fitsB, ← HR.out, ← HV.out, ← HU.out]; rfl
  have HO : Hid (gs.all FV.ok = true) := (rowB_g HR.out.symm).1
  obtain ⟨rfl, bV⟩ := okN_nat (c := 3) (by omega) HV.out.symm
  obtain ⟨rfl, bU⟩ := okN_nat (c := 2) (by omega) HU.out.symm
  have hg1 := (h.below n1.b).g
  have hV1 := hV.below n1.b
  have hU1 := hU.below n1.b
  clear h hV hU HR HV HU
  go_wp2_with fail
  go_loopw [8, 25] (fun _ i wr => ∃ k : Nat, k ≤ G ∧ i = .int .i64 k ∧ Below w2.heap.size w2 wr ∧ (gs.take k).all (fitB V U) = true) (fun _ i _ => G - (intOf i).toNat)
  case atStart => exact ⟨0, Nat.zero_le _, rfl, Below.refl _ _, by simp⟩
  case round =>
    clear c0 c1 c2 c3
    obtain ⟨k, hk, rfl, hb, hall⟩ := hrel
    have HA : Hid ((gs.take k).all (fitB V U) = true) := hall
    have nr := n1.below hb
    obtain ⟨c0, c1, c2, c3⟩ := nr.p.quad
    clear hall
    by_cases hlt : k < G
    · obtain ⟨b, off, rfl, e0, e1, e2, e3⟩ := (hg1.below hb) k (by rw [HG.out]; exact hlt)
      have hok := all_at (k := k) HO.out (by rw [HG.out]; exact hlt)
      generalize HGk : gs[k]?.getD noFV = f at *
      have HG' : Hid (gs[k]?.getD noFV = f) := HGk
      clear HGk hg1
      obtain ⟨fa, fn, fcap, fc, fm, fcap', fK, fC, fD⟩ := f
      obtain ⟨iC, iD, _, _⟩ := e3
      simp only at e0 e1 e2 iC iD
      obtain ⟨rfl, rfl, bC, bD, bK⟩ := formB_elim (show formB fn fm fC fD fK = true from hok)
      have HX : Hid (fitB V U (gs[k]?.getD noFV) = decide (0 ≤ atV fC fD fK V U)) := by show _ = _; rw [HG'.out]; rfl
      clear HG' hok
      generalize HXv : atV fC fD fK V U = x at *
      have hx : Hid (atV fC fD fK V U = x) := HXv
      clear HXv
      by_cases hneg : x < 0
      · go_wp2_with fail
        refine (iat_any _ _ _ _ _ fC fD _ _ _ _ V U _ (iC.alloc _) (iD.alloc _) ((hV1.below hb).alloc _) ((hU1.below hb).alloc _) bC bD bK bV bU).mono ?_
        rintro e w3 ⟨rfl, b3⟩
        rw [hx.out]
        have n3 := (nr.alloc _).below b3
        go_wp2
        go_ret
        exact ⟨ret_bool (by rw [HF.out, allP_no (k := k) (by rw [HG.out]; exact hlt) (by rw [HX.out]; simp; omega)]), n3.b⟩
      · have hx0 : 0 ≤ x := by omega
        go_wp2_with fail
        refine (iat_any _ _ _ _ _ fC fD _ _ _ _ V U _ (iC.alloc _) (iD.alloc _) ((hV1.below hb).alloc _) ((hU1.below hb).alloc _) bC bD bK bV bU).mono ?_
        rintro e w3 ⟨rfl, b3⟩
        rw [hx.out]
        have B3 : Below w2.heap.size w2 w3 := (hb.alloc hb.size _).trans (b3.mono (by have := hb.size; simp; omega))
        clear b3 hb iC iD e0 e1 e2 c0 c1 c2 c3
        go_wp2
        go_roundw
        case rel => exact ⟨k + 1, by omega, by go_num, B3, allP_take_succ (by rw [HG.out]; exact hlt) HA.out (by rw [HX.out]; simp; omega)⟩
        case measure => simp [intOf]; omega
    · go_wp2
      go_ret
      exact ⟨ret_bool (by rw [HF.out]; have := HA.out; rw [List.take_of_length_le (by rw [HG.out]; omega)] at this; exact this.symm), nr.b⟩

end Go.Proofs.Ytemcinobgdphnaa
namespace Go.Proofs.Ytemcinobgdphnaa
open Go.RowKit
set_option linter.unusedVariables false
set_option maxRecDepth 100000

/-- What a form is. -/
def atF (V U : List Int) (f : FV) : Int := atV f.C f.D f.K V U
theorem atF_bnd {V U : List Int} {f : FV} (h : f.ok = true) (bV : bnd 10000 V) (bU : bnd 9 U) : -1000000000000 ≤ atF V U f ∧ atF V U f ≤ 1000000000000 := by
  obtain ⟨_, _, bC, bD, k1, k2⟩ := formB_elim (show formB f.n f.m f.C f.D f.K = true from h)
  have h1 := dot_bnd (bndP_of bC bV (by omega) (by omega)) 3
  have h2 := dot_bnd (bndP_of bD bU (by omega) (by omega)) 2
  unfold atF atV
  omega
theorem ats_bnd {V U : List Int} {fs : List FV} (h : fs.all FV.ok = true) (bV : bnd 10000 V) (bU : bnd 9 U) : bnd 1000000000000 (fs.map (atF V U)) := fun i => by
  by_cases hi : i < fs.length
  · have := atF_bnd (List.all_eq_true.1 h _ (List.getElem_mem hi)) bV bU
    rw [List.getElem?_map, List.getElem?_eq_getElem hi]
    simpa using this
  · rw [List.getElem?_eq_none (by simp; omega)]
    simp

set_option maxHeartbeats 1600000 in
theorem formsAt_any (ad : Option Addr) (N cap : Nat) (fs : List FV) (v : Option Addr) (cv : Nat) (u : Option Addr) (cu : Nat) (V U : List Int) (w : World) (hN : fs.length = N) (hF : FormsG w ad fs) (hN1 : N ≤ 1048576) (hok : fs.all FV.ok = true) (hV : Ints w v 3 V) (hU : Ints w u 2 U) (bV : bnd 10000 V) (bU : bnd 9 U) :
    Calls Try.prog 42 #[.slice ad N cap, .slice v 3 cv, .slice u 2 cu] w fun e w' => ∃ r, e = .returned r ∧ JA w r (fs.map (atF V U)) w' := by
  have HN : Hid (fs.length = N) := hN
  have HO : Hid (fs.all FV.ok = true) := hok
  clear hN hok
  obtain ⟨i0, hi, hz0, hz1, hz2⟩ := info_parts Try.infoInt
  go_enter Try.func42, Try.ntmps42
  go_wp2_with fail
  go_loopw [7, 9, 12] (fun r _ i wr => ∃ k : Nat, k ≤ N ∧ i = .int .i64 k ∧ ∃ xs : List Int, xs.length = k ∧ xs = (fs.take k).map (atF V U) ∧ JA w r xs wr) (fun _ _ i _ => N - (intOf i).toNat)
  case atStart => exact ⟨0, Nat.zero_le _, rfl, [], rfl, rfl, JA.nil w⟩
  case round =>
    obtain ⟨k, hk, rfl, xs, hxl, hxs, j⟩ := hrel
    have HL : Hid (xs.length = k) := hxl
    have HXS : Hid (xs = (fs.take k).map (atF V U)) := hxs
    clear hxl hxs
    by_cases hlt : k < N
    · obtain ⟨b, off, rfl, e0, e1, e2, e3⟩ := (hF.below j.b) k (by rw [HN.out]; exact hlt)
      have hok := all_at (k := k) HO.out (by rw [HN.out]; exact hlt)
      have HP : Hid ((fs.take (k + 1)).map (atF V U) = (fs.take k).map (atF V U) ++ [atF V U (fs[k]?.getD noFV)]) := by
        have hl : k < fs.length := by rw [HN.out]; exact hlt
        show _ = _
        rw [List.take_succ_eq_append_getElem hl, List.map_append, List.getElem?_eq_getElem hl]; rfl
      generalize HG : fs[k]?.getD noFV = f at *
      clear HG hF
      obtain ⟨fa, fn, fcap, fc, fm, fcap', fK, fC, fD⟩ := f
      obtain ⟨iC, iD, _, _⟩ := e3
      simp only at e0 e1 e2 iC iD
      obtain ⟨rfl, rfl, bC, bD, bK⟩ := formB_elim (show formB fn fm fC fD fK = true from hok)
      clear hok
      obtain ⟨x, hx⟩ : ∃ x, atV fC fD fK V U = x := ⟨_, rfl⟩
      have HX : Hid (atV fC fD fK V U = x) := hx
      have HP2 : Hid (xs ++ [x] = (fs.take (k + 1)).map (atF V U)) := by show _ = _; rw [HP.out, HXS.out, ← hx]; rfl
      clear hx
      have hjb := j.b
      go_wp2_with fail
      refine (iat_any _ _ _ _ _ fC fD _ _ _ _ V U _ (iC.alloc _) (iD.alloc _) ((hV.below hjb).alloc _) ((hU.below hjb).alloc _) bC bD bK bV bU).mono ?_
      rintro e w3 ⟨rfl, b3⟩
      rw [HX.out]
      have j3 := (j.alloc _).below b3
      have jo := j3.o
      rw [HL.out] at jo
      have hj3 := j3.b.size
      clear b3 iC iD e0 e1 e2 j hjb
      go_wp2_with (at_builtin; go_must (refine wpList_append_lies _ rfl (.tmp 16) (.tmp 21) 26 rfl w.heap.size 3 i0 (.int .i64 0) 1 8 Try.underlying26 hi hz0 hz1 hz2 rfl (by decide) _ _ _ rfl (jo.alloc _) ⟨w3.heap.size, 0, none⟩ 1 1 [.int .i64 x] rfl rfl (news1 _ _ _) (one1 _ _) (by omega) (by unfold maxLen; omega) (by omega) (by rw [World.size_alloc]; omega) _ rfl ?_); intro g cp w4 hown hgrow hat hlt1)
      have j4 := j3.app HL.out hown hgrow
      clear hown hgrow jo j3 hat
      go_wp2
      go_roundw
      case rel => exact ⟨k + 1, by omega, by go_num, _, by rw [List.length_append, HL.out]; rfl, HP2.out, j4⟩
      case measure => simp [intOf]; omega
    · have HT : Hid (xs = fs.map (atF V U)) := by show xs = _; rw [HXS.out, List.take_of_length_le (by rw [HN.out]; omega)]
      go_wp2
      go_ret
      exact ⟨_, rfl, by rw [← HT.out]; exact j⟩

/-- What an act came to, as a value. -/
abbrev resV (code : Int) (a : Option Addr) (n cap : Nat) : Value := .agg #[.int .i64 code, .slice a n cap]
/-- What a call has made: a code, what is told, what the pots have then; in new memory. -/
def ResD (w w' : World) (e : Ending) (code : Int) (tl pl : List Int) : Prop :=
  ∃ a n cap B1 b m cap' B2, e = .returned (.tuple #[resV code a n cap, .slice b m cap']) ∧ tl.length = n ∧ pl.length = m ∧ Below w.heap.size w w' ∧ OwnX w' a B1 n tl ∧ OwnX w' b B2 m pl ∧ (0 < n → w.heap.size ≤ B1) ∧ (0 < m → w.heap.size ≤ B2) ∧ (0 < n → 0 < m → B1 ≠ B2)
def endCode (P : List Int) : Int := if okN 3 10000 3 P then 1 else 3
def endTells (P T : List Int) : List Int := if okN 3 10000 3 P then T else []
def endPots (V P : List Int) : List Int := if okN 3 10000 3 P then P else V

set_option maxHeartbeats 1600000 in
theorem done_any (v : Option Addr) (cv : Nat) (p : Option Addr) (cp B2 : Nat) (t : Option Addr) (n ct B1 : Nat) (V P T : List Int) (w : World) (hV : Ints w v 3 V) (hP : OwnX w p B2 3 P) (hT : OwnX w t B1 n T) (hne : 0 < n → B1 ≠ B2) (lo : Nat) (h1 : 0 < n → lo ≤ B1) (h2 : lo ≤ B2) (hlo : lo ≤ w.heap.size) :
    Calls Try.prog 43 #[.slice v 3 cv, .slice p 3 cp, .slice t n ct] w fun e w' => ∃ a n' cap B1' b m cap' B2', e = .returned (.tuple #[resV (endCode P) a n' cap, .slice b m cap']) ∧ (endTells P T).length = n' ∧ (endPots V P).length = m ∧ Below w.heap.size w w' ∧ OwnX w' a B1' n' (endTells P T) ∧ OwnX w' b B2' m (endPots V P) ∧ (0 < n' → lo ≤ B1') ∧ (0 < m → lo ≤ B2') ∧ (0 < n' → 0 < m → B1' ≠ B2') := by
  have l1 : 0 < n → B1 < w.heap.size := fun h => hT.lt h
  have l2 : B2 < w.heap.size := hP.lt (by omega)
  obtain ⟨i0, hi, hz0, hz1, hz2⟩ := info_parts Try.infoInt
  have al : Below w.heap.size w (w.alloc (.cells #[.int .i64 0, .slice none 0 0] 38)) := (Below.refl _ _).alloc (Nat.le_refl _) _
  cases hok : okN 3 10000 3 P
  · have e1 : endCode P = 3 := by rw [endCode, hok]; rfl
    have e2 : endTells P T = [] := by rw [endTells, hok]; rfl
    have e3 : endPots V P = V := by rw [endPots, hok]; rfl
    rw [e1, e2, e3]
    clear e1 e2 e3
    go_enter Try.func43, Try.ntmps43
    go_wp2_with fail
    refine (ival_any _ _ _ P _ (hP.alloc _).ints (by omega)).mono ?_
    rintro e w1 ⟨rfl, hw1⟩
    rw [hok, hw1]
    clear hw1
    go_wp2_with fail
    refine (clone_any _ _ _ V _ (hV.alloc _) (by omega) (by omega)).mono ?_
    rintro e w2 ⟨r, rfl, j⟩
    have rc := (Cel.new w [.int .i64 0, .slice none 0 0] 38).below j.b
    obtain ⟨a, cap, B, rfl, hX, hB⟩ := j.ownx hV.1
    rw [World.size_alloc] at hB
    have bb := al.trans (j.b.mono al.size)
    have r0 := rc.cell 0
    have r1 := rc.cell 1
    have f0 := rc.free 0
    have f1 := rc.free 1
    simp only [List.getElem?_cons_zero, List.getElem?_cons_succ] at r0 r1
    have hlt := rc.lt
    clear rc j
    go_wp2
    refine bodyPost_ret (v := .tuple #[resV 3 none 0 0, .slice a 3 cap]) (by simp [results, Try.results43, go_sem, r0, r1]) rfl ⟨none, 0, 0, 0, a, 3, cap, B, rfl, rfl, hV.1, ?_, OwnX.nil _ _ _, ?_, fun h => by omega, fun h => by have := hB h; omega, fun h => by omega⟩
    · exact (bb.setCell (Nat.le_refl _) _).setCell (Nat.le_refl _) _
    · exact (hX.setOther (fun h => by have := hB h; omega) _ _).setOther (fun h => by have := hB h; omega) _ _
  · have e1 : endCode P = 1 := by rw [endCode, hok]; rfl
    have e2 : endTells P T = T := by rw [endTells, hok]; rfl
    have e3 : endPots V P = P := by rw [endPots, hok]; rfl
    rw [e1, e2, e3]
    clear e1 e2 e3
    go_enter Try.func43, Try.ntmps43
    go_wp2_with fail
    refine (ival_any _ _ _ P _ (hP.alloc _).ints (by omega)).mono ?_
    rintro e w1 ⟨rfl, hw1⟩
    rw [hok, hw1]
    clear hw1
    go_wp2
    refine bodyPost_ret (v := .tuple #[resV 1 t n ct, .slice p 3 cp]) (by simp [results, Try.results43, go_sem]) rfl ⟨t, n, ct, B1, p, 3, cp, B2, rfl, hT.1, hP.1, ?_, ?_, ?_, h1, fun _ => h2, fun h _ => hne h⟩
    · first | exact (Below.refl _ _).alloc (Nat.le_refl _) _ | exact (((Below.refl _ _).alloc (Nat.le_refl _) _).setCell (Nat.le_refl _) _).setCell (Nat.le_refl _) _
    · first | exact hT.alloc _ | exact ((hT.alloc _).setOther (fun h => by have := l1 h; omega) _ _).setOther (fun h => by have := l1 h; omega) _ _
    · first | exact hP.alloc _ | exact ((hP.alloc _).setOther (fun h => by omega) _ _).setOther (fun h => by omega) _ _

set_option maxHeartbeats 1600000 in
theorem end_any (v : Option Addr) (cv : Nat) (p : Option Addr) (cp B2 : Nat) (t : Option Addr) (n ct B1 : Nat) (V P T : List Int) (w : World) (hV : Ints w v 3 V) (hP : OwnX w p B2 3 P) (hT : OwnX w t B1 n T) (hne : 0 < n → B1 ≠ B2) (lo : Nat) (h1 : 0 < n → lo ≤ B1) (h2 : lo ≤ B2) (hlo : lo ≤ w.heap.size) :
    Calls Try.prog 44 #[.slice v 3 cv, .slice p 3 cp, .slice t n ct] w fun e w' => ∃ a n' cap B1' b m cap' B2', e = .returned (.tuple #[resV (endCode P) a n' cap, .slice b m cap']) ∧ (endTells P T).length = n' ∧ (endPots V P).length = m ∧ Below w.heap.size w w' ∧ OwnX w' a B1' n' (endTells P T) ∧ OwnX w' b B2' m (endPots V P) ∧ (0 < n' → lo ≤ B1') ∧ (0 < m → lo ≤ B2') ∧ (0 < n' → 0 < m → B1' ≠ B2') := by
  have l1 : 0 < n → B1 < w.heap.size := fun h => hT.lt h
  have l2 : B2 < w.heap.size := hP.lt (by omega)
  obtain ⟨i0, hi, hz0, hz1, hz2⟩ := info_parts Try.infoInt
  have al : Below w.heap.size w (w.alloc (.cells #[.int .i64 0, .slice none 0 0] 38)) := (Below.refl _ _).alloc (Nat.le_refl _) _
  cases hok : okN 3 10000 3 P
  · have e1 : endCode P = 3 := by rw [endCode, hok]; rfl
    have e2 : endTells P T = [] := by rw [endTells, hok]; rfl
    have e3 : endPots V P = V := by rw [endPots, hok]; rfl
    rw [e1, e2, e3]
    clear e1 e2 e3
    go_enter Try.func44, Try.ntmps44
    go_wp2_with fail
    refine (sval_any _ _ _ P _ (hP.alloc _).ints (by omega)).mono ?_
    rintro e w1 ⟨rfl, hw1⟩
    rw [hok]
    have rc0 : Cel w1 w.heap.size [.int .i64 0, .slice none 0 0] 38 := by rw [hw1]; exact Cel.new w _ _
    have b0 : Below w.heap.size w w1 := by rw [hw1]; exact al
    have hV1 := hV.below b0
    have hlt := rc0.lt
    clear hw1 al
    obtain ⟨vb, vo, rfl, hcell⟩ := hV1.pos (by omega)
    have hcl : ∀ i, i < 3 → (w1.alloc (.cells #[] 3)).cell? ⟨vb, vo + i, none⟩ = some (.int .i64 (V.getD i 0)) := fun i hi => by
      rw [((Below.refl w1.heap.size w1).alloc (Nat.le_refl _) _).cell (p := ⟨vb, vo + i, none⟩) (block_lt (hcell i hi))]; exact hcell i hi
    have HC : Hid _ := newsI hcl hV.1
    have HL : Hid ((V.map (Value.int .i64)).length = 3 * 1) := by show _ = _; rw [List.length_map, hV.1]
    have HJ : Hid _ := (JA.lit w1).o
    clear hcl hcell
    go_wp2_with (at_builtin; go_must (refine wpList_append_lies _ rfl (.tmp 12) (.tmp 13) 26 rfl w1.heap.size 3 i0 (.int .i64 0) 1 8 Try.underlying26 hi hz0 hz1 hz2 rfl (by decide) _ 0 [] rfl HJ.out ⟨vb, vo, none⟩ 3 cv (V.map (Value.int .i64)) rfl HL.out HC.out (oneI _) (by omega) (by unfold maxLen; omega) (by omega) (by rw [World.size_alloc]; omega) _ rfl ?_); intro g cp2 w2 hown hgrow hat hlt1; have j := JA.copied hV.1 hown hgrow; have rc := rc0.below j.b; have r0 := rc.cell 0; have r1 := rc.cell 1; have f0 := rc.free 0; have f1 := rc.free 1; simp only [List.getElem?_cons_zero, List.getElem?_cons_succ] at r0 r1; have hlt2 := rc.lt; clear hown hgrow hat)
    obtain ⟨a, cap, B, hv2, hX, hB⟩ := j.ownx hV.1
    simp only [Value.slice.injEq, true_and] at hv2
    obtain ⟨rfl, rfl⟩ := hv2
    have bb := b0.trans (j.b.mono b0.size)
    clear rc j rc0
    refine bodyPost_ret (v := .tuple #[resV 3 none 0 0, .slice (some ⟨g, 0, none⟩) 3 cp2]) (by simp [results, Try.results44, go_sem, r0, r1]) rfl ⟨none, 0, 0, 0, some ⟨g, 0, none⟩, 3, cp2, B, rfl, rfl, hV.1, ?_, OwnX.nil _ _ _, ?_, fun h => by omega, fun h => by have := hB h; omega, fun h => by omega⟩
    · exact (bb.setCell (Nat.le_refl _) _).setCell (Nat.le_refl _) _
    · exact (hX.setOther (fun h => by have := hB h; omega) _ _).setOther (fun h => by have := hB h; omega) _ _
  · have e1 : endCode P = 1 := by rw [endCode, hok]; rfl
    have e2 : endTells P T = T := by rw [endTells, hok]; rfl
    have e3 : endPots V P = P := by rw [endPots, hok]; rfl
    rw [e1, e2, e3]
    clear e1 e2 e3
    go_enter Try.func44, Try.ntmps44
    go_wp2_with fail
    refine (sval_any _ _ _ P _ (hP.alloc _).ints (by omega)).mono ?_
    rintro e w1 ⟨rfl, hw1⟩
    rw [hok, hw1]
    clear hw1
    go_wp2
    refine bodyPost_ret (v := .tuple #[resV 1 t n ct, .slice p 3 cp]) (by simp [results, Try.results44, go_sem]) rfl ⟨t, n, ct, B1, p, 3, cp, B2, rfl, hT.1, hP.1, ?_, ?_, ?_, h1, fun _ => h2, fun h _ => hne h⟩
    · first | exact (Below.refl _ _).alloc (Nat.le_refl _) _ | exact (((Below.refl _ _).alloc (Nat.le_refl _) _).setCell (Nat.le_refl _) _).setCell (Nat.le_refl _) _
    · first | exact hT.alloc _ | exact ((hT.alloc _).setOther (fun h => by have := l1 h; omega) _ _).setOther (fun h => by have := l1 h; omega) _ _
    · first | exact hP.alloc _ | exact ((hP.alloc _).setOther (fun h => by omega) _ _).setOther (fun h => by omega) _ _

end Go.Proofs.Ytemcinobgdphnaa
namespace Go.Proofs.Ytemcinobgdphnaa
open Go.RowKit
set_option linter.unusedVariables false

theorem zip_take {xs ys : List Int} {k : Nat} (hx : k < xs.length) (hy : k < ys.length) : (List.zipWith (· + ·) xs ys).take (k + 1) = (List.zipWith (· + ·) xs ys).take k ++ [xs[k]?.getD 0 + ys[k]?.getD 0] := by
  have hl : k < (List.zipWith (· + ·) xs ys).length := by rw [List.length_zipWith]; omega
  rw [List.take_succ_eq_append_getElem hl, List.getElem_zipWith, List.getElem?_eq_getElem hx, List.getElem?_eq_getElem hy]
  rfl

set_option maxHeartbeats 1600000 in
theorem sums_any (a c : Option Addr) (cap cap' : Nat) (xs ys : List Int) (M M' : Int) (w : World) (h : Ints w a 3 xs) (h' : Ints w c 3 ys) (hM : bnd M xs) (hM' : bnd M' ys) (hb : M ≤ 2000000000000000000) (hb' : M' ≤ 2000000000000000000) :
    Calls Try.prog 41 #[.slice a 3 cap, .slice c 3 cap'] w fun e w' => ∃ a' cap2 B, e = .returned (.slice a' 3 cap2) ∧ Below w.heap.size w w' ∧ OwnX w' a' B 3 (List.zipWith (· + ·) xs ys) ∧ w.heap.size ≤ B := by
  have HX : Hid (xs.length = 3) := h.1
  go_enter Try.func41, Try.ntmps41
  go_wp2_with fail
  refine (clone_any _ _ _ xs _ h (by omega) (by omega)).mono ?_
  rintro e w1 ⟨v, rfl, j⟩
  have hc1 := h'.below j.b
  have B1 := j.b
  obtain ⟨x, cx, B, rfl, hO, hB0⟩ := j.ownx HX.out
  have hB := hB0 (by omega)
  clear j hB0
  go_wp2_with fail
  refine (addX_any _ _ B _ _ _ xs ys M M' _ hO hc1 (fun b o e => by
    obtain ⟨b1, o1, e1, hcell⟩ := h'.pos (by omega)
    rw [e1] at e
    simp only [Option.some.injEq, Addr.mk.injEq, and_true] at e
    have := block_lt (hcell 0 (by omega))
    omega) (by omega) hM hM' hb hb').mono ?_
  rintro e w2 ⟨rfl, t2, hO2⟩
  have B2 : Below w.heap.size w w2 := B1.trans (t2.below B1.size (fun k hk => by rw [hk.1]; exact hB))
  go_wp2
  go_ret
  exact ⟨_, _, B, rfl, B2, hO2, hB⟩

end Go.Proofs.Ytemcinobgdphnaa
namespace Go.Proofs.Ytemcinobgdphnaa
open Go.RowKit
set_option linter.unusedVariables false
set_option maxRecDepth 100000

theorem BX.touch {S : Nat → Prop} {w W W' : World} {B : Nat} {la : List Value} {ty : TypeId} (h : BX w B la ty W) (t : Touch S W W') (hs : ∀ k, S k → w.heap.size ≤ k) (hn : ¬ S B) : BX w B la ty W' :=
  ⟨h.p.touch t hn, h.b.trans (t.below h.b.size hs)⟩

/-- All that is asked for is ok. -/
def doB (gs ls ts : List FV) (A T : Nat) (st : Bool) (p q : Nat) (V U : List Int) : Bool := rowB gs ls ts A T st && okN 3 10000 p V && okN 2 9 q U
/-- What the pots would have. -/
def doX (ls : List FV) (V U : List Int) : List Int := List.zipWith (· + ·) V (ls.map (atF V U))
def doCode (gs ls ts : List FV) (A T : Nat) (st : Bool) (p q : Nat) (V U : List Int) : Int := if doB gs ls ts A T st p q V U then (if st then 2 else endCode (doX ls V U)) else 0
def doTells (gs ls ts : List FV) (A T : Nat) (st : Bool) (p q : Nat) (V U : List Int) : List Int := if doB gs ls ts A T st p q V U then (if st then [] else endTells (doX ls V U) (ts.map (atF V U))) else []
def doPots (gs ls ts : List FV) (A T : Nat) (st : Bool) (p q : Nat) (V U : List Int) : List Int := if doB gs ls ts A T st p q V U then (if st then V else endPots V (doX ls V U)) else []
theorem do_no {gs ls ts : List FV} {A T : Nat} {st : Bool} {p q : Nat} {V U : List Int} (h : doB gs ls ts A T st p q V U = false) : doCode gs ls ts A T st p q V U = 0 ∧ doTells gs ls ts A T st p q V U = [] ∧ doPots gs ls ts A T st p q V U = [] := by
  simp [doCode, doTells, doPots, h]
theorem do_stop {gs ls ts : List FV} {A T : Nat} {p q : Nat} {V U : List Int} (h : doB gs ls ts A T true p q V U = true) : doCode gs ls ts A T true p q V U = 2 ∧ doTells gs ls ts A T true p q V U = [] ∧ doPots gs ls ts A T true p q V U = V := by
  simp [doCode, doTells, doPots, h]
theorem do_go {gs ls ts : List FV} {A T : Nat} {p q : Nat} {V U : List Int} (h : doB gs ls ts A T false p q V U = true) : doCode gs ls ts A T false p q V U = endCode (doX ls V U) ∧ doTells gs ls ts A T false p q V U = endTells (doX ls V U) (ts.map (atF V U)) ∧ doPots gs ls ts A T false p q V U = endPots V (doX ls V U) := by
  simp [doCode, doTells, doPots, h]
theorem rowB_three {gs ls ts : List FV} {A T : Nat} (h : rowB gs ls ts A T false = true) : A = 3 := by
  simp only [rowB, Bool.and_eq_true] at h
  have := h.2
  simp at this
  omega
theorem Cel.pair {w : World} {B : Nat} {x y : Value} {t : TypeId} (h : Cel w B [x, y] t) : w.cell? ⟨B, 0, none⟩ = some x ∧ w.cell? ⟨B, 1, none⟩ = some y ∧ w.frozen? ⟨B, 0, none⟩ = false ∧ w.frozen? ⟨B, 1, none⟩ = false := ⟨h.cell 0, h.cell 1, h.free 0, h.free 1⟩

set_option maxHeartbeats 6400000 in
theorem idoing_any (g : Option Addr) (G cg : Nat) (gs : List FV) (a : Option Addr) (A ca : Nat) (ls : List FV) (t : Option Addr) (T ct : Nat) (ts : List FV) (st : Bool) (v : Option Addr) (p cv : Nat) (V : List Int) (u : Option Addr) (q cu : Nat) (U : List Int) (w : World) (h : RowAt w g G gs a A ls t T ts) (hV : Ints w v p V) (hU : Ints w u q U) (hp : p ≤ 1048576) (hq : q ≤ 1048576) :
    Calls Try.prog 15 #[rowV g G cg a A ca t T ct st, .slice v p cv, .slice u q cu] w fun e w' => ResD w w' e (doCode gs ls ts A T st p q V U) (doTells gs ls ts A T st p q V U) (doPots gs ls ts A T st p q V U) := by
  have n0 := (BX.new w [.slice g G cg, .slice a A ca, .slice t T ct, .bool st] 25).alloc (.cells #[.int .i64 0, .slice none 0 0] 38)
  have rc0 := Cel.new (w.alloc (.cells #[.slice g G cg, .slice a A ca, .slice t T ct, .bool st] 25)) [.int .i64 0, .slice none 0 0] 38
  rw [World.size_alloc] at rc0
  have zt := h.zt
  obtain ⟨i0, hi, hz0, hz1, hz2⟩ := info_parts Try.infoInt
  obtain ⟨rb, hrb⟩ : ∃ rb, rb = rowB gs ls ts A T st := ⟨_, rfl⟩
  obtain ⟨vb, hvb⟩ : ∃ vb, vb = okN 3 10000 p V := ⟨_, rfl⟩
  obtain ⟨ub, hub⟩ : ∃ ub, ub = okN 2 9 q U := ⟨_, rfl⟩
  have HR : Hid (rb = rowB gs ls ts A T st) := hrb
  have HV : Hid (vb = okN 3 10000 p V) := hvb
  have HU : Hid (ub = okN 2 9 q U) := hub
  clear hrb hvb hub
  go_enter Try.func15, Try.ntmps15
  go_wp2_with fail
  refine (irow_any _ _ _ gs _ _ _ ls _ _ _ ts _ _ ((h.alloc _).alloc _)).mono ?_
  rintro e w1 ⟨rfl, b1⟩
  have n1 := n0.below b1
  have rc1 := rc0.below b1
  have hlt1 := rc1.lt
  rw [← HR.out]
  clear n0 b1 rc0
  obtain ⟨c0, c1, c2, c3⟩ := n1.p.quad
  obtain ⟨d0, d1, f0, f1⟩ := rc1.pair
  cases rb
  · have E : Hid _ := do_no (p := p) (q := q) (V := V) (U := U) (show doB gs ls ts A T st p q V U = false by rw [doB, ← HR.out]; rfl)
    go_wp2
    refine bodyPost_ret (v := .tuple #[resV 0 none 0 0, .slice none 0 0]) (by simp [results, Try.results15, go_sem, d0, d1]) rfl ?_
    obtain ⟨e1, e2, e3⟩ := E.out
    rw [e1, e2, e3]
    exact ⟨none, 0, 0, 0, _, 0, 0, 0, rfl, rfl, rfl, (n1.b.setCell (by simp only []; omega) _).setCell (by simp only []; omega) _, OwnX.nil _ _ _, OwnX.nil _ _ _, fun h => by omega, fun h => by omega, fun h => by omega⟩
  go_wp2_with fail
  refine (ival_any _ _ _ V _ (hV.below n1.b) hp).mono ?_
  rintro e w2 ⟨rfl, hw2⟩
  rw [← HV.out, hw2]
  clear hw2
  cases vb
  · have E : Hid _ := do_no (p := p) (q := q) (V := V) (U := U) (show doB gs ls ts A T st p q V U = false by rw [doB, ← HR.out, ← HV.out]; rfl)
    go_wp2
    refine bodyPost_ret (v := .tuple #[resV 0 none 0 0, .slice none 0 0]) (by simp [results, Try.results15, go_sem, d0, d1]) rfl ?_
    obtain ⟨e1, e2, e3⟩ := E.out
    rw [e1, e2, e3]
    exact ⟨none, 0, 0, 0, _, 0, 0, 0, rfl, rfl, rfl, (n1.b.setCell (by simp only []; omega) _).setCell (by simp only []; omega) _, OwnX.nil _ _ _, OwnX.nil _ _ _, fun h => by omega, fun h => by omega, fun h => by omega⟩
  go_wp2_with fail
  refine (iarg_any _ _ _ U _ (hU.below n1.b) hq).mono ?_
  rintro e w2 ⟨rfl, hw2⟩
  rw [← HU.out, hw2]
  clear hw2
  cases ub
  · have E : Hid _ := do_no (p := p) (q := q) (V := V) (U := U) (show doB gs ls ts A T st p q V U = false by rw [doB, ← HR.out, ← HV.out, ← HU.out]; rfl)
    go_wp2
    refine bodyPost_ret (v := .tuple #[resV 0 none 0 0, .slice none 0 0]) (by simp [results, Try.results15, go_sem, d0, d1]) rfl ?_
    obtain ⟨e1, e2, e3⟩ := E.out
    rw [e1, e2, e3]
    exact ⟨none, 0, 0, 0, _, 0, 0, 0, rfl, rfl, rfl, (n1.b.setCell (by simp only []; omega) _).setCell (by simp only []; omega) _, OwnX.nil _ _ _, OwnX.nil _ _ _, fun h => by omega, fun h => by omega, fun h => by omega⟩
  have HB : Hid (doB gs ls ts A T st p q V U = true) := by show _ = _; rw [doB, ← HR.out, ← HV.out, ← HU.out]; rfl
  obtain ⟨og, ol, ot⟩ := rowB_g HR.out.symm
  obtain ⟨rfl, bV⟩ := okN_nat (c := 3) (by omega) HV.out.symm
  obtain ⟨rfl, bU⟩ := okN_nat (c := 2) (by omega) HU.out.symm
  have HVL : Hid (V.length = 3) := hV.1
  cases st
  case true =>
    have E : Hid _ := do_stop HB.out
    go_wp2_with fail
    refine (clone_any _ _ _ V _ (hV.below n1.b) (by omega) (by omega)).mono ?_
    rintro e w2 ⟨r, rfl, j⟩
    have rc2 := rc1.below j.b
    obtain ⟨x, cx, B, rfl, hX, hB⟩ := j.ownx HVL.out
    have bb := n1.b.trans (j.b.mono n1.b.size)
    clear c0 c1 c2 c3 d0 d1 f0 f1
    obtain ⟨d0, d1, f0, f1⟩ := rc2.pair
    have hlt2 := rc2.lt
    clear rc2 j rc1
    go_wp2
    refine bodyPost_ret (v := .tuple #[resV 2 none 0 0, .slice x 3 cx]) (by simp [results, Try.results15, go_sem, d0, d1]) rfl ?_
    obtain ⟨e1, e2, e3⟩ := E.out
    rw [e1, e2, e3]
    refine ⟨none, 0, 0, 0, x, 3, cx, B, rfl, rfl, HVL.out, ?_, OwnX.nil _ _ _, ?_, fun h => by omega, fun h => by have := hB h; have := n1.b.size; omega, fun h => by omega⟩
    · exact (bb.setCell (by simp only []; omega) _).setCell (by simp only []; omega) _
    · exact (hX.setOther (fun h => by have := hB h; omega) _ _).setOther (fun h => by have := hB h; omega) _ _
  case false =>
    have E : Hid _ := do_go HB.out
    obtain rfl := rowB_three HR.out.symm
    have OT : Hid (ts.all FV.ok = true) := ot
    have OL : Hid (ls.all FV.ok = true) := ol
    have bY := ats_bnd ol bV bU
    clear og ol ot
    go_wp2_with fail
    refine (formsAt_any _ _ _ ls _ _ _ _ V U _ h.ha (h.below n1.b).a (by omega) OL.out (hV.below n1.b) (hU.below n1.b) bV bU).mono ?_
    rintro e w3 ⟨r, rfl, j⟩
    have rc3 := rc1.below j.b
    have n3 := n1.below j.b
    obtain ⟨ya, cy, BY, rfl, hY, hBY⟩ := j.ownx (n := 3) (by rw [List.length_map, h.ha])
    clear c0 c1 c2 c3 rc1 n1 j hBY d0 d1 f0 f1
    go_wp2_with fail
    refine (sums_any _ _ _ _ V _ 10000 1000000000000 _ (hV.below n3.b) hY.ints bV bY (by omega) (by omega)).mono ?_
    rintro e w4 ⟨x, cx, B, rfl, b4, hX4, hB⟩
    have rc4 := rc3.below b4
    have n4 := n3.below b4
    have z3 := n3.b.size
    have hr3 := rc3.lt
    have hB' : w.heap.size + 1 + 1 ≤ B := by omega
    have hq3 := n3.p.lt
    clear rc3 n3 hY b4 bY
    obtain ⟨c0, c1, c2, c3⟩ := n4.p.quad
    go_wp2_with fail
    refine (formsAt_any _ _ _ ts _ _ _ _ V U _ h.ht (h.below n4.b).t zt OT.out (hV.below n4.b) (hU.below n4.b) bV bU).mono ?_
    rintro e w5 ⟨r, rfl, j⟩
    have rc5 := rc4.below j.b
    have n5 := n4.below j.b
    have hX5 := hX4.below j.b
    have lB4 := hX4.lt (by omega)
    obtain ⟨ta, ctt, BT, rfl, hT, hBT⟩ := j.ownx (n := T) (by rw [List.length_map, h.ht])
    have z5 := j.b.size
    clear c0 c1 c2 c3 rc4 n4 j hX4
    go_wp2_with fail
    refine (done_any _ _ _ _ B _ _ _ BT V _ _ _ (hV.below n5.b) hX5 hT (fun h => by have := hBT h; omega) (w.heap.size + 1 + 1) (fun h => by have := hBT h; omega) (by omega) (by omega)).mono ?_
    rintro e w6 ⟨ra, rn, rcap, RB1, pb, pm, pcap, RB2, rfl, L1, L2, b6, O1, O2, g1, g2, g3⟩
    have rc6 := rc5.below b6
    have n6 := n5.below b6
    have hlt6 := rc6.lt
    clear rc5 n5 hX5 hT hBT
    obtain ⟨d0, d1, f0, f1⟩ := rc6.pair
    clear rc6
    go_wp2
    refine bodyPost_ret (v := .tuple #[resV (endCode (List.zipWith (· + ·) V (ls.map (atF V U)))) ra rn rcap, .slice pb pm pcap]) (by simp [results, Try.results15, go_sem, d0, d1]) rfl ?_
    obtain ⟨e1, e2, e3⟩ := E.out
    rw [e1, e2, e3]
    refine ⟨ra, rn, rcap, RB1, pb, pm, pcap, RB2, rfl, L1, L2, ?_, ?_, ?_, fun h => by have := g1 h; omega, fun h => by have := g2 h; omega, g3⟩
    · exact (n6.b.setCell (by simp only []; omega) _).setCell (by simp only []; omega) _
    · exact (O1.setOther (fun h => by have := g1 h; omega) _ _).setOther (fun h => by have := g1 h; omega) _ _
    · exact (O2.setOther (fun h => by have := g2 h; omega) _ _).setOther (fun h => by have := g2 h; omega) _ _

end Go.Proofs.Ytemcinobgdphnaa
namespace Go.Proofs.Ytemcinobgdphnaa
open Go.RowKit
set_option linter.unusedVariables false
set_option maxRecDepth 100000

set_option maxHeartbeats 6400000 in
theorem sdoing_any (g : Option Addr) (G cg : Nat) (gs : List FV) (a : Option Addr) (A ca : Nat) (ls : List FV) (t : Option Addr) (T ct : Nat) (ts : List FV) (st : Bool) (v : Option Addr) (p cv : Nat) (V : List Int) (u : Option Addr) (q cu : Nat) (U : List Int) (w : World) (h : RowAt w g G gs a A ls t T ts) (hV : Ints w v p V) (hU : Ints w u q U) (hp : p ≤ 1048576) (hq : q ≤ 1048576) :
    Calls Try.prog 16 #[rowV g G cg a A ca t T ct st, .slice v p cv, .slice u q cu] w fun e w' => ResD w w' e (doCode gs ls ts A T st p q V U) (doTells gs ls ts A T st p q V U) (doPots gs ls ts A T st p q V U) := by
  have n0 := (BX.new w [.slice g G cg, .slice a A ca, .slice t T ct, .bool st] 25).alloc (.cells #[.int .i64 0, .slice none 0 0] 38)
  have rc0 := Cel.new (w.alloc (.cells #[.slice g G cg, .slice a A ca, .slice t T ct, .bool st] 25)) [.int .i64 0, .slice none 0 0] 38
  rw [World.size_alloc] at rc0
  have zt := h.zt
  obtain ⟨i0, hi, hz0, hz1, hz2⟩ := info_parts Try.infoInt
  obtain ⟨rb, hrb⟩ : ∃ rb, rb = rowB gs ls ts A T st := ⟨_, rfl⟩
  obtain ⟨vb, hvb⟩ : ∃ vb, vb = okN 3 10000 p V := ⟨_, rfl⟩
  obtain ⟨ub, hub⟩ : ∃ ub, ub = okN 2 9 q U := ⟨_, rfl⟩
  have HR : Hid (rb = rowB gs ls ts A T st) := hrb
  have HV : Hid (vb = okN 3 10000 p V) := hvb
  have HU : Hid (ub = okN 2 9 q U) := hub
  clear hrb hvb hub
  go_enter Try.func16, Try.ntmps16
  go_wp2_with fail
  refine (srow_any _ _ _ gs _ _ _ ls _ _ _ ts _ _ ((h.alloc _).alloc _)).mono ?_
  rintro e w1 ⟨rfl, b1⟩
  have n1 := n0.below b1
  have rc1 := rc0.below b1
  have hlt1 := rc1.lt
  rw [← HR.out]
  clear n0 b1 rc0
  obtain ⟨c0, c1, c2, c3⟩ := n1.p.quad
  obtain ⟨d0, d1, f0, f1⟩ := rc1.pair
  cases rb
  · have E : Hid _ := do_no (p := p) (q := q) (V := V) (U := U) (show doB gs ls ts A T st p q V U = false by rw [doB, ← HR.out]; rfl)
    go_wp2
    refine bodyPost_ret (v := .tuple #[resV 0 none 0 0, .slice (some ⟨w1.heap.size, 0, none⟩) 0 0]) (by simp [results, Try.results16, go_sem, d0, d1, hlt1]) rfl ?_
    obtain ⟨e1, e2, e3⟩ := E.out
    rw [e1, e2, e3]
    exact ⟨none, 0, 0, 0, _, 0, 0, 0, rfl, rfl, rfl, (((n1.b.setCell (by simp only []; omega) _).setCell (by simp only []; omega) _).alloc (by rw [size_setCell, size_setCell]; exact n1.b.size) _), OwnX.nil _ _ _, OwnX.nil _ _ _, fun h => by omega, fun h => by omega, fun h => by omega⟩
  go_wp2_with fail
  refine (sval_any _ _ _ V _ (hV.below n1.b) hp).mono ?_
  rintro e w2 ⟨rfl, hw2⟩
  rw [← HV.out, hw2]
  clear hw2
  cases vb
  · have E : Hid _ := do_no (p := p) (q := q) (V := V) (U := U) (show doB gs ls ts A T st p q V U = false by rw [doB, ← HR.out, ← HV.out]; rfl)
    go_wp2
    refine bodyPost_ret (v := .tuple #[resV 0 none 0 0, .slice (some ⟨w1.heap.size, 0, none⟩) 0 0]) (by simp [results, Try.results16, go_sem, d0, d1, hlt1]) rfl ?_
    obtain ⟨e1, e2, e3⟩ := E.out
    rw [e1, e2, e3]
    exact ⟨none, 0, 0, 0, _, 0, 0, 0, rfl, rfl, rfl, (((n1.b.setCell (by simp only []; omega) _).setCell (by simp only []; omega) _).alloc (by rw [size_setCell, size_setCell]; exact n1.b.size) _), OwnX.nil _ _ _, OwnX.nil _ _ _, fun h => by omega, fun h => by omega, fun h => by omega⟩
  go_wp2_with fail
  refine (sarg_any _ _ _ U _ (hU.below n1.b) hq).mono ?_
  rintro e w2 ⟨rfl, hw2⟩
  rw [← HU.out, hw2]
  clear hw2
  cases ub
  · have E : Hid _ := do_no (p := p) (q := q) (V := V) (U := U) (show doB gs ls ts A T st p q V U = false by rw [doB, ← HR.out, ← HV.out, ← HU.out]; rfl)
    go_wp2
    refine bodyPost_ret (v := .tuple #[resV 0 none 0 0, .slice (some ⟨w1.heap.size, 0, none⟩) 0 0]) (by simp [results, Try.results16, go_sem, d0, d1, hlt1]) rfl ?_
    obtain ⟨e1, e2, e3⟩ := E.out
    rw [e1, e2, e3]
    exact ⟨none, 0, 0, 0, _, 0, 0, 0, rfl, rfl, rfl, (((n1.b.setCell (by simp only []; omega) _).setCell (by simp only []; omega) _).alloc (by rw [size_setCell, size_setCell]; exact n1.b.size) _), OwnX.nil _ _ _, OwnX.nil _ _ _, fun h => by omega, fun h => by omega, fun h => by omega⟩
  have HB : Hid (doB gs ls ts A T st p q V U = true) := by show _ = _; rw [doB, ← HR.out, ← HV.out, ← HU.out]; rfl
  obtain ⟨og, ol, ot⟩ := rowB_g HR.out.symm
  obtain ⟨rfl, bV⟩ := okN_nat (c := 3) (by omega) HV.out.symm
  obtain ⟨rfl, bU⟩ := okN_nat (c := 2) (by omega) HU.out.symm
  have HVL : Hid (V.length = 3) := hV.1
  have hV1 := hV.below n1.b
  obtain ⟨vb, vo, rfl, hcell⟩ := hV1.pos (by omega)
  have hcl : ∀ i, i < 3 → (w1.alloc (.cells #[] 3)).cell? ⟨vb, vo + i, none⟩ = some (.int .i64 (V.getD i 0)) := fun i hi => by
    rw [((Below.refl w1.heap.size w1).alloc (Nat.le_refl _) _).cell (p := ⟨vb, vo + i, none⟩) (block_lt (hcell i hi))]; exact hcell i hi
  have HC : Hid _ := newsI hcl hV.1
  have HL : Hid ((V.map (Value.int .i64)).length = 3 * 1) := by show _ = _; rw [List.length_map, hV.1]
  have HJ : Hid _ := (JA.lit w1).o
  clear hcl hcell
  cases st
  case true =>
    have E : Hid _ := do_stop HB.out
    go_wp2_with (at_builtin; go_must (refine wpList_append_lies _ rfl (.tmp 30) (.tmp 31) 26 rfl w1.heap.size 3 i0 (.int .i64 0) 1 8 Try.underlying26 hi hz0 hz1 hz2 rfl (by decide) _ 0 [] rfl HJ.out ⟨vb, vo, none⟩ 3 cv (V.map (Value.int .i64)) rfl HL.out HC.out (oneI _) (by omega) (by unfold maxLen; omega) (by omega) (by rw [World.size_alloc]; omega) _ rfl ?_); intro g2 cp2 w2 hown hgrow hat hlt2; have j := JA.copied HVL.out hown hgrow; have rc2 := rc1.below j.b; clear d0 d1 f0 f1; obtain ⟨d0, d1, f0, f1⟩ := rc2.pair; have hlt2 := rc2.lt; clear hown hgrow hat)
    obtain ⟨x, cx, B, hv2, hX, hB⟩ := j.ownx HVL.out
    simp only [Value.slice.injEq, true_and] at hv2
    obtain ⟨rfl, rfl⟩ := hv2
    have bb := n1.b.trans (j.b.mono n1.b.size)
    refine bodyPost_ret (v := .tuple #[resV 2 none 0 0, .slice (some ⟨g2, 0, none⟩) 3 cp2]) (by simp [results, Try.results16, go_sem, d0, d1]) rfl ?_
    obtain ⟨e1, e2, e3⟩ := E.out
    rw [e1, e2, e3]
    refine ⟨none, 0, 0, 0, some ⟨g2, 0, none⟩, 3, cp2, B, rfl, rfl, HVL.out, ?_, OwnX.nil _ _ _, ?_, fun h => by omega, fun h => by have := hB h; have := n1.b.size; omega, fun h => by omega⟩
    · exact (bb.setCell (by simp only []; omega) _).setCell (by simp only []; omega) _
    · exact (hX.setOther (fun h => by have := hB h; omega) _ _).setOther (fun h => by have := hB h; omega) _ _
  case false =>
    have E : Hid _ := do_go HB.out
    obtain rfl := rowB_three HR.out.symm
    have OT : Hid (ts.all FV.ok = true) := ot
    have OL : Hid (ls.all FV.ok = true) := ol
    have HAL : Hid (ls.length = 3) := h.ha
    have HTL : Hid (ts.length = T) := h.ht
    obtain ⟨ys, hys⟩ : ∃ ys, ys = ls.map (atF V U) := ⟨_, rfl⟩
    have HYS : Hid (ys = ls.map (atF V U)) := hys
    have HYL : Hid (ys.length = 3) := by show _ = _; rw [hys, List.length_map, h.ha]
    have bY : bnd 1000000000000 ys := by rw [hys]; exact ats_bnd ol bV bU
    clear og ol ot hys
    go_wp2_with (at_builtin; go_must (refine wpList_append_lies _ rfl (.tmp 33) (.tmp 34) 26 rfl w1.heap.size 3 i0 (.int .i64 0) 1 8 Try.underlying26 hi hz0 hz1 hz2 rfl (by decide) _ 0 [] rfl HJ.out ⟨vb, vo, none⟩ 3 cv (V.map (Value.int .i64)) rfl HL.out HC.out (oneI _) (by omega) (by unfold maxLen; omega) (by omega) (by rw [World.size_alloc]; omega) _ rfl ?_); intro g2 cp2 w2 hown hgrow hat hlt2)
    have j := JA.copied HVL.out hown hgrow
    have rc2 := rc1.below j.b
    have n2 := n1.below j.b
    obtain ⟨x, cx, B, hv2, hX, hB⟩ := j.ownx HVL.out
    simp only [Value.slice.injEq, true_and] at hv2
    obtain ⟨rfl, rfl⟩ := hv2
    obtain ⟨eB, _, _⟩ := hX.pos (by omega)
    simp only [Option.some.injEq, Addr.mk.injEq, and_true] at eB
    subst eB
    have hB' := hB (by omega)
    clear c0 c1 c2 c3 d0 d1 f0 f1 rc1 n1 j hB hown hgrow hat HC HL HJ hV1
    go_wp2_with fail
    go_loopw [9] (fun i wr => ∃ k : Nat, k ≤ 3 ∧ i = .int .i64 k ∧ BX w w.heap.size [.slice g G cg, .slice a 3 ca, .slice t T ct, .bool false] 25 wr ∧ Cel wr (w.heap.size + 1) [.int .i64 0, .slice none 0 0] 38 ∧ OwnX wr (some ⟨g2, 0, none⟩) g2 3 (added V ys k)) (fun i _ => 3 - (intOf i).toNat)
    case atStart => exact ⟨0, by omega, rfl, n2, rc2, by rw [added_zero]; exact hX⟩
    case round =>
      clear n2 rc2 hX
      obtain ⟨k, hk, rfl, nr, rcr, hXr⟩ := hrel
      by_cases hlt : k < 3
      · obtain ⟨b, off, rfl, e0, e1, e2, e3⟩ := ((h.below nr.b).a) k (by rw [HAL.out]; exact hlt)
        have hok := all_at (k := k) OL.out (by rw [HAL.out]; exact hlt)
        have HYK : Hid (ys[k]?.getD 0 = atF V U (ls[k]?.getD noFV)) := by
          have hl : k < ls.length := by rw [HAL.out]; exact hlt
          show _ = _
          rw [HYS.out, List.getElem?_map, List.getElem?_eq_getElem hl]; rfl
        generalize HG : ls[k]?.getD noFV = f at *
        clear HG
        obtain ⟨fa, fn, fcap, fc, fm, fcap', fK, fC, fD⟩ := f
        obtain ⟨iC, iD, _, _⟩ := e3
        simp only at e0 e1 e2 iC iD
        obtain ⟨rfl, rfl, bC, bD, bK⟩ := formB_elim (show formB fn fm fC fD fK = true from hok)
        clear hok
        obtain ⟨m3, m4⟩ := bY k
        obtain ⟨m1, m2⟩ := bV k
        obtain ⟨y, hy⟩ : ∃ y, ys[k]?.getD 0 = y := ⟨_, rfl⟩
        have HX : Hid (atV fC fD fK V U = y) := by show _ = _; rw [← hy, HYK.out]; rfl
        have HY : Hid (ys[k]?.getD 0 = y) := hy
        rw [hy] at m3 m4
        clear hy
        obtain ⟨x0, hx0⟩ : ∃ x0, V[k]?.getD 0 = x0 := ⟨_, rfl⟩
        have HX0 : Hid (V[k]?.getD 0 = x0) := hx0
        rw [hx0] at m1 m2
        clear hx0
        have hAG : Hid ((added V ys k)[k]?.getD 0 = x0) := by show _ = _; rw [added_get V ys k (by rw [HVL.out, HYL.out]) (by rw [HVL.out]; exact hlt)]; exact HX0.out
        have cellk : ∀ W, OwnX W (some ⟨g2, 0, none⟩) g2 3 (added V ys k) → W.cell? ⟨g2, k, none⟩ = some (.int .i64 x0) ∧ W.frozen? ⟨g2, k, none⟩ = false := fun W hW => by
          obtain ⟨_, h1, h2⟩ := hW.pos (by omega)
          refine ⟨?_, h2 k⟩
          rw [h1 k hlt, hAG.out]
        have CK : Hid _ := cellk
        clear cellk
        obtain ⟨ck, fk⟩ := CK.out wr hXr
        obtain ⟨c0, c1, c2, c3⟩ := nr.p.quad
        have hVr := hV.below nr.b
        have hUr := hU.below nr.b
        have hlt' : (k : Int) < 3 := by omega
        go_wp2_with fail
        go_region_with (first | (go_at_call 38; refine (sat_any _ _ _ _ _ fC fD _ _ _ _ V U _ (by exact iC.below (Below.refl _ _).drew) (by exact iD.below (Below.refl _ _).drew) (by exact hVr.below (Below.refl _ _).drew) (by exact hUr.below (Below.refl _ _).drew) bC bD bK bV bU).mono ?_; rintro ee w3 ⟨rfl, b3⟩; rw [HX.out]; have b3' := below_of_drew b3; obtain ⟨ck3, fk3⟩ := CK.out w3 (hXr.below b3')))
        all_goals
          have R : OwnX (w3.setCell ⟨g2, k, none⟩ (.int .i64 (x0 + y))) (some ⟨g2, 0, none⟩) g2 3 (added V ys (k + 1)) := by
            have := (hXr.below b3').set hlt (x0 + y)
            rwa [← HX0.out, ← HY.out, added_succ V ys k (by rw [HVL.out, HYL.out]) (by rw [HVL.out]; exact hlt), HX0.out, HY.out] at this
          have T3 : Touch (fun z => z = g2) w3 (w3.setCell ⟨g2, k, none⟩ (.int .i64 (x0 + y))) := Touch.setCell (S := fun z => z = g2) (Touch.refl _ _) rfl _
          have N3 := (nr.below b3').touch T3 (fun z e => by have := nr.p.lt; omega) (fun e => by omega)
          have RC3 := (rcr.below b3').touch T3 (fun e => by omega)
          clear b3 b3' T3 nr rcr hXr iC iD e0 e1 e2 c0 c1 c2 c3 hVr hUr
          go_wp2
          go_roundw
          case rel => exact ⟨k + 1, by omega, by go_num, N3, RC3, R⟩
          case measure => simp [intOf]; omega
      · obtain rfl : k = 3 := by omega
        rw [added_end V ys 3 (by rw [HVL.out]; exact Nat.le_refl _) (by rw [HYL.out]; exact Nat.le_refl _), HYS.out] at hXr
        clear bY
        have lg := hXr.lt (by omega)
        go_wp2_with fail
        obtain ⟨Wx, hWx⟩ : ∃ Wx, Wx = wr.alloc (.cells #[] 3) := ⟨_, rfl⟩
        rw [← hWx]
        go_loopw [10, 11] (fun r i wq => ∃ k : Nat, k ≤ T ∧ i = .int .i64 k ∧ ∃ xs : List Int, xs.length = k ∧ xs = (ts.take k).map (atF V U) ∧ JA wr r xs wq) (fun _ i _ => T - (intOf i).toNat)
        case atStart => exact ⟨0, Nat.zero_le _, rfl, [], rfl, rfl, by rw [hWx]; exact JA.lit wr⟩
        case round =>
          clear hWx
          obtain ⟨k, hk, rfl, xs, hxl, hxs, j⟩ := hrel
          have HL : Hid (xs.length = k) := hxl
          have HXS : Hid (xs = (ts.take k).map (atF V U)) := hxs
          clear hxl hxs
          have nq := nr.below j.b
          have zt2 := h.zt
          obtain ⟨c0, c1, c2, c3⟩ := nq.p.quad
          have hVq := hV.below nq.b
          have hUq := hU.below nq.b
          by_cases hlt : k < T
          · obtain ⟨b, off, rfl, e0, e1, e2, e3⟩ := ((h.below nq.b).t) k (by rw [HTL.out]; exact hlt)
            have hok := all_at (k := k) OT.out (by rw [HTL.out]; exact hlt)
            have HP : Hid ((ts.take (k + 1)).map (atF V U) = (ts.take k).map (atF V U) ++ [atF V U (ts[k]?.getD noFV)]) := by
              have hl : k < ts.length := by rw [HTL.out]; exact hlt
              show _ = _
              rw [List.take_succ_eq_append_getElem hl, List.map_append, List.getElem?_eq_getElem hl]; rfl
            generalize HG : ts[k]?.getD noFV = f at *
            clear HG
            obtain ⟨fa, fn, fcap, fc, fm, fcap', fK, fC, fD⟩ := f
            obtain ⟨iC, iD, _, _⟩ := e3
            simp only at e0 e1 e2 iC iD
            obtain ⟨rfl, rfl, bC, bD, bK⟩ := formB_elim (show formB fn fm fC fD fK = true from hok)
            clear hok
            obtain ⟨x, hx⟩ : ∃ x, atV fC fD fK V U = x := ⟨_, rfl⟩
            have HX : Hid (atV fC fD fK V U = x) := hx
            have HP2 : Hid (xs ++ [x] = (ts.take (k + 1)).map (atF V U)) := by show _ = _; rw [HP.out, HXS.out, ← hx]; rfl
            clear hx
            go_wp2_with fail
            refine (sat_any _ _ _ _ _ fC fD _ _ _ _ V U _ iC iD hVq hUq bC bD bK bV bU).mono ?_
            rintro e w3 ⟨rfl, b3⟩
            rw [HX.out]
            have j3 := j.below b3
            have jo := j3.o
            rw [HL.out] at jo
            have hj3 := j3.b.size
            clear b3 iC iD e0 e1 e2 j nq hVq hUq c0 c1 c2 c3
            go_wp2_with (at_builtin; go_must (refine wpList_append_lies _ rfl (.tmp 64) (.tmp 73) 26 rfl _ 3 i0 (.int .i64 0) 1 8 Try.underlying26 hi hz0 hz1 hz2 rfl (by decide) _ _ _ rfl (jo.alloc _) ⟨w3.heap.size, 0, none⟩ 1 1 [.int .i64 x] rfl rfl (news1 _ _ _) (one1 _ _) (by omega) (by unfold maxLen; omega) (by omega) (by rw [World.size_alloc]; omega) _ rfl ?_); intro g4 cp4 w4 hown hgrow hat hlt4)
            have j4 := j3.app HL.out hown hgrow
            clear hown hgrow jo j3 hat
            go_wp2
            go_roundw
            case rel =>
              refine ⟨_, _, _, _, _, _, _, _, _, _, _, _, _, _, _, _, _, _, _, _, ?_, rfl⟩
              exact ⟨k + 1, by omega, by go_num, _, by rw [List.length_append, HL.out]; rfl, HP2.out, j4⟩
            case measure => simp [intOf]; omega
          · obtain rfl : k = T := by omega
            have HT2 : Hid (xs = ts.map (atF V U)) := by show xs = _; rw [HXS.out, List.take_of_length_le (by rw [HTL.out]; omega)]
            have rcq := rcr.below j.b
            have hXq := hXr.below j.b
            have zq := j.b.size
            obtain ⟨ta, ctt, BT, rfl, hT, hBT⟩ := j.ownx HL.out
            clear j
            go_wp2_with fail
            refine (end_any _ _ _ _ g2 _ _ _ BT V _ xs _ hVq hXq hT (fun h => by have := hBT h; omega) (w.heap.size + 1 + 1) (fun h => by have := hBT h; omega) (by omega) (by omega)).mono ?_
            rintro e w6 ⟨ra, rn, rcap, RB1, pb, pm, pcap, RB2, rfl, L1, L2, b6, O1, O2, g1, g2', g3⟩
            have rc6 := rcq.below b6
            have n6 := nq.below b6
            have hlt6 := rc6.lt
            obtain ⟨d0, d1, f0, f1⟩ := rc6.pair
            clear rc6 rcq hXq hT hVq hUq nq c0 c1 c2 c3
            go_wp2
            refine bodyPost_ret (v := .tuple #[resV (endCode (List.zipWith (· + ·) V (ls.map (atF V U)))) ra rn rcap, .slice pb pm pcap]) (by simp [results, Try.results16, go_sem, d0, d1]) rfl ?_
            obtain ⟨e1, e2, e3⟩ := E.out
            rw [e1, e2, e3, ← HT2.out]
            refine ⟨ra, rn, rcap, RB1, pb, pm, pcap, RB2, rfl, L1, L2, ?_, ?_, ?_, fun h => by have := g1 h; omega, fun h => by have := g2' h; omega, g3⟩
            · exact (n6.b.setCell (by simp only []; omega) _).setCell (by simp only []; omega) _
            · exact (O1.setOther (fun h => by have := g1 h; omega) _ _).setOther (fun h => by have := g1 h; omega) _ _
            · exact (O2.setOther (fun h => by have := g2' h; omega) _ _).setOther (fun h => by have := g2' h; omega) _ _

end Go.Proofs.Ytemcinobgdphnaa
namespace Go.Proofs.Ytemcinobgdphnaa
open Go.RowKit
set_option linter.unusedVariables false

/-- While they are marked: the block's slices stand; the lists from k on are as they were made. -/
structure MK2 (W : World) (B N s k : Nat) (gs : List FV) (p q : Nat → Nat) (wr : World) : Prop where
  c : ∃ cur : Array Value, wr.heap[B]? = some (.cells cur 34 (0, 0)) ∧ cur.size = N * 3 ∧ ∀ i, i < N → cur[i * 3]? = some (.slice (gs[i]?.getD noFV).a (gs[i]?.getD noFV).n (gs[i]?.getD noFV).cap) ∧ cur[i * 3 + 1]? = some (.slice (gs[i]?.getD noFV).c (gs[i]?.getD noFV).m (gs[i]?.getD noFV).cap')
  o : ∀ i, k ≤ i → i < N → Blk wr (p i) (gs[i]?.getD noFV).C ∧ Blk wr (q i) (gs[i]?.getD noFV).D
  t : Touch (fun x => B ≤ x ∧ x < s) W wr

end Go.Proofs.Ytemcinobgdphnaa
namespace Go.Proofs.Ytemcinobgdphnaa
open Go.RowKit
set_option linter.unusedVariables false
set_option maxRecDepth 100000

end Go.Proofs.Ytemcinobgdphnaa
namespace Go.Proofs.Ytemcinobgdphnaa
open Go.RowKit
set_option linter.unusedVariables false
set_option maxRecDepth 100000

set_option maxHeartbeats 800000 in
theorem iatG_any (a : Option Addr) (cap : Nat) (c : Option Addr) (cap' : Nat) (K : Int) (C D : List Int) (v : Option Addr) (cv : Nat) (u : Option Addr) (cu : Nat) (V A : List Int) (w : World)
    (hC : Ints w a 3 C) (hD : Ints w c 2 D) (hV : Ints w v 3 V) (hA : Ints w u 2 A) (P Q : Int) (p1 : bndP P C V) (p2 : bndP Q D A) (zP : 0 ≤ P) (zQ : 0 ≤ Q) (tP : P ≤ 100000000000) (tQ : Q ≤ 100000000000) (bK : -10000000 ≤ K ∧ K ≤ 10000000) :
    Calls Try.prog 35 #[formV a 3 cap c 2 cap' K, .slice v 3 cv, .slice u 2 cu] w fun e w' => e = .returned (.int .i64 (atV C D K V A)) ∧ Below w.heap.size w w' := by
  have d1 := dot_bnd p1 3
  have d2 := dot_bnd p2 2
  obtain ⟨K1, K2⟩ := bK
  have q1 : ∀ w' : World, Below w.heap.size w w' → Calls Try.prog 62 #[.slice a 3 cap, .slice v 3 cv] w' fun e w'' => e = .returned (.int .i64 (dot C V 3)) ∧ w'' = w' := fun w' hb => psum_any _ _ _ _ _ C V _ _ (hC.below hb) (hV.below hb) (by omega) p1 (by omega) (by omega)
  have q2 : ∀ w' : World, Below w.heap.size w w' → Calls Try.prog 62 #[.slice c 2 cap', .slice u 2 cu] w' fun e w'' => e = .returned (.int .i64 (dot D A 2)) ∧ w'' = w' := fun w' hb => psum_any _ _ _ _ _ D A _ _ (hD.below hb) (hA.below hb) (by omega) p2 (by omega) (by omega)
  have Q1 : Hid _ := q1
  have Q2 : Hid _ := q2
  obtain ⟨X, hX⟩ : ∃ X, X = dot C V 3 := ⟨_, rfl⟩
  obtain ⟨Y, hY⟩ : ∃ Y, Y = dot D A 2 := ⟨_, rfl⟩
  have e1 : -1000000000000 ≤ dot C V 3 := by omega
  have e2 : dot C V 3 ≤ 1000000000000 := by omega
  have e3 : -1000000000000 ≤ dot D A 2 := by omega
  have e4 : dot D A 2 ≤ 1000000000000 := by omega
  clear d1 d2 q1 q2 hX hY X Y p1 p2 zP zQ tP tQ hC hD hV hA
  go_enter Try.func35, Try.ntmps35
  go_wp2_with fail
  go_quiet (first | (go_at_call_of 62 (Value.slice a 3 cap); exact Calls.quiet_of_same (Q1.out _ (by repeat (first | exact (Below.refl _ _).alloc (Nat.le_refl _) _ | refine below_drewN ?_ _ | refine Below.drew ?_)))) | (go_at_call_of 62 (Value.slice c 2 cap'); exact Calls.quiet_of_same (Q2.out _ (by repeat (first | exact (Below.refl _ _).alloc (Nat.le_refl _) _ | refine below_drewN ?_ _ | refine Below.drew ?_)))))
  go_wp2
  go_ret
  exact ⟨rfl, below_drewN ((Below.refl _ _).alloc (Nat.le_refl _) _) _⟩

set_option maxHeartbeats 1600000 in
theorem satG_any (a : Option Addr) (cap : Nat) (c : Option Addr) (cap' : Nat) (K : Int) (C D : List Int) (v : Option Addr) (cv : Nat) (u : Option Addr) (cu : Nat) (V A : List Int) (w : World)
    (hC : Ints w a 3 C) (hD : Ints w c 2 D) (hV : Ints w v 3 V) (hA : Ints w u 2 A) (P Q : Int) (p1 : bndP P C V) (p2 : bndP Q D A) (zP : 0 ≤ P) (zQ : 0 ≤ Q) (tP : P ≤ 100000000000) (tQ : Q ≤ 100000000000) (bK : -10000000 ≤ K ∧ K ≤ 10000000) :
    Calls Try.prog 38 #[formV a 3 cap c 2 cap' K, .slice v 3 cv, .slice u 2 cu] w fun e w' => e = .returned (.int .i64 (atV C D K V A)) ∧ Below w.heap.size w w' := by
  obtain ⟨K1, K2⟩ := bK
  have P1 : Hid (bndP P C V) := p1
  have P2 : Hid (bndP Q D A) := p2
  clear p1 p2
  go_enter Try.func38, Try.ntmps38
  go_wp2_with fail
  go_loopw [7, 8] (fun s i wr => ∃ k : Nat, k ≤ 3 ∧ i = .int .i64 k ∧ s = .int .i64 (K + dot C V k) ∧ Below w.heap.size w wr ∧ Cel wr w.heap.size [.slice a 3 cap, .slice c 2 cap', .int .i64 K] 34) (fun _ i _ => 3 - (intOf i).toNat)
  case atStart => exact ⟨0, by omega, rfl, by simp [dot], (Below.refl _ _).alloc (Nat.le_refl _) _, Cel.new w _ _⟩
  case round =>
    obtain ⟨k, hk, rfl, rfl, hb, hS⟩ := hrel
    by_cases hlt : k < 3
    · obtain ⟨b, off, rfl, hcell⟩ := (hC.below hb).pos (by omega)
      obtain ⟨b', off', rfl, hcell'⟩ := (hV.below hb).pos (by omega)
      have hck := hcell k hlt
      have hck' := hcell' k hlt
      have hlt' : (k : Int) < 3 := by omega
      have s0 := hS.cell 0
      simp only [List.getElem?_cons_zero] at s0
      obtain ⟨d3, d4⟩ := P1.out k
      have d := dot_bnd P1.out k
      have kP : (k : Int) * P ≤ 3 * P := Int.mul_le_mul_of_nonneg_right (by omega) (by omega)
      have d1 : -1000000000000000 ≤ dot C V k := by omega
      have d2 : dot C V k ≤ 1000000000000000 := by omega
      have d7 : -100000000000 ≤ C[k]?.getD 0 * V[k]?.getD 0 := by omega
      have d8 : C[k]?.getD 0 * V[k]?.getD 0 ≤ 100000000000 := by omega
      clear hcell hcell' hC hD hV hA d kP d3 d4
      go_wp2_with fail
      go_quiet (fail)
      go_wp2
      go_roundw
      case rel => exact ⟨k + 1, by omega, by go_num, congrArg (Value.int IntKind.i64) (by simp only [dot]; omega), below_drewN hb _, hS⟩
      case measure => simp [intOf]; omega
    · obtain rfl : k = 3 := by omega
      have d := dot_bnd P1.out 3
      have d1 : -1000000000000000 ≤ dot C V 3 := by omega
      have d2 : dot C V 3 ≤ 1000000000000000 := by omega
      clear d hC hV
      go_wp2_with fail
      go_loopw [7, 9] (fun s i wx => ∃ k : Nat, k ≤ 2 ∧ i = .int .i64 k ∧ s = .int .i64 (K + dot C V 3 + dot D A k) ∧ Below w.heap.size w wx ∧ Cel wx w.heap.size [.slice a 3 cap, .slice c 2 cap', .int .i64 K] 34) (fun _ i _ => 2 - (intOf i).toNat)
      case atStart => exact ⟨0, by omega, rfl, by simp [dot], hb, hS⟩
      case round =>
        clear hb hS
        obtain ⟨j, hj, rfl, rfl, hb, hS⟩ := hrel
        by_cases hlt : j < 2
        · obtain ⟨b, off, rfl, hcell⟩ := (hD.below hb).pos (by omega)
          obtain ⟨b', off', rfl, hcell'⟩ := (hA.below hb).pos (by omega)
          have hck := hcell j hlt
          have hck' := hcell' j hlt
          have hlt' : (j : Int) < 2 := by omega
          have s0 := hS.cell 1
          simp only [List.getElem?_cons_zero, List.getElem?_cons_succ] at s0
          obtain ⟨d5, d6⟩ := P2.out j
          have d := dot_bnd P2.out j
          have kP : (j : Int) * Q ≤ 2 * Q := Int.mul_le_mul_of_nonneg_right (by omega) (by omega)
          have d3 : -1000000000000000 ≤ dot D A j := by omega
          have d4 : dot D A j ≤ 1000000000000000 := by omega
          have d7 : -100000000000 ≤ D[j]?.getD 0 * A[j]?.getD 0 := by omega
          have d8 : D[j]?.getD 0 * A[j]?.getD 0 ≤ 100000000000 := by omega
          clear hcell hcell' hD hA d kP d5 d6
          go_wp2_with fail
          go_quiet (fail)
          go_wp2
          go_roundw
          case rel => exact ⟨j + 1, by omega, by go_num, congrArg (Value.int IntKind.i64) (by simp only [dot]; omega), below_drewN hb _, hS⟩
          case measure => simp [intOf]; omega
        · obtain rfl : j = 2 := by omega
          go_wp2
          go_ret
          exact ⟨ret_int (by unfold atV; omega), hb⟩

/-- How great a pot may be behind so many lines. -/
def bd : Nat → Int
  | 0 => 10000
  | n + 1 => 7 * bd n + 56
theorem bd_pos : ∀ n, 10000 ≤ bd n
  | 0 => by simp [bd]
  | n + 1 => by have := bd_pos n; simp only [bd]; omega
theorem bd_succ (n : Nat) : bd n ≤ bd (n + 1) := by have := bd_pos n; simp only [bd]; omega
theorem bd_mono {n m : Nat} (h : n ≤ m) : bd n ≤ bd m := by
  induction h with
  | refl => exact Int.le_refl _
  | step _ ih => exact Int.le_trans ih (bd_succ _)
theorem bd_six {n : Nat} (h : n ≤ 6) : bd n ≤ 2000000000 := Int.le_trans (bd_mono h) (by simp [bd])
theorem bnd_mono {M M' : Int} {zs : List Int} (h : bnd M zs) (hM : M ≤ M') : bnd M' zs := fun i => by have := h i; omega
theorem small_elim {n m : Nat} {C D : List Int} {K : Int} (h : smallB n m C D K = true) : n = 3 ∧ m = 2 ∧ bnd 2 C ∧ bnd 2 D ∧ -20 ≤ K ∧ K ≤ 20 := by
  simp only [smallB, Bool.and_eq_true] at h
  obtain ⟨⟨h1, h2⟩, h3⟩ := h
  obtain ⟨e1, b1⟩ := okN_elim (by omega) h1
  obtain ⟨e2, b2⟩ := okN_elim (by omega) h2
  have := inB_iff.1 h3
  exact ⟨by omega, by omega, b1, b2, this.1, this.2⟩
/-- A small form is not much greater than the pots are. -/
theorem small_at {C D V U : List Int} {K M : Int} (bC : bnd 2 C) (bD : bnd 2 D) (k1 : -20 ≤ K) (k2 : K ≤ 20) (bV : bnd M V) (bU : bnd 9 U) (hM : 0 ≤ M) : bndP (2 * M) C V ∧ bndP 18 D U ∧ -(6 * M + 56) ≤ atV C D K V U ∧ atV C D K V U ≤ 6 * M + 56 := by
  have p1 := bndP_of bC bV (by omega) hM
  have p2 := bndP_of bD bU (by omega) (by omega)
  have d1 := dot_bnd p1 3
  have d2 := dot_bnd p2 2
  refine ⟨p1, p2, ?_, ?_⟩ <;> unfold atV <;> omega
theorem bnd_set {M : Int} {x : List Int} {k : Nat} {v : Int} (h : bnd M x) (h1 : -M ≤ v) (h2 : v ≤ M) : bnd M (x.set k v) := fun i => by
  by_cases e : i = k
  · subst e
    by_cases hi : i < x.length
    · rw [List.getElem?_set_self hi]; simp; omega
    · rw [List.getElem?_eq_none (by simp; omega)]
      have := h i
      simp
      omega
  · rw [List.getElem?_set_ne (by omega)]; exact h i

/-- The run of an act: whether it stopped, the pots, what was told; i: the line, f: how many steps at most. -/
def goL (U : List Int) (ls : List LV) : Nat → Nat → List Int → List Int → Bool × List Int × List Int
  | 0, _, x, tl => (false, x, tl)
  | f + 1, i, x, tl =>
    if i < ls.length then
      if (ls[i]?.getD noLV).kind = 1 then goL U ls f (if atF x U (ls[i]?.getD noLV).f < 0 then i + 1 + (ls[i]?.getD noLV).skip.toNat else i + 1) x tl
      else if (ls[i]?.getD noLV).kind = 2 then goL U ls f (i + 1) (x.set (ls[i]?.getD noLV).pot.toNat (x[(ls[i]?.getD noLV).pot.toNat]?.getD 0 + atF x U (ls[i]?.getD noLV).f)) tl
      else if (ls[i]?.getD noLV).kind = 3 then goL U ls f (i + 1) x (tl ++ [atF x U (ls[i]?.getD noLV).f])
      else (true, x, tl)
    else (false, x, tl)
theorem goL_end {U : List Int} {ls : List LV} {f i : Nat} {x tl : List Int} (h : ls.length ≤ i) : goL U ls f i x tl = (false, x, tl) := by
  cases f with
  | zero => rfl
  | succ f => rw [goL, if_neg (by omega)]
theorem goL_one {U : List Int} {ls : List LV} {f i : Nat} {x tl : List Int} {g : LV} (h : i < ls.length) (hf : 0 < f) (hg : ls[i]?.getD noLV = g) : goL U ls f i x tl = (if g.kind = 1 then goL U ls (f - 1) (if atF x U g.f < 0 then i + 1 + g.skip.toNat else i + 1) x tl else if g.kind = 2 then goL U ls (f - 1) (i + 1) (x.set g.pot.toNat (x[g.pot.toNat]?.getD 0 + atF x U g.f)) tl else if g.kind = 3 then goL U ls (f - 1) (i + 1) x (tl ++ [atF x U g.f]) else (true, x, tl)) := by
  obtain ⟨n, rfl⟩ : ∃ n, f = n + 1 := ⟨f - 1, by omega⟩
  rw [goL, if_pos h, hg]; rfl
/-- The whole run. -/
def runL (U : List Int) (ls : List LV) (V : List Int) : Bool × List Int × List Int := goL U ls 7 0 V []
/-- Where a run stands. -/
structure At (U : List Int) (ls : List LV) (V : List Int) (i : Nat) (x tl : List Int) : Prop where
  r : ∃ f, 7 ≤ i + f ∧ runL U ls V = goL U ls f i x tl
  b : i ≤ 6 → bnd (bd i) x
  l : x.length = 3
  t : tl.length ≤ i
theorem At.start {U : List Int} {ls : List LV} {V : List Int} (h : bnd 10000 V) (hl : V.length = 3) : At U ls V 0 V [] := ⟨⟨7, by omega, rfl⟩, fun _ => h, hl, Nat.le_refl _⟩
theorem At.done {U : List Int} {ls : List LV} {V : List Int} {i : Nat} {x tl : List Int} (h : At U ls V i x tl) (hi : ls.length ≤ i) : runL U ls V = (false, x, tl) := by
  obtain ⟨f, _, e⟩ := h.r
  rw [e, goL_end hi]
theorem At.one {U : List Int} {ls : List LV} {V : List Int} {i : Nat} {x tl : List Int} {g : LV} (h : At U ls V i x tl) (hi : i < ls.length) (h6 : ls.length ≤ 6) (hg : ls[i]?.getD noLV = g) : ∃ f, 7 ≤ (i + 1) + f ∧ runL U ls V = (if g.kind = 1 then goL U ls f (if atF x U g.f < 0 then i + 1 + g.skip.toNat else i + 1) x tl else if g.kind = 2 then goL U ls f (i + 1) (x.set g.pot.toNat (x[g.pot.toNat]?.getD 0 + atF x U g.f)) tl else if g.kind = 3 then goL U ls f (i + 1) x (tl ++ [atF x U g.f]) else (true, x, tl)) := by
  obtain ⟨f, h1, e⟩ := h.r
  exact ⟨f - 1, by omega, by rw [e, goL_one hi (by omega) hg]⟩
theorem At.skip {U : List Int} {ls : List LV} {V : List Int} {i j : Nat} {x tl : List Int} {g : LV} (h : At U ls V i x tl) (hi : i < ls.length) (h6 : ls.length ≤ 6) (hg : ls[i]?.getD noLV = g) (hk : g.kind = 1) (hj : j = if atF x U g.f < 0 then i + 1 + g.skip.toNat else i + 1) : At U ls V j x tl := by
  obtain ⟨f, h1, e⟩ := h.one hi h6 hg
  rw [if_pos hk, ← hj] at e
  have hij : i + 1 ≤ j := by rw [hj]; split <;> omega
  have ht := h.t
  exact ⟨⟨f, by omega, e⟩, fun h => bnd_mono (‹At U ls V i x tl›.b (by omega)) (bd_mono (by omega)), h.l, by omega⟩
theorem At.add {U : List Int} {ls : List LV} {V : List Int} {i : Nat} {x tl : List Int} {g : LV} (h : At U ls V i x tl) (hi : i < ls.length) (h6 : ls.length ≤ 6) (hg : ls[i]?.getD noLV = g) (hk : g.kind = 2) (h1 : -(6 * bd i + 56) ≤ atF x U g.f) (h2 : atF x U g.f ≤ 6 * bd i + 56) : At U ls V (i + 1) (x.set g.pot.toNat (x[g.pot.toNat]?.getD 0 + atF x U g.f)) tl := by
  obtain ⟨f, h3, e⟩ := h.one hi h6 hg
  rw [if_neg (by omega), if_pos hk] at e
  have ht := h.t
  refine ⟨⟨f, by omega, e⟩, fun _ => ?_, by rw [List.length_set]; exact h.l, by omega⟩
  have hb := h.b (by omega)
  have := hb g.pot.toNat
  have hp := bd_pos i
  exact bnd_set (bnd_mono hb (bd_succ i)) (by simp only [bd]; omega) (by simp only [bd]; omega)
theorem At.tell {U : List Int} {ls : List LV} {V : List Int} {i : Nat} {x tl : List Int} {g : LV} (h : At U ls V i x tl) (hi : i < ls.length) (h6 : ls.length ≤ 6) (hg : ls[i]?.getD noLV = g) (hk : g.kind = 3) : At U ls V (i + 1) x (tl ++ [atF x U g.f]) := by
  obtain ⟨f, h3, e⟩ := h.one hi h6 hg
  rw [if_neg (by omega), if_neg (by omega), if_pos hk] at e
  have ht := h.t
  exact ⟨⟨f, by omega, e⟩, fun _ => bnd_mono (h.b (by omega)) (bd_succ i), h.l, by rw [List.length_append]; simp; omega⟩
theorem At.stop {U : List Int} {ls : List LV} {V : List Int} {i : Nat} {x tl : List Int} {g : LV} (h : At U ls V i x tl) (hi : i < ls.length) (h6 : ls.length ≤ 6) (hg : ls[i]?.getD noLV = g) (h1 : ¬ g.kind = 1) (h2 : ¬ g.kind = 2) (h3 : ¬ g.kind = 3) : (runL U ls V).1 = true := by
  obtain ⟨f, _, e⟩ := h.one hi h6 hg
  rw [if_neg h1, if_neg h2, if_neg h3] at e
  rw [e]

end Go.Proofs.Ytemcinobgdphnaa
namespace Go.Proofs.Ytemcinobgdphnaa
open Go.RowKit
set_option linter.unusedVariables false
set_option maxRecDepth 100000

/-- All that is asked for is ok. -/
def runB (N : Nat) (ls : List LV) (p : Nat) (V : List Int) (q : Nat) (U : List Int) : Bool := actB N ls && okN 3 10000 p V && okN 2 9 q U
def runCode (N : Nat) (ls : List LV) (p : Nat) (V : List Int) (q : Nat) (U : List Int) : Int := if runB N ls p V q U then (if (runL U ls V).1 then 2 else endCode (runL U ls V).2.1) else 0
def runTells (N : Nat) (ls : List LV) (p : Nat) (V : List Int) (q : Nat) (U : List Int) : List Int := if runB N ls p V q U then (if (runL U ls V).1 then [] else endTells (runL U ls V).2.1 (runL U ls V).2.2) else []
def runPots (N : Nat) (ls : List LV) (p : Nat) (V : List Int) (q : Nat) (U : List Int) : List Int := if runB N ls p V q U then (if (runL U ls V).1 then V else endPots V (runL U ls V).2.1) else []
theorem run_no {N : Nat} {ls : List LV} {p : Nat} {V : List Int} {q : Nat} {U : List Int} (h : runB N ls p V q U = false) : runCode N ls p V q U = 0 ∧ runTells N ls p V q U = [] ∧ runPots N ls p V q U = [] := by
  simp [runCode, runTells, runPots, h]
theorem run_stop {N : Nat} {ls : List LV} {p : Nat} {V : List Int} {q : Nat} {U : List Int} (h : runB N ls p V q U = true) (hs : (runL U ls V).1 = true) : runCode N ls p V q U = 2 ∧ runTells N ls p V q U = [] ∧ runPots N ls p V q U = V := by
  simp [runCode, runTells, runPots, h, hs]
theorem run_go {N : Nat} {ls : List LV} {p : Nat} {V : List Int} {q : Nat} {U : List Int} {x tl : List Int} (h : runB N ls p V q U = true) (hs : runL U ls V = (false, x, tl)) : runCode N ls p V q U = endCode x ∧ runTells N ls p V q U = endTells x tl ∧ runPots N ls p V q U = endPots V x := by
  simp [runCode, runTells, runPots, h, hs]
theorem actB_six {N : Nat} {ls : List LV} (h : actB N ls = true) : N ≤ 6 ∧ ls.all LV.ok = true := by
  simp only [actB, Bool.and_eq_true, decide_eq_true_eq] at h
  exact ⟨by omega, h.1.2⟩
theorem allL_at {ls : List LV} {k : Nat} (h : ls.all LV.ok = true) (hk : k < ls.length) : (ls[k]?.getD noLV).ok = true := by
  rw [List.getElem?_eq_getElem hk]
  exact List.all_eq_true.1 h _ (List.getElem_mem hk)
theorem line_one {pot skip : Int} {n m : Nat} {C D : List Int} {K : Int} (h : lineB 1 pot skip n m C D K = true) : 1 ≤ skip ∧ skip ≤ 6 ∧ smallB n m C D K = true := by
  simp [lineB] at h
  have := inB_iff.1 h.1.2
  exact ⟨this.1, this.2, h.2⟩
theorem line_two {pot skip : Int} {n m : Nat} {C D : List Int} {K : Int} (h : lineB 2 pot skip n m C D K = true) : 0 ≤ pot ∧ pot < 3 ∧ smallB n m C D K = true := by
  simp [lineB] at h
  have := inB_iff.1 h.1.1
  exact ⟨this.1, by omega, h.2⟩
theorem line_three {pot skip : Int} {n m : Nat} {C D : List Int} {K : Int} (h : lineB 3 pot skip n m C D K = true) : smallB n m C D K = true := by
  simp [lineB] at h
  exact h.2
theorem JA.rebase {w w1 W : World} {v : Value} {xs : List Int} (j : JA w1 v xs W) (b : Below w.heap.size w w1) : JA w v xs W := by
  refine ⟨b.trans (j.b.mono b.size), j.o.1, ?_⟩
  have := b.size
  rcases j.o.2 with h2 | ⟨g, cap, cur, hv, hg, r⟩
  · exact Or.inl h2
  · exact Or.inr ⟨g, cap, cur, hv, by omega, r⟩
theorem JA.set {w W : World} {v : Value} {xs : List Int} (j : JA w v xs W) {B : Nat} (hB : w.heap.size ≤ B) (ne : v.ownBlock ≠ some B) (i : Nat) (y : Value) : JA w v xs (W.setCell ⟨B, i, none⟩ y) := by
  refine ⟨j.b.setCell hB _, j.o.1, ?_⟩
  rcases j.o.2 with h2 | ⟨g, cap, cur, hv, hg, hh, r⟩
  · exact Or.inl h2
  · refine Or.inr ⟨g, cap, cur, hv, hg, ?_, r⟩
    have hne : g ≠ B := fun e => ne (by rw [hv, e]; rfl)
    rw [Below.heap_setCell _ _ _ _ hne]; exact hh
/-- x lies apart from a list that has been appended to. -/
theorem OwnX.grown {W W' : World} {a : Option Addr} {B n : Nat} {zs : List Int} {row : Option Nat} {o : Obj} (h : OwnX W a B n zs) (hg : (W.alloc o).grownBy W' row) (hne : row ≠ some B) : OwnX W' a B n zs := by
  refine ⟨h.1, ?_⟩
  rcases h.2 with h0 | ⟨e, cur, hc, hv⟩
  · exact .inl h0
  · refine .inr ⟨e, cur, ?_, hv⟩
    have hl := hc.lt
    have h1 : Cel (W.alloc o) B cur 3 := hc.alloc o
    unfold Cel at *
    rw [hg.block B (by rw [World.size_alloc]; omega) (fun e => hne e.symm)]; exact h1
theorem Cel.grown {W W' : World} {B : Nat} {vs : List Value} {t : TypeId} {row : Option Nat} {o : Obj} (h : Cel W B vs t) (hg : (W.alloc o).grownBy W' row) (hne : row ≠ some B) : Cel W' B vs t := by
  have hl := h.lt
  have h1 : Cel (W.alloc o) B vs t := h.alloc o
  unfold Cel at *
  rw [hg.block B (by rw [World.size_alloc]; omega) (fun e => hne e.symm)]; exact h1

end Go.Proofs.Ytemcinobgdphnaa
namespace Go.Proofs.Ytemcinobgdphnaa
open Go.RowKit
set_option linter.unusedVariables false
set_option maxRecDepth 100000

theorem as_testStep_testStep (v : Value) (w : World) : (Instr.typeAssert (.iface 133 v) 122 133 true).run Try.prog w = .ok (.tuple #[v, .bool true]) w := by kernel_rfl
theorem as_testStep_addStep (v : Value) (w : World) : (Instr.typeAssert (.iface 133 v) 122 135 true).run Try.prog w = .ok (.tuple #[.agg #[.int .i64 0, .slice none 0 0, .slice none 0 0, .int .i64 0], .bool false]) w := by kernel_rfl
theorem as_testStep_printStep (v : Value) (w : World) : (Instr.typeAssert (.iface 133 v) 122 137 true).run Try.prog w = .ok (.tuple #[.agg #[.slice none 0 0, .slice none 0 0, .int .i64 0], .bool false]) w := by kernel_rfl
theorem as_testStep_stopStep (v : Value) (w : World) : (Instr.typeAssert (.iface 133 v) 122 139 true).run Try.prog w = .ok (.tuple #[.agg #[], .bool false]) w := by kernel_rfl
theorem as_addStep_testStep (v : Value) (w : World) : (Instr.typeAssert (.iface 135 v) 122 133 true).run Try.prog w = .ok (.tuple #[.agg #[.int .i64 0, .slice none 0 0, .slice none 0 0, .int .i64 0], .bool false]) w := by kernel_rfl
theorem as_addStep_addStep (v : Value) (w : World) : (Instr.typeAssert (.iface 135 v) 122 135 true).run Try.prog w = .ok (.tuple #[v, .bool true]) w := by kernel_rfl
theorem as_addStep_printStep (v : Value) (w : World) : (Instr.typeAssert (.iface 135 v) 122 137 true).run Try.prog w = .ok (.tuple #[.agg #[.slice none 0 0, .slice none 0 0, .int .i64 0], .bool false]) w := by kernel_rfl
theorem as_addStep_stopStep (v : Value) (w : World) : (Instr.typeAssert (.iface 135 v) 122 139 true).run Try.prog w = .ok (.tuple #[.agg #[], .bool false]) w := by kernel_rfl
theorem as_printStep_testStep (v : Value) (w : World) : (Instr.typeAssert (.iface 137 v) 122 133 true).run Try.prog w = .ok (.tuple #[.agg #[.int .i64 0, .slice none 0 0, .slice none 0 0, .int .i64 0], .bool false]) w := by kernel_rfl
theorem as_printStep_addStep (v : Value) (w : World) : (Instr.typeAssert (.iface 137 v) 122 135 true).run Try.prog w = .ok (.tuple #[.agg #[.int .i64 0, .slice none 0 0, .slice none 0 0, .int .i64 0], .bool false]) w := by kernel_rfl
theorem as_printStep_printStep (v : Value) (w : World) : (Instr.typeAssert (.iface 137 v) 122 137 true).run Try.prog w = .ok (.tuple #[v, .bool true]) w := by kernel_rfl
theorem as_printStep_stopStep (v : Value) (w : World) : (Instr.typeAssert (.iface 137 v) 122 139 true).run Try.prog w = .ok (.tuple #[.agg #[], .bool false]) w := by kernel_rfl
theorem as_stopStep_testStep (v : Value) (w : World) : (Instr.typeAssert (.iface 139 v) 122 133 true).run Try.prog w = .ok (.tuple #[.agg #[.int .i64 0, .slice none 0 0, .slice none 0 0, .int .i64 0], .bool false]) w := by kernel_rfl
theorem as_stopStep_addStep (v : Value) (w : World) : (Instr.typeAssert (.iface 139 v) 122 135 true).run Try.prog w = .ok (.tuple #[.agg #[.int .i64 0, .slice none 0 0, .slice none 0 0, .int .i64 0], .bool false]) w := by kernel_rfl
theorem as_stopStep_printStep (v : Value) (w : World) : (Instr.typeAssert (.iface 139 v) 122 137 true).run Try.prog w = .ok (.tuple #[.agg #[.slice none 0 0, .slice none 0 0, .int .i64 0], .bool false]) w := by kernel_rfl
theorem as_stopStep_stopStep (v : Value) (w : World) : (Instr.typeAssert (.iface 139 v) 122 139 true).run Try.prog w = .ok (.tuple #[v, .bool true]) w := by kernel_rfl

section
variable {w1 W W' : World} {Dd B cp : Nat} {ua : Option Addr} {cu : Nat} {v : Value} {x tl : List Int}
end

end Go.Proofs.Ytemcinobgdphnaa
namespace Go.Proofs.Ytemcinobgdphnaa
open Go.RowKit
set_option linter.unusedVariables false
set_option maxRecDepth 100000

theorem touch_grown {S : Nat → Prop} {w W W' : World} {row : Option Nat} (h : Touch S w W) (g : W.grownBy W' row) (hr : ∀ k, row = some k → S k) : Touch S w W' :=
  ⟨g.os.trans h.os, g.tape.trans h.tape, g.output.trans h.output, Nat.le_trans h.size g.size, fun k hk hs => (g.block k (Nat.lt_of_lt_of_le hk h.size) (fun e => hs (hr k e.symm))).trans (h.block k hk hs)⟩

end Go.Proofs.Ytemcinobgdphnaa
namespace Go.Proofs.Ytemcinobgdphnaa
open Go.RowKit
set_option linter.unusedVariables false
set_option maxRecDepth 100000

end Go.Proofs.Ytemcinobgdphnaa
namespace Go.Proofs.Ytemcinobgdphnaa
open Go.RowKit
set_option linter.unusedVariables false
set_option maxRecDepth 100000

theorem JS.open {w W : World} {v : Value} {ls : List LV} {N : Nat} (j : JS w v (ls.map stepV) W) (hN : ls.length = N) : ∃ sa cap G, v = .slice sa N cap ∧ (0 < N → sa = some ⟨G, 0, none⟩) ∧ ∀ i, i < N → W.cell? ⟨G, i, none⟩ = some (stepV (ls[i]?.getD noLV)) := by
  have hl : (ls.map stepV).length = N := by rw [List.length_map, hN]
  rcases j.o.2 with ⟨hv, h⟩ | ⟨g, cap', cur, hv, hg, hh, hcl, _, hs, ht⟩
  · rw [hl] at h
    subst h
    exact ⟨none, 0, 0, hv, fun h => by omega, fun i h => by omega⟩
  · have o := j.o
    rw [hl] at hv o
    rw [hv] at o
    refine ⟨some ⟨g, 0, none⟩, cap', g, hv, fun _ => rfl, fun i hi => ?_⟩
    rw [o.cellAt i (by omega), List.getElem?_map, List.getElem?_eq_getElem (by omega)]
    rfl

end Go.Proofs.Ytemcinobgdphnaa
namespace Go.Proofs.Ytemcinobgdphnaa
open Go.RowKit
set_option linter.unusedVariables false

theorem two_of {A : List Int} (h : A.length = 2) : ∃ x y, A = [x, y] := by
  match A, h with
  | [x, y], _ => exact ⟨x, y, rfl⟩
theorem three_of {A : List Int} (h : A.length = 3) : ∃ x y z, A = [x, y, z] := by
  match A, h with
  | [x, y, z], _ => exact ⟨x, y, z, rfl⟩
/-- Within what a form's numbers may be. -/
def inM (x : Int) : Prop := -10000000 ≤ x ∧ x ≤ 10000000
theorem okP_of {x y z s t K : Int} (hx : inM x) (hy : inM y) (hz : inM z) (hs : inM s) (ht : inM t) (hK : inM K) : okP ([x, y, z], [s, t], K) = true := by
  unfold inM at *
  simp [okP, formB, okN, allB, inB]
  omega
theorem okP_shape {f : Frm} (h : okP f = true) : ∃ x y z s t K, f = ([x, y, z], [s, t], K) ∧ inM x ∧ inM y ∧ inM z ∧ inM s ∧ inM t ∧ inM K := by
  obtain ⟨C, D, K⟩ := f
  obtain ⟨l1, l2, b1, b2, b3, b4⟩ := formB_elim h
  obtain ⟨x, y, z, rfl⟩ := three_of l1
  obtain ⟨s, t, rfl⟩ := two_of l2
  have c0 := b1 0
  have c1 := b1 1
  have c2 := b1 2
  have d0 := b2 0
  have d1 := b2 1
  simp only [List.getElem?_cons_zero, List.getElem?_cons_succ, Option.getD_some] at c0 c1 c2 d0 d1
  exact ⟨x, y, z, s, t, K, rfl, c0, c1, c2, d0, d1, ⟨b3, b4⟩⟩
theorem okP_no {x y z s t K : Int} (h : okP ([x, y, z], [s, t], K) = true) : inM x ∧ inM y ∧ inM z ∧ inM s ∧ inM t ∧ inM K := by
  obtain ⟨x', y', z', s', t', K', e, h⟩ := okP_shape h
  simp only [Prod.mk.injEq, List.cons.injEq, and_true] at e
  obtain ⟨⟨rfl, rfl, rfl⟩, ⟨rfl, rfl⟩, rfl⟩ := e
  exact h
theorem timP_no {f : Frm} {k : Int} (h : timB f k = false) : timP f k = ([], [], 0) := by unfold timP; rw [h]; rfl
theorem timP_yes {f : Frm} {k : Int} (h : timB f k = true) : timP f k = (mulL k f.1, mulL k f.2.1, k * f.2.2) := by unfold timP; rw [h]; rfl
theorem timB_ok {f : Frm} {k : Int} (h : timB f k = true) : okP f = true ∧ -10000000 ≤ k ∧ k ≤ 10000000 := by
  unfold timB timOk at h
  simp only [Bool.and_eq_true] at h
  exact ⟨h.1.1, inB_iff.1 h.1.2⟩
theorem timB_not {f : Frm} {k : Int} (h : okP f = false) : timB f k = false := by
  unfold okP at h
  unfold timB timOk
  rw [h]; rfl
theorem tim_shape {x y z s t K k : Int} (h : okP ([x, y, z], [s, t], K) = true) (h1 : -10000000 ≤ k) (h2 : k ≤ 10000000) (h3 : okP ([k * x, k * y, k * z], [k * s, k * t], k * K) = true) : timP ([x, y, z], [s, t], K) k = ([k * x, k * y, k * z], [k * s, k * t], k * K) := by
  have hb : timB ([x, y, z], [s, t], K) k = true := by
    unfold timB timOk
    unfold okP at h h3
    rw [h, inB_iff.2 ⟨h1, h2⟩]
    exact h3
  rw [timP_yes hb]
  rfl
theorem tim_one {f : Frm} (h : okP f = true) : timP f 1 = f := by
  obtain ⟨x, y, z, s, t, K, rfl, _⟩ := okP_shape h
  have e := tim_shape (k := 1) h (by omega) (by omega) (by simpa using h)
  simpa using e
theorem tim_nil {f : Frm} (h : okP f = true) : timP f 0 = zeroP := by
  obtain ⟨x, y, z, s, t, K, rfl, _⟩ := okP_shape h
  have e := tim_shape (k := 0) h (by omega) (by omega) (by simp; decide)
  simpa [zeroP] using e
theorem tim_neg {x y z s t K : Int} (h : okP ([x, y, z], [s, t], K) = true) : timP ([x, y, z], [s, t], K) (-1) = ([-x, -y, -z], [-s, -t], -K) ∧ okP ([-x, -y, -z], [-s, -t], -K) = true := by
  obtain ⟨a1, a2, a3, a4, a5, a6⟩ := okP_no h
  have h' : okP ([-x, -y, -z], [-s, -t], -K) = true := okP_of (by unfold inM at *; omega) (by unfold inM at *; omega) (by unfold inM at *; omega) (by unfold inM at *; omega) (by unfold inM at *; omega) (by unfold inM at *; omega)
  have e := tim_shape (k := -1) h (by omega) (by omega) (by simpa using h')
  exact ⟨by simpa using e, h'⟩
theorem tim_back {f : Frm} (h : okP f = true) : timP (timP f (-1)) (-1) = f := by
  obtain ⟨x, y, z, s, t, K, rfl, _⟩ := okP_shape h
  obtain ⟨e, h'⟩ := tim_neg h
  rw [e, (tim_neg h').1]
  simp
theorem add_neg {f : Frm} (h : okP f = true) : addP f (timP f (-1)) = zeroP := by
  obtain ⟨x, y, z, s, t, K, rfl, _⟩ := okP_shape h
  obtain ⟨e, h'⟩ := tim_neg h
  rw [e]
  have hb : addB ([x, y, z], [s, t], K) ([-x, -y, -z], [-s, -t], -K) = true := by
    unfold addB addOk
    unfold okP at h h'
    rw [h, h']
    simp [lin, formB, okN, allB, inB]
    omega
  unfold addP
  rw [hb]
  simp [keepL, keepK, lin, zeroP]
  omega
theorem dot_mul {xs V : List Int} {n : Int} {k : Nat} (h : xs.length = k) : ∀ j, j ≤ k → dot (mulL n xs) V j = n * dot xs V j
  | 0, _ => by simp [dot]
  | j + 1, hj => by
    have ih := dot_mul (V := V) (n := n) h j (by omega)
    have e := mulL_get (n := n) (zs := xs) (i := j) (by omega)
    simp only [dot, ih, e]
    rw [Int.mul_add, Int.mul_assoc]
theorem at_bnd {f : Frm} {V A : List Int} : -10000000000000 ≤ atP f V A ∧ atP f V A ≤ 10000000000000 := by
  unfold atP
  cases h : atOk f.1.length f.2.1.length V.length A.length f.1 f.2.1 f.2.2 V A
  · rw [atN_no h]; omega
  · rw [atN_yes h]
    unfold atOk at h
    simp only [Bool.and_eq_true] at h
    obtain ⟨⟨h1, h2⟩, h3⟩ := h
    obtain ⟨_, _, b1, b2, b3, b4⟩ := formB_elim h1
    have v1 := (okN_elim (by omega) h2).2
    have a1 := (okN_elim (by omega) h3).2
    have d1 := dot_bnd (bndP_of b1 v1 (by omega) (by omega)) 3
    have d2 := dot_bnd (bndP_of b2 a1 (by omega) (by omega)) 2
    unfold atV
    omega
theorem tim_at {f : Frm} {k : Int} {V A : List Int} (h : atB (timP f k) V A = true) : atB f V A = true ∧ atP (timP f k) V A = k * atP f V A := by
  have hb : timB f k = true := by
    cases hb : timB f k
    · rw [timP_no hb] at h
      unfold atB atOk at h
      simp [formB, okN] at h
    · rfl
  obtain ⟨h1, _, _⟩ := timB_ok hb
  have h' := h
  unfold atB atOk at h'
  simp only [Bool.and_eq_true] at h'
  obtain ⟨⟨_, hV⟩, hA⟩ := h'
  have t1 : atB f V A = true := by unfold okP at h1; unfold atB atOk; rw [h1, hV, hA]; rfl
  refine ⟨t1, ?_⟩
  have l1 := formB_elim h1
  unfold atP
  rw [atN_yes h, atN_yes t1, timP_yes hb]
  unfold atV
  rw [dot_mul l1.1 3 (by omega), dot_mul l1.2.1 2 (by omega)]
  dsimp only
  rw [Int.mul_add, Int.mul_add]

end Go.Proofs.Ytemcinobgdphnaa
namespace Go.Proofs.Ytemcinobgdphnaa
open Go.RowKit
set_option linter.unusedVariables false
set_option maxRecDepth 100000

theorem goL_len (U : List Int) (ls : List LV) : ∀ (f i : Nat) (x tl : List Int), (goL U ls f i x tl).2.1.length = x.length ∧ (goL U ls f i x tl).2.2.length ≤ tl.length + f
  | 0, i, x, tl => by simp [goL]
  | f + 1, i, x, tl => by
    unfold goL
    split
    · split
      · have h := goL_len U ls f (if atF x U (ls[i]?.getD noLV).f < 0 then i + 1 + (ls[i]?.getD noLV).skip.toNat else i + 1) x tl
        exact ⟨h.1, by omega⟩
      · split
        · have h := goL_len U ls f (i + 1) (x.set (ls[i]?.getD noLV).pot.toNat (x[(ls[i]?.getD noLV).pot.toNat]?.getD 0 + atF x U (ls[i]?.getD noLV).f)) tl
          exact ⟨by rw [h.1, List.length_set], by omega⟩
        · split
          · have h := goL_len U ls f (i + 1) x (tl ++ [atF x U (ls[i]?.getD noLV).f])
            rw [List.length_append] at h
            exact ⟨h.1, by simp only [List.length_cons, List.length_nil] at h; omega⟩
          · simp
    · simp
theorem goL_stop (U : List Int) (ls : List LV) (s : LV) (hs : s.kind = 4) : ∀ (f i : Nat) (x tl : List Int), (goL U (ls ++ [s]) f i x tl).1 = true ∨ (goL U (ls ++ [s]) f i x tl = goL U ls f i x tl ∧ (goL U ls f i x tl).1 = false)
  | 0, i, x, tl => by right; simp [goL]
  | f + 1, i, x, tl => by
    by_cases hi : i < ls.length
    · have e : (ls ++ [s])[i]?.getD noLV = ls[i]?.getD noLV := by rw [List.getElem?_append_left hi]
      unfold goL
      rw [if_pos hi, if_pos (by rw [List.length_append]; omega), e]
      split
      · exact goL_stop U ls s hs f _ x tl
      · split
        · exact goL_stop U ls s hs f _ _ tl
        · split
          · exact goL_stop U ls s hs f _ x _
          · left; rfl
    · by_cases hl : i = ls.length
      · left
        subst hl
        unfold goL
        rw [if_pos (by rw [List.length_append]; simp)]
        have e : (ls ++ [s])[ls.length]?.getD noLV = s := by simp
        rw [e, hs]
        rfl
      · right
        unfold goL
        rw [if_neg hi, if_neg (by rw [List.length_append]; simp; omega)]
        exact ⟨rfl, rfl⟩
theorem runTells_le (N : Nat) (ls : List LV) (p : Nat) (V : List Int) (q : Nat) (U : List Int) : (runTells N ls p V q U).length ≤ 7 := by
  have h := (goL_len U ls 7 0 V []).2
  unfold runTells
  split
  · split
    · simp
    · unfold endTells
      split
      · unfold runL; simpa using h
      · simp
  · simp
theorem runPots_le (N : Nat) (ls : List LV) (p : Nat) (V : List Int) (q : Nat) (U : List Int) : (runPots N ls p V q U).length ≤ V.length := by
  have h := (goL_len U ls 7 0 V []).1
  unfold runPots
  split
  · split
    · exact Nat.le_refl _
    · unfold endPots
      split
      · unfold runL; omega
      · exact Nat.le_refl _
  · simp
/-- A call has done an act: what came of it, and what the pots have. -/
def RunM (w w' : World) (e : Ending) (code : Int) (tl pl : List Int) : Prop := ∃ a n cap b m cap', e = .returned (.tuple #[resV code a n cap, .slice b m cap']) ∧ Ints w' a n tl ∧ Ints w' b m pl ∧ Below w.heap.size w w'
theorem RunM.of {w w' : World} {e : Ending} {code : Int} {tl pl : List Int} (h : ResD w w' e code tl pl) : RunM w w' e code tl pl := by
  obtain ⟨a, n, cap, B1, b, m, cap', B2, he, h1, h2, hb, o1, o2, _⟩ := h
  exact ⟨a, n, cap, b, m, cap', he, o1.ints, o2.ints, hb⟩

end Go.Proofs.Ytemcinobgdphnaa
namespace Go.Proofs.Ytemcinobgdphnaa
open Go.RowKit
set_option linter.unusedVariables false
set_option maxRecDepth 100000

theorem flatL_set : ∀ (ls : List LV) (k r : Nat) (l' : LV) (u : Value), k < ls.length → r < 6 → l'.cs = (ls[k]?.getD noLV).cs.set r u → (ls.set k l').flatMap LV.cs = (ls.flatMap LV.cs).set (k * 6 + r) u := by
  intro ls
  induction ls with
  | nil => intro k r l' u hk; simp at hk
  | cons g gs ih =>
    intro k r l' u hk hr hc
    rcases k with _ | k
    · simp only [List.getElem?_cons_zero, Option.getD_some] at hc
      simp only [List.set_cons_zero, List.flatMap_cons, Nat.zero_mul, Nat.zero_add, hc]
      rw [List.set_append_left _ _ (by simp [LV.cs]; omega)]
    · simp only [List.getElem?_cons_succ] at hc
      simp only [List.set_cons_succ, List.flatMap_cons]
      rw [ih k r l' u (by simpa using hk) hr hc, List.set_append_right _ _ (by simp [LV.cs]; omega)]
      have e : (k + 1) * 6 + r - g.cs.length = k * 6 + r := by simp [LV.cs]; omega
      rw [e]
theorem two_lv {P : LV → Prop} {l m : LV} (h0 : P l) (h1 : P m) : ∀ i, i < [l, m].length → P ([l, m][i]?.getD noLV) := fun i hi => by
  rcases i with _ | _ | i
  · exact h0
  · exact h1
  · simp only [List.length_cons, List.length_nil] at hi; omega
/-- How long a slice is. -/
def lenOf : Value → Nat
  | .slice _ n _ => n
  | _ => 0
theorem getD_set {ls : List LV} {k i : Nat} {l' : LV} (hk : k < ls.length) : (ls.set k l')[i]?.getD noLV = if i = k then l' else ls[i]?.getD noLV := by
  by_cases h : i = k
  · subst h; rw [if_pos rfl, List.getElem?_set_self hk]; rfl
  · rw [if_neg h, List.getElem?_set_ne (fun e => h e.symm)]
section
variable {wL W W' : World} {R : Nat} {a : Option Addr} {n cap : Nat} {bs : List Int} {q : Int} {v : Value} {ls : List LV}
/-- A number of a line is changed. -/
theorem JL.set {g N c k r : Nat} {l' : LV} {u : Value} (j : JL wL R a n cap bs q (.slice (some ⟨g, 0, none⟩) N c) ls W) (hN : ls.length = N) (hk : k < ls.length) (hr : r < 6) (hc : l'.cs = (ls[k]?.getD noLV).cs.set r u) (h1 : u.oneCell' = true)
    (hat : l'.f.At W) (ha : ∀ b o, l'.f.a = some ⟨b, o, none⟩ → wL.heap.size ≤ b ∧ b < W.heap.size ∧ g ≠ b) (hcc : ∀ b o, l'.f.c = some ⟨b, o, none⟩ → wL.heap.size ≤ b ∧ b < W.heap.size ∧ g ≠ b) : JL wL R a n cap bs q (.slice (some ⟨g, 0, none⟩) N c) (ls.set k l') (W.setCell ⟨g, k * 6 + r, none⟩ u) := by
  have hg := j.o.lt g rfl
  have lR := j.lR
  have T : Touch (fun x => x = g) W (W.setCell ⟨g, k * 6 + r, none⟩ u) := Touch.setCell (S := fun x => x = g) (Touch.refl _ _) rfl _
  have o := j.o
  rw [hN] at o
  have hs : (W.setCell ⟨g, k * 6 + r, none⟩ u).heap.size = W.heap.size := size_setCell _ _ _
  have nb : ∀ i, i < ls.length → ∀ b o, (ls[i]?.getD noLV).f.a = some ⟨b, o, none⟩ → ¬ b = g := fun i hi b o e h => (j.na i hi b o e).2.2 (by rw [h]; rfl)
  have nb2 : ∀ i, i < ls.length → ∀ b o, (ls[i]?.getD noLV).f.c = some ⟨b, o, none⟩ → ¬ b = g := fun i hi b o e h => (j.nc i hi b o e).2.2 (by rw [h]; rfl)
  refine ⟨j.t.setNewF hg.1 _ _, j.r.touch T (by omega) (fun h0 b o e h => by have := j.lb h0 b o e; omega), ?_, fun i hi => ?_, fun i hi b o e => ?_, fun i hi b o e => ?_, j.lR, j.lb⟩
  · rw [List.length_set, hN, flatL_set ls k r l' u hk hr hc]
    exact (World.ownsRow.stored o (k * 6 + r) u).1
  · rw [List.length_set] at hi
    rw [getD_set hk]
    by_cases h : i = k
    · rw [if_pos h]; exact hat.off T (fun b o e h2 => (ha b o e).2.2 h2.symm) (fun b o e h2 => (hcc b o e).2.2 h2.symm)
    · rw [if_neg h]; exact (j.at' i hi).off T (nb i hi) (nb2 i hi)
  · rw [List.length_set] at hi
    rw [getD_set hk] at e
    by_cases h : i = k
    · rw [if_pos h] at e; have h3 := ha b o e; exact ⟨h3.1, by omega, fun e2 => h3.2.2 (by simpa [Value.ownBlock] using e2)⟩
    · rw [if_neg h] at e; have h3 := j.na i hi b o e; exact ⟨h3.1, by omega, h3.2.2⟩
  · rw [List.length_set] at hi
    rw [getD_set hk] at e
    by_cases h : i = k
    · rw [if_pos h] at e; have h3 := hcc b o e; exact ⟨h3.1, by omega, fun e2 => h3.2.2 (by simpa [Value.ownBlock] using e2)⟩
    · rw [if_neg h] at e; have h3 := j.nc i hi b o e; exact ⟨h3.1, by omega, h3.2.2⟩
/-- Lines are put behind the others. -/
theorem JL.apps {ns : List LV} {g c k m : Nat} {H : Nat} (j : JL wL R a n cap bs q v ls W) (hk : ls.length = k) (hm : ns.length = m) (hl : ∀ i, i < ns.length → (ns[i]?.getD noLV).f.At W) (la : ∀ i, i < ns.length → ∀ b o, (ns[i]?.getD noLV).f.a = some ⟨b, o, none⟩ → wL.heap.size ≤ b ∧ b < H ∧ v.ownBlock ≠ some b) (lc : ∀ i, i < ns.length → ∀ b o, (ns[i]?.getD noLV).f.c = some ⟨b, o, none⟩ → wL.heap.size ≤ b ∧ b < H ∧ v.ownBlock ≠ some b) (hH : H ≤ W.heap.size) (hsz : ∀ i, i < ls.length → (∀ b o, (ls[i]?.getD noLV).f.a = some ⟨b, o, none⟩ → b < H) ∧ (∀ b o, (ls[i]?.getD noLV).f.c = some ⟨b, o, none⟩ → b < H))
    (hown : W'.ownsRow wL.heap.size 51 6 (.slice (some ⟨g, 0, none⟩) (k + m) c) (k + m) (ls.flatMap LV.cs ++ ns.flatMap LV.cs)) (hg : W.grownBy W' v.ownBlock) (hat : v.ownBlock = some g ∨ H ≤ g) : JL wL R a n cap bs q (.slice (some ⟨g, 0, none⟩) (k + m) c) (ls ++ ns) W' := by
  have hr : ∀ x, v.ownBlock = some x → wL.heap.size ≤ x := fun x hx => (j.o.lt x hx).1
  have lR := j.lR
  have T : Touch (fun x => v.ownBlock = some x) W W' := ⟨hg.os, hg.tape, hg.output, hg.size, fun x hx hs => hg.block x hx (fun e => hs e.symm)⟩
  have hn : ∀ b, v.ownBlock ≠ some b → b < H → (Value.slice (some ⟨g, 0, none⟩) (k + m) c).ownBlock ≠ some b := fun b h1 h2 e => by
    simp only [Value.ownBlock, Option.some.injEq] at e
    rcases hat with h | h
    · rw [h] at h1; exact h1 (by rw [e])
    · omega
  have key : ∀ i, i < (ls ++ ns).length → (i < ls.length ∧ (ls ++ ns)[i]?.getD noLV = ls[i]?.getD noLV) ∨ (i - ls.length < ns.length ∧ (ls ++ ns)[i]?.getD noLV = ns[i - ls.length]?.getD noLV) := fun i hi => by
    by_cases h : i < ls.length
    · left; exact ⟨h, by rw [List.getElem?_append_left h]⟩
    · right
      rw [List.length_append] at hi
      exact ⟨by omega, by rw [List.getElem?_append_right (by omega)]⟩
  have hs := hg.size
  refine ⟨j.t.grown hg hr, j.r.touch T (fun e => by have := hr _ e; omega) (fun h0 b o hab e => by have := j.lb h0 b o hab; have := hr _ e; omega), ?_, fun i hi => ?_, fun i hi b o e => ?_, fun i hi b o e => ?_, j.lR, j.lb⟩
  · rw [List.length_append, hk, hm, List.flatMap_append]
    exact hown
  · rcases key i hi with ⟨h, e⟩ | ⟨h, e⟩
    · rw [e]; exact (j.at' i h).off T (fun b o e h' => (j.na i h b o e).2.2 h') (fun b o e h' => (j.nc i h b o e).2.2 h')
    · rw [e]; exact (hl _ h).off T (fun b o e h' => (la _ h b o e).2.2 h') (fun b o e h' => (lc _ h b o e).2.2 h')
  · rcases key i hi with ⟨h, e'⟩ | ⟨h, e'⟩
    · rw [e'] at e; have h3 := j.na i h b o e; exact ⟨h3.1, by omega, hn b h3.2.2 ((hsz i h).1 b o e)⟩
    · rw [e'] at e; have h3 := la _ h b o e; exact ⟨h3.1, by omega, hn b h3.2.2 h3.2.1⟩
  · rcases key i hi with ⟨h, e'⟩ | ⟨h, e'⟩
    · rw [e'] at e; have h3 := j.nc i h b o e; exact ⟨h3.1, by omega, hn b h3.2.2 ((hsz i h).2 b o e)⟩
    · rw [e'] at e; have h3 := lc _ h b o e; exact ⟨h3.1, by omega, hn b h3.2.2 h3.2.1⟩
end

set_option maxHeartbeats 6400000 in
theorem any_f (R : Nat) (a : Option Addr) (n cap : Nat) (bs : List Int) (p M : Int) (w : World) (rd : Rd w R a n cap bs p) (hp : 0 ≤ p) (hp1 : p ≤ 7000000) (hM : 1 ≤ M) (hM1 : M ≤ 1000) (ha : 0 < n → ∀ b o, a = some ⟨b, o, none⟩ → b < w.heap.size) :
    Calls Try.prog 68 #[.pointer (some ⟨R, 0, none⟩), .int .i64 M] w fun e w' => ∃ ad N c ls q, e = .returned (.slice ad N c) ∧ JL w R a n cap bs q (.slice ad N c) ls w' ∧ ls.length = N ∧ N ≤ 8 ∧ p ≤ q ∧ q ≤ p + 120 := by
  have hRl := rd.c.lt
  obtain ⟨i0, hi, hz0, hz1, hz2⟩ := info_parts Try.infoLn
  go_enter Try.func68, Try.ntmps68
  go_wp2_with fail
  refine (act_f R a n cap bs p _ rd hp (by omega) ha).mono ?_
  rintro e w1 ⟨ad, N, c, ls, q, rfl, j, hN, hok, q0, q1⟩
  have HN : Hid (ls.length = N) := hN
  have hN6 : N ≤ 6 := by unfold actB at hok; simp only [Bool.and_eq_true, decide_eq_true_eq] at hok; omega
  clear hN hok rd
  by_cases h0 : N = 0
  · subst h0
    go_wp2
    go_ret
    exact ⟨_, 0, _, ls, q, rfl, j, HN.out, by omega, by omega, by omega⟩
  have h0' : ((N : Int) == 0) = false := by simp; omega
  have hNp : 0 < N := by omega
  obtain ⟨g, rfl⟩ : ∃ g, ad = some ⟨g, 0, none⟩ := by
    rcases j.o.2 with ⟨_, h⟩ | ⟨g, cap', cur, hv, _⟩
    · rw [HN.out] at h; omega
    · simp only [Value.slice.injEq] at hv
      exact ⟨g, hv.1⟩
  go_wp2_with fail
  refine (pick_any R a n cap bs (q) M _ j.r (by omega) (by omega) (by omega) (by omega)).mono ?_
  rintro e w2 ⟨ru, hu0, hu1, rfl, t5, R5⟩
  obtain ⟨u, rfl⟩ := Int.eq_ofNat_of_zero_le hu0
  replace j := j.pick t5 R5
  clear t5 R5 hu0
  by_cases hu : 0 < u
  · have hu' : (0 : Int) < (u : Int) := by omega
    go_wp2
    go_ret
    exact ⟨_, N, c, ls, _, rfl, j, HN.out, by omega, by omega, by omega⟩
  have hu' : ¬ (0 : Int) < (u : Int) := by omega
  go_wp2_with fail
  refine (pick_any R a n cap bs (q + 1) (N : Int) _ j.r (by omega) (by omega) (by omega) (by omega)).mono ?_
  rintro e w4 ⟨rk, hk0, hk1, rfl, t5, R5⟩
  obtain ⟨k, rfl⟩ := Int.eq_ofNat_of_zero_le hk0
  replace j := j.pick t5 R5
  clear t5 R5 hk0
  have hkN : k < N := by omega
  have hkN' : (k : Int) < (N : Int) := by omega
  go_wp2_with fail
  refine (pick_any R a n cap bs (q + 1 + 1) 6 _ j.r (by omega) (by omega) (by omega) (by omega)).mono ?_
  rintro e w5 ⟨rs, hs0, hs1, rfl, t5, R5⟩
  obtain ⟨s, rfl⟩ := Int.eq_ofNat_of_zero_le hs0
  replace j := j.pick t5 R5
  clear t5 R5 hs0
  rcases (show s = 0 ∨ s = 1 ∨ s = 2 ∨ s = 3 ∨ s = 4 ∨ s = 5 from by omega) with rfl | rfl | rfl | rfl | rfl | rfl
  · have al := (Below.refl w5.heap.size w5).alloc (Nat.le_refl _) (.cells #[.int .i64 0, .int .i64 5, .int .i64 4, .int .i64 1] 3)
    have lb := Cel.new w5 [.int .i64 0, .int .i64 5, .int .i64 4, .int .i64 1] 3
    have hsz := j.t.size
    have nl : w5.heap.size ≠ R := by have := j.lR; omega
    replace j := j.below al
    clear al
    go_wp2_with fail
    refine (pick_any R a n cap bs (q + 1 + 1 + 1) 4 _ j.r (by omega) (by omega) (by omega) (by omega)).mono ?_
    rintro e w6 ⟨ri, hi0, hi1, rfl, t5, R5⟩
    obtain ⟨i, rfl⟩ := Int.eq_ofNat_of_zero_le hi0
    replace j := j.pick t5 R5
    replace lb := lb.touch t5 nl
    clear t5 R5 hi0
    have hi' : (i : Int) < 4 := by omega
    have hc := lit_cell (xs := [0, 5, 4, 1]) lb (j := i) (by simp only [List.length_cons, List.length_nil]; omega)
    generalize ([0, 5, 4, 1] : List Int)[i]?.getD 0 = y at hc
    clear lb
    have o := j.o
    rw [HN.out] at o
    have cc := o.cellAt (k * 6 + 0) (by omega)
    rw [flatL_at ls k (by rw [HN.out]; exact hkN) 0 (by omega)] at cc
    have cc' : w6.cell? ⟨g, k * 6 + 0, none⟩ = some (.int .i64 (ls[k]?.getD noLV).kind) := cc
    have ff : w6.frozen? ⟨g, k * 6 + 0, none⟩ = false := o.frozenAt _
    clear cc o
    rw [Nat.add_zero] at cc' ff
    obtain ⟨l, hl⟩ : ∃ l, l = ls[k]?.getD noLV := ⟨_, rfl⟩
    have j' := j.set (k := k) (r := 0) (l' := ⟨y, l.pot, l.skip, l.f⟩) (u := .int .i64 y) HN.out (by rw [HN.out]; exact hkN) (by omega) (by rw [← hl]; rfl) rfl (by rw [hl]; exact j.at' k (by rw [HN.out]; exact hkN)) (fun b o e => by (have h := j.na k (by rw [HN.out]; exact hkN) b o (by rw [← hl]; exact e); exact ⟨h.1, h.2.1, fun e2 => h.2.2 (by rw [e2]; rfl)⟩)) (fun b o e => by (have h := j.nc k (by rw [HN.out]; exact hkN) b o (by rw [← hl]; exact e); exact ⟨h.1, h.2.1, fun e2 => h.2.2 (by rw [e2]; rfl)⟩))
    clear j hl
    rw [Nat.add_zero] at j'
    go_wp2
    go_ret
    exact ⟨_, N, c, _, _, rfl, j', by rw [List.length_set]; exact HN.out, by omega, by omega, by omega⟩
  · have al := (Below.refl w5.heap.size w5).alloc (Nat.le_refl _) (.cells #[.int .i64 (-1), .int .i64 3, .int .i64 2] 3)
    have lb := Cel.new w5 [.int .i64 (-1), .int .i64 3, .int .i64 2] 3
    have hsz := j.t.size
    have nl : w5.heap.size ≠ R := by have := j.lR; omega
    replace j := j.below al
    clear al
    go_wp2_with fail
    refine (pick_any R a n cap bs (q + 1 + 1 + 1) 3 _ j.r (by omega) (by omega) (by omega) (by omega)).mono ?_
    rintro e w6 ⟨ri, hi0, hi1, rfl, t5, R5⟩
    obtain ⟨i, rfl⟩ := Int.eq_ofNat_of_zero_le hi0
    replace j := j.pick t5 R5
    replace lb := lb.touch t5 nl
    clear t5 R5 hi0
    have hi' : (i : Int) < 3 := by omega
    have hc := lit_cell (xs := [-1, 3, 2]) lb (j := i) (by simp only [List.length_cons, List.length_nil]; omega)
    generalize ([-1, 3, 2] : List Int)[i]?.getD 0 = y at hc
    clear lb
    have o := j.o
    rw [HN.out] at o
    have cc := o.cellAt (k * 6 + 1) (by omega)
    rw [flatL_at ls k (by rw [HN.out]; exact hkN) 1 (by omega)] at cc
    have cc' : w6.cell? ⟨g, k * 6 + 1, none⟩ = some (.int .i64 (ls[k]?.getD noLV).pot) := cc
    have ff : w6.frozen? ⟨g, k * 6 + 1, none⟩ = false := o.frozenAt _
    clear cc o
    obtain ⟨l, hl⟩ : ∃ l, l = ls[k]?.getD noLV := ⟨_, rfl⟩
    have j' := j.set (k := k) (r := 1) (l' := ⟨l.kind, y, l.skip, l.f⟩) (u := .int .i64 y) HN.out (by rw [HN.out]; exact hkN) (by omega) (by rw [← hl]; rfl) rfl (by rw [hl]; exact j.at' k (by rw [HN.out]; exact hkN)) (fun b o e => by (have h := j.na k (by rw [HN.out]; exact hkN) b o (by rw [← hl]; exact e); exact ⟨h.1, h.2.1, fun e2 => h.2.2 (by rw [e2]; rfl)⟩)) (fun b o e => by (have h := j.nc k (by rw [HN.out]; exact hkN) b o (by rw [← hl]; exact e); exact ⟨h.1, h.2.1, fun e2 => h.2.2 (by rw [e2]; rfl)⟩))
    clear j hl
    go_wp2
    go_ret
    exact ⟨_, N, c, _, _, rfl, j', by rw [List.length_set]; exact HN.out, by omega, by omega, by omega⟩
  · have al := (Below.refl w5.heap.size w5).alloc (Nat.le_refl _) (.cells #[.int .i64 0, .int .i64 (-1), .int .i64 7, .int .i64 6] 3)
    have lb := Cel.new w5 [.int .i64 0, .int .i64 (-1), .int .i64 7, .int .i64 6] 3
    have hsz := j.t.size
    have nl : w5.heap.size ≠ R := by have := j.lR; omega
    replace j := j.below al
    clear al
    go_wp2_with fail
    refine (pick_any R a n cap bs (q + 1 + 1 + 1) 4 _ j.r (by omega) (by omega) (by omega) (by omega)).mono ?_
    rintro e w6 ⟨ri, hi0, hi1, rfl, t5, R5⟩
    obtain ⟨i, rfl⟩ := Int.eq_ofNat_of_zero_le hi0
    replace j := j.pick t5 R5
    replace lb := lb.touch t5 nl
    clear t5 R5 hi0
    have hi' : (i : Int) < 4 := by omega
    have hc := lit_cell (xs := [0, -1, 7, 6]) lb (j := i) (by simp only [List.length_cons, List.length_nil]; omega)
    generalize ([0, -1, 7, 6] : List Int)[i]?.getD 0 = y at hc
    clear lb
    have o := j.o
    rw [HN.out] at o
    have cc := o.cellAt (k * 6 + 2) (by omega)
    rw [flatL_at ls k (by rw [HN.out]; exact hkN) 2 (by omega)] at cc
    have cc' : w6.cell? ⟨g, k * 6 + 2, none⟩ = some (.int .i64 (ls[k]?.getD noLV).skip) := cc
    have ff : w6.frozen? ⟨g, k * 6 + 2, none⟩ = false := o.frozenAt _
    clear cc o
    obtain ⟨l, hl⟩ : ∃ l, l = ls[k]?.getD noLV := ⟨_, rfl⟩
    have j' := j.set (k := k) (r := 2) (l' := ⟨l.kind, l.pot, y, l.f⟩) (u := .int .i64 y) HN.out (by rw [HN.out]; exact hkN) (by omega) (by rw [← hl]; rfl) rfl (by rw [hl]; exact j.at' k (by rw [HN.out]; exact hkN)) (fun b o e => by (have h := j.na k (by rw [HN.out]; exact hkN) b o (by rw [← hl]; exact e); exact ⟨h.1, h.2.1, fun e2 => h.2.2 (by rw [e2]; rfl)⟩)) (fun b o e => by (have h := j.nc k (by rw [HN.out]; exact hkN) b o (by rw [← hl]; exact e); exact ⟨h.1, h.2.1, fun e2 => h.2.2 (by rw [e2]; rfl)⟩))
    clear j hl
    go_wp2
    go_ret
    exact ⟨_, N, c, _, _, rfl, j', by rw [List.length_set]; exact HN.out, by omega, by omega, by omega⟩
  · go_wp2_with fail
    refine (form_f R a n cap bs (q + 1 + 1 + 1) 2 _ j.r (by omega) (by omega) (by omega) (by omega) j.r.ha).mono ?_
    rintro e w6 ⟨B1, nC, cC, B2, nD, cD, K, LC, LD, q6, rfl, fm⟩
    have hsz5 := (j.o.lt g rfl).2
    have hszL := j.t.size
    replace j := j.pick fm.t fm.r
    have y0 := fm.q0
    have y1 := fm.q1
    have z1 := fm.b1
    have z2 := fm.b2
    have GF := fm.fa K
    have s1 := GF.C.blk fm.c1
    have s2 := GF.D.blk fm.d1
    clear fm
    have o := j.o
    rw [HN.out] at o
    obtain ⟨l, hl⟩ : ∃ l, l = ls[k]?.getD noLV := ⟨_, rfl⟩
    have hkl : k < ls.length := by rw [HN.out]; exact hkN
    have d3 := o.cellAt (k * 6 + 3) (by omega)
    rw [flatL_at ls k hkl 3 (by omega), ← hl] at d3
    have e3 : w6.cell? ⟨g, k * 6 + 3, none⟩ = some (.slice l.f.a l.f.n l.f.cap) := d3
    have f3 : w6.frozen? ⟨g, k * 6 + 3, none⟩ = false := o.frozenAt _
    have d4 := o.cellAt (k * 6 + 4) (by omega)
    rw [flatL_at ls k hkl 4 (by omega), ← hl] at d4
    have e4 : w6.cell? ⟨g, k * 6 + 4, none⟩ = some (.slice l.f.c l.f.m l.f.cap') := d4
    have f4 : w6.frozen? ⟨g, k * 6 + 4, none⟩ = false := o.frozenAt _
    have d5 := o.cellAt (k * 6 + 5) (by omega)
    rw [flatL_at ls k hkl 5 (by omega), ← hl] at d5
    have e5 : w6.cell? ⟨g, k * 6 + 5, none⟩ = some (.int .i64 l.f.K) := d5
    have f5 : w6.frozen? ⟨g, k * 6 + 5, none⟩ = false := o.frozenAt _
    clear d3 d4 d5 o
    have hat := j.at' k hkl
    rw [← hl] at hat
    have hna := j.na k hkl
    have hnc := j.nc k hkl
    rw [← hl] at hna hnc
    have fa1 : ∀ b o, (some ⟨B1, 0, none⟩ : Option Addr) = some ⟨b, o, none⟩ → w.heap.size ≤ b ∧ b < w6.heap.size ∧ g ≠ b := fun b o e => by (simp only [Option.some.injEq, Addr.mk.injEq] at e; exact ⟨by omega, by omega, by omega⟩)
    have fa2 : ∀ b o, (some ⟨B2, 0, none⟩ : Option Addr) = some ⟨b, o, none⟩ → w.heap.size ≤ b ∧ b < w6.heap.size ∧ g ≠ b := fun b o e => by (simp only [Option.some.injEq, Addr.mk.injEq] at e; exact ⟨by omega, by omega, by omega⟩)
    have fo2 : ∀ b o, l.f.c = some ⟨b, o, none⟩ → w.heap.size ≤ b ∧ b < w6.heap.size ∧ g ≠ b := fun b o e => ⟨(hnc b o e).1, (hnc b o e).2.1, fun e2 => (hnc b o e).2.2 (by rw [e2]; rfl)⟩
    have j1 := j.set (k := k) (r := 3) (l' := ⟨l.kind, l.pot, l.skip, ⟨some ⟨B1, 0, none⟩, nC, cC, l.f.c, l.f.m, l.f.cap', l.f.K, LC, l.f.D⟩⟩) (u := .slice (some ⟨B1, 0, none⟩) nC cC) HN.out hkl (by omega) (by rw [← hl]; rfl) rfl ⟨GF.C, hat.D, GF.hn, hat.hm⟩ fa1 fo2
    have sz1 : (w6.setCell ⟨g, k * 6 + 3, none⟩ (.slice (some ⟨B1, 0, none⟩) nC cC)).heap.size = w6.heap.size := size_setCell _ _ _
    have T1 : Touch (fun x => x = g) w6 (w6.setCell ⟨g, k * 6 + 3, none⟩ (.slice (some ⟨B1, 0, none⟩) nC cC)) := Touch.setCell (S := fun x => x = g) (Touch.refl _ _) rfl _
    have GF1 := GF.off T1 (fun b o e h => (fa1 b o e).2.2 h.symm) (fun b o e h => (fa2 b o e).2.2 h.symm)
    have j2 := j1.set (k := k) (r := 4) (l' := ⟨l.kind, l.pot, l.skip, ⟨some ⟨B1, 0, none⟩, nC, cC, some ⟨B2, 0, none⟩, nD, cD, l.f.K, LC, LD⟩⟩) (u := .slice (some ⟨B2, 0, none⟩) nD cD) (by rw [List.length_set]; exact HN.out) (by rw [List.length_set]; exact hkl) (by omega) (by rw [getD_set hkl, if_pos rfl]; rfl) rfl ⟨GF1.C, GF1.D, GF1.hn, GF1.hm⟩ (by rw [sz1]; exact fa1) (by rw [sz1]; exact fa2)
    have sz2 : ((w6.setCell ⟨g, k * 6 + 3, none⟩ (.slice (some ⟨B1, 0, none⟩) nC cC)).setCell ⟨g, k * 6 + 4, none⟩ (.slice (some ⟨B2, 0, none⟩) nD cD)).heap.size = w6.heap.size := by rw [size_setCell]; exact sz1
    have T2 : Touch (fun x => x = g) w6 ((w6.setCell ⟨g, k * 6 + 3, none⟩ (.slice (some ⟨B1, 0, none⟩) nC cC)).setCell ⟨g, k * 6 + 4, none⟩ (.slice (some ⟨B2, 0, none⟩) nD cD)) := Touch.setCell (S := fun x => x = g) T1 rfl _
    have GF2 := GF.off T2 (fun b o e h => (fa1 b o e).2.2 h.symm) (fun b o e h => (fa2 b o e).2.2 h.symm)
    have hk2 : k < (ls.set k ⟨l.kind, l.pot, l.skip, ⟨some ⟨B1, 0, none⟩, nC, cC, l.f.c, l.f.m, l.f.cap', l.f.K, LC, l.f.D⟩⟩).length := by rw [List.length_set]; exact hkl
    have j3 := j2.set (k := k) (r := 5) (l' := ⟨l.kind, l.pot, l.skip, ⟨some ⟨B1, 0, none⟩, nC, cC, some ⟨B2, 0, none⟩, nD, cD, K, LC, LD⟩⟩) (u := .int .i64 K) (by rw [List.length_set, List.length_set]; exact HN.out) (by rw [List.length_set]; exact hk2) (by omega) (by rw [getD_set hk2, if_pos rfl]; rfl) rfl ⟨GF2.C, GF2.D, GF2.hn, GF2.hm⟩ (by rw [sz2]; exact fa1) (by rw [sz2]; exact fa2)
    clear j j1 j2 GF GF1 GF2 T1 T2 hl hat hna hnc
    go_wp2
    go_ret
    exact ⟨_, N, c, _, _, rfl, j3, by rw [List.length_set, List.length_set, List.length_set]; exact HN.out, by omega, by omega, by omega⟩
  · have HKN : Hid (k < N) := hkN
    go_wp2_with fail
    go_loopw [5] (fun v wr => ∃ (g' N' c' : Nat) (ls' : List LV) (q' : Int), v = .slice (some ⟨g', 0, none⟩) N' c' ∧ N ≤ N' ∧ N' ≤ 7 ∧ ls'.length = N' ∧ q' = q + 1 + 1 + 1 ∧ JL w R a n cap bs q' v ls' wr) (fun v _ => 8 - (lenOf v))
    case atStart => exact ⟨g, N, c, ls, _, rfl, by omega, by omega, HN.out, rfl, j⟩
    case round =>
      clear j
      obtain ⟨g', N', c', ls', q', rfl, hNN, hN7, hL, hq', j⟩ := hrel
      have HL : Hid (ls'.length = N') := hL
      clear hL
      by_cases h7 : N' ≤ 6
      · have h7' : (N' : Int) ≤ 6 := by omega
        have hkN2 : (k : Int) < (N' : Int) := by omega
        have hkl : k < ls'.length := by rw [HL.out]; omega
        obtain ⟨b', o', e', hc, hat⟩ := j.g HL.out k hkl
        simp only [Option.some.injEq, Addr.mk.injEq, and_true] at e'
        obtain ⟨rfl, rfl⟩ := e'
        obtain ⟨l, hl⟩ : ∃ l, l = ls'[k]?.getD noLV := ⟨_, rfl⟩
        rw [← hl] at hc hat
        have hna := j.na k hkl
        have hnc := j.nc k hkl
        rw [← hl] at hna hnc
        clear hl
        obtain ⟨x0, x1, x2, x3, x4, x5⟩ := six_of hc
        simp only [Nat.zero_add] at x0 x1 x2 x3 x4 x5
        clear hc
        have SZ : ∀ i, i < ls'.length → (∀ b o, (ls'[i]?.getD noLV).f.a = some ⟨b, o, none⟩ → b < wr.heap.size) ∧ (∀ b o, (ls'[i]?.getD noLV).f.c = some ⟨b, o, none⟩ → b < wr.heap.size) := fun i hi => ⟨fun b o e => (j.na i hi b o e).2.1, fun b o e => (j.nc i hi b o e).2.1⟩
        have al := (Below.refl wr.heap.size wr).alloc (Nat.le_refl _) (.cells #[.int .i64 l.kind, .int .i64 l.pot, .int .i64 l.skip, .slice l.f.a l.f.n l.f.cap, .slice l.f.c l.f.m l.f.cap', .int .i64 l.f.K] 51)
        have ja := j.below al
        have hla := hat.below al
        have hszA := ja.t.size
        clear al j hat
        go_wp2_with (at_builtin; refine wpList_append_lies _ rfl (.tmp 80) (.tmp 85) 52 rfl w.heap.size 51 i0 _ 6 80 Try.underlying52 hi hz0 hz1 hz2 rfl (by omega) (.slice (some ⟨g', 0, none⟩) N' c') N' (ls'.flatMap LV.cs) (by rfl) (by have h := ja.o; rw [HL.out] at h; exact h) ⟨wr.heap.size, 0, none⟩ 1 1 l.cs (by rfl) (by rfl) (World.news_of_block (cs := #[.int .i64 l.kind, .int .i64 l.pot, .int .i64 l.skip, .slice l.f.a l.f.n l.f.cap, .slice l.f.c l.f.m l.f.cap', .int .i64 l.f.K]) (t := 51) (fr := (0, 0)) (heap_alloc_new wr _)) (by have h := flatL_one [l]; simpa using h) (by omega) (by unfold maxLen; omega) (by omega) hszA (wr.heap.size + 1) (by rw [World.size_alloc]) ?_)
        intro g9 cp9 w9 hown hgrow hat9 _
        have jn := ja.app (H := wr.heap.size) HL.out hla hna hnc (by rw [World.size_alloc]; omega) SZ hown hgrow (by rcases hat9 with h | h; exact .inl h; exact .inr (by omega))
        clear hown hgrow ja hla x0 x1 x2 x3 x4 x5 hna hnc SZ
        go_wp2
        go_roundw
        case rel => exact ⟨g9, N' + 1, cp9, ls' ++ [l], _, rfl, by omega, by omega, by rw [List.length_append, HL.out]; rfl, hq', jn⟩
        case measure => simp [lenOf]; omega
      · have h7' : ¬ (N' : Int) ≤ 6 := by omega
        go_wp2
        go_ret
        exact ⟨_, N', c', rfl, by first | exact ⟨ls', ⟨q', j, by first | exact ⟨HL.out, by omega, by omega, by omega⟩ | omega⟩⟩ | (refine ⟨ls', ?_⟩; simp [HL.out]; exact ⟨q', j, by omega⟩) | (refine ⟨ls', ⟨q', j, ?_⟩, HL.out, ?_⟩ <;> omega)⟩
  · have hgW := (j.o.lt g rfl).2
    have hlo := j.t.size
    have hRR := j.lR
    go_wp2_with fail
    refine (small_f R a n cap bs (q + 1 + 1 + 1) _ j.r (by omega) (by omega) j.r.ha).mono ?_
    rintro e w6 ⟨BA, DA, LCA, LDA, KA, rfl, t5, R5, f5, _, _, _, _⟩
    have zA1 := f5.b1
    have zA2 := f5.b2
    have lA1 := f5.k1.lt
    have lA2 := f5.k2.lt
    have sA := t5.size
    have GA : FA w6 (some ⟨BA, 0, none⟩) 3 (some ⟨DA, 0, none⟩) 2 (LCA, LDA, KA) := ⟨f5.k1.ints' f5.l1, f5.k2.ints' f5.l2, by omega, by omega⟩
    replace j := j.pick t5 R5
    clear t5 R5 f5
    go_wp2_with fail
    refine (small_f R a n cap bs (q + 1 + 1 + 1 + 6) _ j.r (by omega) (by omega) j.r.ha).mono ?_
    rintro e w7 ⟨BE, DE, LCE, LDE, KE, rfl, t5, R5, f5, _, _, _, _⟩
    have zE1 := f5.b1
    have zE2 := f5.b2
    have lE1 := f5.k1.lt
    have lE2 := f5.k2.lt
    have sE := t5.size
    have GE : FA w7 (some ⟨BE, 0, none⟩) 3 (some ⟨DE, 0, none⟩) 2 (LCE, LDE, KE) := ⟨f5.k1.ints' f5.l1, f5.k2.ints' f5.l2, by omega, by omega⟩
    replace GA := GA.far t5 (lo := w5.heap.size) (fun k hk => by omega) zA1 zA2
    replace j := j.pick t5 R5
    clear t5 R5 f5
    have SZ : ∀ i, i < ls.length → (∀ b o, (ls[i]?.getD noLV).f.a = some ⟨b, o, none⟩ → b < w7.heap.size) ∧ (∀ b o, (ls[i]?.getD noLV).f.c = some ⟨b, o, none⟩ → b < w7.heap.size) := fun i hi => ⟨fun b o e => (j.na i hi b o e).2.1, fun b o e => (j.nc i hi b o e).2.1⟩
    have al := (Below.refl w7.heap.size w7).alloc (Nat.le_refl _) (.cells #[.int .i64 1, .int .i64 0, .int .i64 1, .slice (some ⟨BA, 0, none⟩) 3 3, .slice (some ⟨DA, 0, none⟩) 2 2, .int .i64 KA, .int .i64 1, .int .i64 0, .int .i64 1, .slice (some ⟨BE, 0, none⟩) 3 3, .slice (some ⟨DE, 0, none⟩) 2 2, .int .i64 KE] 51)
    have ja := j.below al
    replace GA := GA.below al
    replace GE := GE.below al
    have hszA := ja.t.size
    clear al j
    go_wp2_with (at_builtin; refine wpList_append_lies _ rfl (.tmp 25) (.tmp 32) 52 rfl w.heap.size 51 i0 _ 6 80 Try.underlying52 hi hz0 hz1 hz2 rfl (by omega) (.slice (some ⟨g, 0, none⟩) N c) N (ls.flatMap LV.cs) (by rfl) (by have h := ja.o; rw [HN.out] at h; exact h) ⟨w7.heap.size, 0, none⟩ 2 2 [.int .i64 1, .int .i64 0, .int .i64 1, .slice (some ⟨BA, 0, none⟩) 3 3, .slice (some ⟨DA, 0, none⟩) 2 2, .int .i64 KA, .int .i64 1, .int .i64 0, .int .i64 1, .slice (some ⟨BE, 0, none⟩) 3 3, .slice (some ⟨DE, 0, none⟩) 2 2, .int .i64 KE] (by rfl) (by rfl) (World.news_of_block (cs := #[.int .i64 1, .int .i64 0, .int .i64 1, .slice (some ⟨BA, 0, none⟩) 3 3, .slice (some ⟨DA, 0, none⟩) 2 2, .int .i64 KA, .int .i64 1, .int .i64 0, .int .i64 1, .slice (some ⟨BE, 0, none⟩) 3 3, .slice (some ⟨DE, 0, none⟩) 2 2, .int .i64 KE]) (t := 51) (fr := (0, 0)) (heap_alloc_new w7 _)) (by simp [Value.oneCell']) (by omega) (by unfold maxLen; omega) (by omega) hszA (w7.heap.size + 1) (by rw [World.size_alloc]) ?_)
    intro g9 cp9 w9 hown hgrow hat9 _
    have jn := ja.apps (ns := [⟨1, 0, 1, ⟨some ⟨BA, 0, none⟩, 3, 3, some ⟨DA, 0, none⟩, 2, 2, KA, LCA, LDA⟩⟩, ⟨1, 0, 1, ⟨some ⟨BE, 0, none⟩, 3, 3, some ⟨DE, 0, none⟩, 2, 2, KE, LCE, LDE⟩⟩]) (H := w7.heap.size) HN.out rfl (fun i hi => by (rcases i with _ | _ | i; exact ⟨GA.C, GA.D, GA.hn, GA.hm⟩; exact ⟨GE.C, GE.D, GE.hn, GE.hm⟩; simp only [List.length_cons, List.length_nil] at hi; omega)) (two_lv (P := fun x => ∀ b o, x.f.a = some ⟨b, o, none⟩ → w.heap.size ≤ b ∧ b < w7.heap.size ∧ (Value.slice (some ⟨g, 0, none⟩) N c).ownBlock ≠ some b) (fun b o e => by have e9 : (some ⟨BA, 0, none⟩ : Option Addr) = some ⟨b, o, none⟩ := e; simp only [Option.some.injEq, Addr.mk.injEq] at e9; exact ⟨by omega, by omega, by simp only [Value.ownBlock, ne_eq, Option.some.injEq]; omega⟩) (fun b o e => by have e9 : (some ⟨BE, 0, none⟩ : Option Addr) = some ⟨b, o, none⟩ := e; simp only [Option.some.injEq, Addr.mk.injEq] at e9; exact ⟨by omega, by omega, by simp only [Value.ownBlock, ne_eq, Option.some.injEq]; omega⟩)) (two_lv (P := fun x => ∀ b o, x.f.c = some ⟨b, o, none⟩ → w.heap.size ≤ b ∧ b < w7.heap.size ∧ (Value.slice (some ⟨g, 0, none⟩) N c).ownBlock ≠ some b) (fun b o e => by have e9 : (some ⟨DA, 0, none⟩ : Option Addr) = some ⟨b, o, none⟩ := e; simp only [Option.some.injEq, Addr.mk.injEq] at e9; exact ⟨by omega, by omega, by simp only [Value.ownBlock, ne_eq, Option.some.injEq]; omega⟩) (fun b o e => by have e9 : (some ⟨DE, 0, none⟩ : Option Addr) = some ⟨b, o, none⟩ := e; simp only [Option.some.injEq, Addr.mk.injEq] at e9; exact ⟨by omega, by omega, by simp only [Value.ownBlock, ne_eq, Option.some.injEq]; omega⟩)) (by rw [World.size_alloc]; omega) SZ hown hgrow (by rcases hat9 with h | h; exact .inl h; exact .inr (by omega))
    clear hown hgrow ja SZ
    go_wp2
    go_ret
    exact ⟨_, N + 2, cp9, _, _, rfl, jn, by rw [List.length_append, HN.out]; rfl, by omega, by omega, by omega⟩


end Go.Proofs.Ytemcinobgdphnaa
namespace Go.Proofs.Ytemcinobgdphnaa
open Go.RowKit
set_option linter.unusedVariables false
set_option maxRecDepth 100000

/-- Two results are the same. -/
def coRB (c d : Int) (xs ys : List Int) : Bool := (c == d) && eqB xs ys
theorem coRB_same (c : Int) (xs : List Int) : coRB c c xs xs = true := by simp [coRB, eqB]

set_option maxHeartbeats 800000 in
theorem coR_any (c d : Int) (a : Option Addr) (n cap : Nat) (b : Option Addr) (m cap' : Nat) (xs ys : List Int) (w : World) (h : Ints w a n xs) (h' : Ints w b m ys) (hn : n ≤ 1048576) (hm : m ≤ 1048576) :
    Calls Try.prog 17 #[resV c a n cap, resV d b m cap'] w fun e w' => e = .returned (.bool (coRB c d xs ys)) ∧ Below w.heap.size w w' := by
  cases h1 : (c == d)
  · go_enter Try.func17, Try.ntmps17
    go_wp2
    go_ret
    exact ⟨ret_bool (by simp [coRB, h1]), ((Below.refl _ _).alloc (Nat.le_refl _) _).alloc (by simp) _⟩
  · go_enter Try.func17, Try.ntmps17
    go_wp2_with fail
    refine (coI_any _ _ _ _ _ _ xs ys _ ((h.alloc _).alloc _) ((h'.alloc _).alloc _) hn hm).mono ?_
    rintro e w1 ⟨rfl, b1⟩
    go_wp2
    go_ret
    exact ⟨ret_bool (by simp [coRB, h1]), (((Below.refl _ _).alloc (Nat.le_refl _) _).alloc (by simp) _).trans (b1.mono (by simp; omega))⟩

end Go.Proofs.Ytemcinobgdphnaa
