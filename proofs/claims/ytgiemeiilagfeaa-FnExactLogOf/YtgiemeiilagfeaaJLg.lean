/-
  Slices of calls that were done that grow in memory of their own.
-/
import Derived.Test.YtgiemeiilagfeaaMkLg
import Derived.Test.YtgiemeiilagfeaaOwn0
namespace Go.Proofs.Ytgiemeiilagfeaa
open Go.RowKit Go.Deep
set_option linter.unusedVariables false
set_option maxRecDepth 100000

theorem own_belowL {W W' : World} {base : Nat} {e : TypeId} {s : Nat} {v : Value} {n : Nat} {xs : List Value} (h : W.ownsRow base e s v n xs) (b : Below W.heap.size W W') : W'.ownsRow base e s v n xs := by
  refine ⟨h.1, ?_⟩
  rcases h.2 with h0 | ⟨g, cap, cur, hv, hb, hg, hr⟩
  · exact .inl h0
  · exact .inr ⟨g, cap, cur, hv, hb, by rw [b.block g (lt_of_block hg)]; exact hg, hr⟩
theorem Cel.grewL {W W' : World} {B : Nat} {vs : List Value} {t : TypeId} {row : Option Nat} (h : Cel W B vs t) (hg : W.grownBy W' row) (hne : row ≠ some B) : Cel W' B vs t := by
  have hl := h.lt
  unfold Cel at *
  rw [hg.block B hl (fun e => hne e.symm)]; exact h
/-- A slice of them that grows in memory of its own; each list in a block of its own. -/
structure JLg (w : World) (v : Value) (ts : List LgV) (bs ds : Nat → Nat) (W : World) : Prop where
  b : Below w.heap.size w W
  o : W.ownsRow w.heap.size 52 6 v ts.length (ts.flatMap LgV.cs)
  k : ∀ j, j < ts.length → OwnX W (ts[j]?.getD noLg).t.a (bs j) (ts[j]?.getD noLg).t.n (ts[j]?.getD noLg).t.x ∧ (ts[j]?.getD noLg).t.n ≤ 1048576 ∧ (0 < (ts[j]?.getD noLg).t.n → w.heap.size ≤ bs j ∧ some (bs j) ≠ v.ownBlock)
  u : ∀ j, j < ts.length → OwnX W (ts[j]?.getD noLg).u.a (ds j) (ts[j]?.getD noLg).u.n (ts[j]?.getD noLg).u.x ∧ (ts[j]?.getD noLg).u.n ≤ 1048576 ∧ (0 < (ts[j]?.getD noLg).u.n → w.heap.size ≤ ds j ∧ some (ds j) ≠ v.ownBlock)
  d : ∀ i j, i < ts.length → j < ts.length → i ≠ j → 0 < (ts[i]?.getD noLg).t.n → 0 < (ts[j]?.getD noLg).t.n → bs i ≠ bs j
  e : ∀ i j, i < ts.length → j < ts.length → i ≠ j → 0 < (ts[i]?.getD noLg).u.n → 0 < (ts[j]?.getD noLg).u.n → ds i ≠ ds j
  m : ∀ i j, i < ts.length → j < ts.length → 0 < (ts[i]?.getD noLg).t.n → 0 < (ts[j]?.getD noLg).u.n → bs i ≠ ds j
section
variable {w W W' : World} {v v' : Value} {ts : List LgV} {bs ds : Nat → Nat}
theorem JLg.nil (w W : World) (hb : Below w.heap.size w W) (bs ds : Nat → Nat) : JLg w (.slice none 0 0) [] bs ds W := ⟨hb, World.ownsRow_nil W _ _ _, fun j hj => by simp at hj, fun j hj => by simp at hj, fun i j hi => by simp at hi, fun i j hi => by simp at hi, fun i j hi => by simp at hi⟩
theorem JLg.below (j : JLg w v ts bs ds W) (h : Below W.heap.size W W') : JLg w v ts bs ds W' :=
  ⟨j.b.trans (h.mono j.b.size), own_belowL j.o h, fun i hi => by obtain ⟨a, b⟩ := j.k i hi; exact ⟨a.below h, b⟩, fun i hi => by obtain ⟨a, b⟩ := j.u i hi; exact ⟨a.below h, b⟩, j.d, j.e, j.m⟩
theorem JLg.own (j : JLg w v ts bs ds W) {g : Nat} (h : v.ownBlock = some g) : w.heap.size ≤ g ∧ g < W.heap.size := by
  rcases j.o.2 with ⟨h', _⟩ | ⟨g', cap, cur, hv, hg, hh, r⟩
  · rw [h'] at h; simp [Value.ownBlock] at h
  · rw [hv] at h
    simp only [Value.ownBlock, Option.some.injEq] at h
    subst h
    exact ⟨hg, lt_of_block hh⟩
theorem JLg.isSlice {k : Nat} (j : JLg w v ts bs ds W) (hk : ts.length = k) : ∃ a c, v = .slice a k c := by
  subst hk
  rcases j.o.2 with ⟨h', h0⟩ | ⟨g', cap, cur, hv, hg, hh, r⟩
  · exact ⟨none, 0, by rw [h', h0]⟩
  · exact ⟨_, _, hv⟩
theorem JLg.app {s : LgV} {A C k : Nat} {o : Obj} (j : JLg w v ts bs ds W) (hk : ts.length = k) (hA : OwnX W s.t.a A s.t.n s.t.x) (hz : s.t.n ≤ 1048576) (hlo : 0 < s.t.n → w.heap.size ≤ A ∧ some A ≠ v.ownBlock) (hC : OwnX W s.u.a C s.u.n s.u.x) (hzC : s.u.n ≤ 1048576) (hloC : 0 < s.u.n → w.heap.size ≤ C ∧ some C ≠ v.ownBlock) (hAC : 0 < s.t.n → 0 < s.u.n → A ≠ C)
    (hnew : 0 < s.t.n → ∀ i, i < k → (0 < (ts[i]?.getD noLg).t.n → bs i ≠ A) ∧ (0 < (ts[i]?.getD noLg).u.n → ds i ≠ A)) (hnewC : 0 < s.u.n → ∀ i, i < k → (0 < (ts[i]?.getD noLg).t.n → bs i ≠ C) ∧ (0 < (ts[i]?.getD noLg).u.n → ds i ≠ C))
    (hown : W'.ownsRow w.heap.size 52 6 v' (k + 1) (ts.flatMap LgV.cs ++ s.cs)) (hg : (W.alloc o).grownBy W' v.ownBlock) (hat : v'.ownBlock = v.ownBlock ∨ v'.ownBlock = some (W.alloc o).heap.size) : JLg w v' (ts ++ [s]) (fun i => if i < k then bs i else A) (fun i => if i < k then ds i else C) W' := by
  subst hk
  have B1 : Below W.heap.size W (W.alloc o) := (Below.refl _ _).alloc (Nat.le_refl _) _
  have ja := j.below B1
  have key : ∀ (a : Option Addr) (Y n : Nat) (x : List Int), OwnX W a Y n x → (0 < n → w.heap.size ≤ Y ∧ some Y ≠ v.ownBlock) → OwnX W' a Y n x ∧ (0 < n → w.heap.size ≤ Y ∧ some Y ≠ v'.ownBlock) := fun a Y n x h1 h2 => by
    refine ⟨?_, fun hn => ⟨(h2 hn).1, fun e => ?_⟩⟩
    · have h3 := h1.below B1
      rcases h3.2 with h0 | ⟨e1, cur, hc, hv⟩
      · exact ⟨h3.1, .inl h0⟩
      · by_cases hn : 0 < n
        · exact ⟨h3.1, .inr ⟨e1, cur, hc.grewL hg (fun e => (h2 hn).2 e.symm), hv⟩⟩
        · exact ⟨h3.1, .inl (by omega)⟩
    · have hl := h1.lt hn
      rcases hat with h | h
      · exact (h2 hn).2 (e.trans h)
      · rw [h, World.size_alloc] at e
        simp only [Option.some.injEq] at e
        omega
  have hold : ∀ i, i < ts.length → (ts ++ [s])[i]?.getD noLg = ts[i]?.getD noLg := fun i h => by rw [List.getElem?_append_left h]
  have hlast : (ts ++ [s])[ts.length]?.getD noLg = s := by rw [List.getElem?_append_right (Nat.le_refl _), Nat.sub_self]; rfl
  have cut : ∀ i, i < (ts ++ [s]).length → (i < ts.length ∧ (ts ++ [s])[i]?.getD noLg = ts[i]?.getD noLg ∧ (if i < ts.length then bs i else A) = bs i ∧ (if i < ts.length then ds i else C) = ds i) ∨ (i = ts.length ∧ (ts ++ [s])[i]?.getD noLg = s ∧ (if i < ts.length then bs i else A) = A ∧ (if i < ts.length then ds i else C) = C) := fun i hi => by
    rw [List.length_append, List.length_singleton] at hi
    by_cases h : i < ts.length
    · exact .inl ⟨h, hold i h, if_pos h, if_pos h⟩
    · have e : i = ts.length := by omega
      exact .inr ⟨e, by rw [e]; exact hlast, if_neg h, if_neg h⟩
  refine ⟨ja.b.grown hg ja.b.size (fun z hz => (j.own hz).1), ?_, fun i hi => ?_, fun i hi => ?_, fun i i' hi hi' hne h1 h2 => ?_, fun i i' hi hi' hne h1 h2 => ?_, fun i i' hi hi' h1 h2 => ?_⟩
  · rw [List.length_append, List.flatMap_append]
    have : [s].flatMap LgV.cs = s.cs := by simp
    rw [this]
    exact hown
  · (try dsimp only)
    rcases cut i hi with ⟨h, e1, e2, _⟩ | ⟨h, e1, e2, _⟩
    · rw [e1, e2]
      obtain ⟨a, b, d⟩ := j.k i h
      obtain ⟨q1, q2⟩ := key _ _ _ _ a d
      exact ⟨q1, b, q2⟩
    · rw [e1, e2]
      obtain ⟨q1, q2⟩ := key _ _ _ _ hA hlo
      exact ⟨q1, hz, q2⟩
  · (try dsimp only)
    rcases cut i hi with ⟨h, e1, _, e2⟩ | ⟨h, e1, _, e2⟩
    · rw [e1, e2]
      obtain ⟨a, b, d⟩ := j.u i h
      obtain ⟨q1, q2⟩ := key _ _ _ _ a d
      exact ⟨q1, b, q2⟩
    · rw [e1, e2]
      obtain ⟨q1, q2⟩ := key _ _ _ _ hC hloC
      exact ⟨q1, hzC, q2⟩
  · (try dsimp only)
    rcases cut i hi with ⟨h, e1, e2, _⟩ | ⟨h, e1, e2, _⟩ <;> rcases cut i' hi' with ⟨h', e1', e2', _⟩ | ⟨h', e1', e2', _⟩ <;> rw [e1] at h1 <;> rw [e1'] at h2 <;> rw [e2, e2']
    · exact j.d i i' h h' hne h1 h2
    · exact (hnew h2 i h).1 h1
    · exact fun e => (hnew h1 i' h').1 h2 e.symm
    · omega
  · (try dsimp only)
    rcases cut i hi with ⟨h, e1, _, e2⟩ | ⟨h, e1, _, e2⟩ <;> rcases cut i' hi' with ⟨h', e1', _, e2'⟩ | ⟨h', e1', _, e2'⟩ <;> rw [e1] at h1 <;> rw [e1'] at h2 <;> rw [e2, e2']
    · exact j.e i i' h h' hne h1 h2
    · exact (hnewC h2 i h).2 h1
    · exact fun e => (hnewC h1 i' h').2 h2 e.symm
    · omega
  · (try dsimp only)
    rcases cut i hi with ⟨h, e1, e2, _⟩ | ⟨h, e1, e2, _⟩ <;> rcases cut i' hi' with ⟨h', e1', _, e2'⟩ | ⟨h', e1', _, e2'⟩ <;> rw [e1] at h1 <;> rw [e1'] at h2 <;> rw [e2, e2']
    · exact j.m i i' h h' h1 h2
    · exact (hnewC h2 i h).1 h1
    · exact fun e => (hnew h1 i' h').2 h2 e.symm
    · exact hAC h1 h2
theorem atLgc (ts : List LgV) : ∀ i, i < ts.length → ∀ r, r < 6 → (ts.flatMap LgV.cs)[i * 6 + r]? = (ts[i]?.getD noLg).cs[r]? := by
  induction ts with
  | nil => intro i hi; simp at hi
  | cons t ts ih =>
    intro i hi r hr
    rw [List.flatMap_cons]
    have hl : t.cs.length = 6 := rfl
    cases i with
    | zero => rw [List.getElem?_append_left (by omega)]; simp
    | succ i =>
      rw [List.getElem?_append_right (by omega), hl, show (i + 1) * 6 + r - 6 = i * 6 + r by omega, ih i (by simpa using hi) r hr]
      simp
theorem JLg.lies {n : Nat} (j : JLg w v ts bs ds W) (hn : ts.length = n) : ∃ a G cap, v = .slice a n cap ∧ LgL W a G n (fun i => ts[i]?.getD noLg) bs ds ∧ (0 < n → w.heap.size ≤ G) ∧ (∀ i, i < n → 0 < (ts[i]?.getD noLg).t.n → w.heap.size ≤ bs i) ∧ ∀ i, i < n → 0 < (ts[i]?.getD noLg).u.n → w.heap.size ≤ ds i := by
  subst hn
  rcases j.o.2 with ⟨h', h0⟩ | ⟨g, cap, cur, hv, hg, hh, _, _, hcs, htake⟩
  · refine ⟨none, 0, 0, by rw [h', h0], ?_, fun h => by omega, fun i hi => by omega, fun i hi => by omega⟩
    rw [h0]
    exact LgL.zero _ _ _ _ _ _
  · refine ⟨_, g, cap, hv, ⟨fun h => ⟨rfl, cur.toList, by unfold Cel; simpa using hh, fun i hi r hr => ?_⟩, fun i hi => ?_, fun i hi => ?_, fun i i' hi hi' hne h1 h2 => j.d i i' hi hi' hne h1 h2, fun i i' hi hi' hne h1 h2 => j.e i i' hi hi' hne h1 h2, fun i i' hi hi' h1 h2 => j.m i i' hi hi' h1 h2⟩, fun _ => hg, fun i hi h => ((j.k i hi).2.2 h).1, fun i hi h => ((j.u i hi).2.2 h).1⟩
    · rw [← atLgc ts i hi r hr, ← htake, List.getElem?_take, if_pos (by omega)]
    · obtain ⟨a, b, d⟩ := j.k i hi
      refine ⟨a, fun h e => (d h).2 ?_, b⟩
      rw [hv, e]
      rfl
    · obtain ⟨a, b, d⟩ := j.u i hi
      refine ⟨a, fun h e => (d h).2 ?_, b⟩
      rw [hv, e]
      rfl
end
theorem JLg.lit (w : World) (bs ds : Nat → Nat) : JLg w (.slice (some ⟨w.heap.size, 0, none⟩) 0 0) [] bs ds (w.alloc (.cells #[] 52)) := ⟨(Below.refl _ _).alloc (Nat.le_refl _) _, World.ownsRow_lit w #[] 0 (Nat.le_refl _) (by unfold maxLen; omega) rfl, fun j hj => by simp at hj, fun j hj => by simp at hj, fun i j hi => by simp at hi, fun i j hi => by simp at hi, fun i j hi => by simp at hi⟩

end Go.Proofs.Ytgiemeiilagfeaa
