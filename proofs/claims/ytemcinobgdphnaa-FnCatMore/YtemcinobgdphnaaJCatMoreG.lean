/-
  Lemmas that the claim's last text rests on: RowsI, CoRw, RowsQ.
-/
import Derived.Test.YtemcinobgdphnaaJCatMoreD
import Derived.Test.YtemcinobgdphnaaRowsS
import Derived.Test.YtemcinobgdphnaaJCatMoreA
import Derived.Test.YtemcinobgdphnaaJCatMoreF
namespace Go.Proofs.Ytemcinobgdphnaa
open Go.RowKit Go.Deep Go.Shelf
set_option linter.unusedVariables false
set_option maxRecDepth 100000
attribute [local go_sem] Oper.semAt_some

theorem mem_zeroCells {z : Array Value} {n : Nat} {u : Value} (h : u ∈ Builtin.zeroCells z n) : u ∈ z := by
  unfold Builtin.zeroCells at h
  obtain ⟨i, hi, rfl⟩ := Array.mem_map.1 h
  have hi' : i < n * z.size := by simpa using hi
  have hz : 0 < z.size := Nat.pos_of_ne_zero fun e => by rw [e] at hi'; omega
  have hl := Nat.mod_lt i hz
  rw [getElem!_pos z (i % z.size) hl]
  exact Array.getElem_mem hl
/-- An append, where nothing in the row, in what is appended and in the zero value is a number. -/
theorem run_append_no {P : Program} (w : World) (t ty : TypeId) (base : Nat) (e : TypeId) (i : TypeInfo) (z : Value) (size bytes : Nat) (ht : P.underlying t = some (.slice e)) (hi : P.info? e = some i) (hz : i.zero = some z)
    (hsize : i.size = size) (hby : i.bytes = bytes) (hzs : z.cells.size = size) (hsz : 0 < size)
    (v : Value) (n : Nat) (xs : List Value) (hown : w.ownsRow base e size v n xs)
    (ad : Addr) (m c : Nat) (news : List Value) (hl : news.length = m * size) (hnews : ∀ j u, news[j]? = some u → w.cell? (ad.add j) = some u) (h1 : ∀ u ∈ news, u.oneCell' = true)
    (hm : 0 < m) (h63 : n + m ≤ maxLen) (hbytes : (n + m) * bytes ≤ 140737488355328) (hbase : base ≤ w.heap.size) (H : Nat) (hH : w.heap.size = H)
    (p : Value → Prop) (hpz : ∀ u ∈ z.cells, p u) (hpn : ∀ u ∈ news, p u) (hpo : ∀ g cs ty fr, v.ownBlock = some g → w.heap[g]? = some (.cells cs ty fr) → ∀ u ∈ cs, p u) :
    ∃ g cap w', (Builtin.append_ #[t, t] ty #[v, .slice (some ad) m c]).run P w = .ok (.slice (some ⟨g, 0, none⟩) (n + m) cap) w' ∧
      w'.ownsRow base e size (.slice (some ⟨g, 0, none⟩) (n + m) cap) (n + m) (xs ++ news) ∧ w.grownBy w' v.ownBlock ∧ (v.ownBlock = some g ∨ g = H) ∧ g < w'.heap.size ∧ (∀ cs ty fr, w'.heap[g]? = some (.cells cs ty fr) → ∀ u ∈ cs, p u) := by
  obtain ⟨g, cap, w', hr, h2, h3, h4, h5⟩ := run_append_lies (P := P) w t ty base e i z size bytes ht hi hz hsize hby hzs hsz v n xs hown ad m c news hl hnews h1 hm h63 hbytes hbase H hH
  refine ⟨g, cap, w', hr, h2, h3, h4, h5, ?_⟩
  subst hsize
  subst hby
  have hsmall : n + m ≤ 9223372036854775807 := by simp only [maxLen] at h63; omega
  rcases hown.2 with ⟨rfl, rfl⟩ | ⟨g', cap', cur, rfl, hbg, hg, hnc, hcm, hcs, htake⟩
  · have hr2 := run_append_nil (P := P) w t ty e i z ht hi hz ad m c news hl hnews (by omega) (by omega) (by have hb := hbytes; simp only [Nat.zero_add] at hb; omega)
    rw [hr] at hr2
    simp only [Result.ok.injEq, Value.slice.injEq, Option.some.injEq, Addr.mk.injEq, and_true] at hr2
    obtain ⟨⟨rfl, _, _⟩, rfl⟩ := hr2
    intro cs ty fr hh u hu
    have := heap_alloc_new w.drew (.cells (news.toArray ++ Builtin.zeroCells z.cells (grownCap w m 0 e - m)) e)
    have hd : w.drew.heap.size = w.heap.size := rfl
    rw [hd] at this
    rw [this] at hh
    cases hh
    rcases Array.mem_append.1 hu with h | h
    · exact hpn u (by simpa using h)
    · exact hpz u (mem_zeroCells h)
  · have hx : ∀ u ∈ xs, p u := fun u hu => hpo g' cur e (0, 0) rfl hg u (by rw [← htake] at hu; exact Array.mem_toList_iff.1 (List.mem_of_mem_take hu))
    by_cases hroom : n + m ≤ cap'
    · have hfit : n * i.size + news.length ≤ cur.size := by rw [hl, hcs, ← Nat.add_mul]; exact Nat.mul_le_mul_right _ hroom
      have hr2 := run_append_room (P := P) w t ty e i ht hi g' n cap' cur hg ad m c news hl hnews h1 hroom hfit
      rw [hr] at hr2
      simp only [Result.ok.injEq, Value.slice.injEq, Option.some.injEq, Addr.mk.injEq, and_true] at hr2
      obtain ⟨⟨rfl, _⟩, rfl⟩ := hr2
      intro cs ty fr hh u hu
      rw [setRow_heap w g cur _ e _ hg] at hh
      cases hh
      have hu' : u ∈ cur.toList.take (n * i.size) ++ news ++ cur.toList.drop (n * i.size + news.length) := by simpa using hu
      rcases List.mem_append.1 hu' with h | h
      · rcases List.mem_append.1 h with h | h
        · exact hpo g cur e (0, 0) rfl hg u (Array.mem_toList_iff.1 (List.mem_of_mem_take h))
        · exact hpn u h
      · exact hpo g cur e (0, 0) rfl hg u (Array.mem_toList_iff.1 (List.mem_of_mem_drop h))
    · have holds : ∀ j u, xs[j]? = some u → w.cell? ((⟨g', 0, none⟩ : Addr).add j) = some u := hown.cells (g := g') rfl
      have hr2 := run_append_grow (P := P) w t ty e i z ht hi hz ⟨g', 0, none⟩ n cap' xs hown.1 holds ad m c news hl hnews (by omega) (by omega) (growslice_fits (by omega) hbytes)
      rw [hr] at hr2
      simp only [Result.ok.injEq, Value.slice.injEq, Option.some.injEq, Addr.mk.injEq, and_true, true_and] at hr2
      obtain ⟨⟨rfl, _⟩, rfl⟩ := hr2
      intro cs ty fr hh u hu
      have := heap_alloc_new w.drew (.cells (xs.toArray ++ news.toArray ++ Builtin.zeroCells z.cells (grownCap w (n + m) cap' e - (n + m))) e)
      have hd : w.drew.heap.size = w.heap.size := rfl
      rw [hd] at this
      rw [this] at hh
      cases hh
      rcases Array.mem_append.1 hu with h | h
      · rcases Array.mem_append.1 h with h | h
        · exact hx u (by simpa using h)
        · exact hpn u (by simpa using h)
      · exact hpz u (mem_zeroCells h)

theorem wpListIn_append_no {F : Fence} {n : Nat} {P : Program} (w : World) {ops : Array Oper} {rest : List Oper} {o : Oper} {a : Act} {Q : Exit → Act → World → Prop}
    (hg : o.guard = none) (s x : Operand) (t : TypeId) (hop : o.op = Op.call { callee := Callee.builtin Builtin.append, args := #[s, x], argTypes := #[t, t] })
    (base : Nat) (e : TypeId) (i : TypeInfo) (z : Value) (size bytes : Nat) (h1 : P.underlying t = some (.slice e)) (h2 : P.info? e = some i) (h3 : i.zero = some z) (h4 : i.size = size) (h5 : i.bytes = bytes) (h6 : z.cells.size = size) (h7 : 0 < size)
    (v : Value) (k : Nat) (xs : List Value) (hs : a.eval s = v) (hown : w.ownsRow base e size v k xs) (ad : Addr) (m c : Nat) (news : List Value) (hx : a.eval x = .slice (some ad) m c) (hn : news.length = m * size)
    (hc : ∀ j u, news[j]? = some u → w.cell? (ad.add j) = some u) (h1c : ∀ u ∈ news, u.oneCell' = true) (hm : 0 < m) (b1 : k + m ≤ maxLen) (b2 : (k + m) * bytes ≤ 140737488355328) (b3 : base ≤ w.heap.size) (H : Nat) (hH : w.heap.size = H)
    (p : Value → Prop) (hpz : ∀ u ∈ z.cells, p u) (hpn : ∀ u ∈ news, p u) (hpo : ∀ g cs ty fr, v.ownBlock = some g → w.heap[g]? = some (.cells cs ty fr) → ∀ u ∈ cs, p u)
    (hK : ∀ g cap w', w'.ownsRow base e size (.slice (some ⟨g, 0, none⟩) (k + m) cap) (k + m) (xs ++ news) → w.grownBy w' v.ownBlock → (v.ownBlock = some g ∨ g = H) → g < w'.heap.size → (∀ cs ty fr, w'.heap[g]? = some (.cells cs ty fr) → ∀ u ∈ cs, p u) → wpListIn F n P ops Q rest (a.put o.dst (.slice (some ⟨g, 0, none⟩) (k + m) cap)) w') :
    wpListIn F n P ops Q (o :: rest) a w := by
  refine wpListIn_plain hg fun K hK' => ?_
  obtain ⟨g, cap, w', hrun, r1, r2, r3, r4, r5⟩ := run_append_no (P := P) w t o.type base e i z size bytes h1 h2 h3 h4 h5 h6 h7 v k xs hown ad m c news hn hc h1c hm b1 b2 b3 H hH p hpz hpn hpo
  unfold Oper.wpIn
  refine ⟨?_, ?_⟩
  · simp [Oper.about, hop, resolve, Target.leads, Sem.run_pure]
  · rw [Oper.semAt_plain F _ _ (by rw [hop]; intro c hc'; cases hc')]
    simp [execOp, hop, resolve, invoke, builtin, hs, hx, hrun, Result.andThen]
    exact hK' _ _ (hK g cap w' r1 r2 r3 r4 r5)

/-- Rows in cells, that can be read. -/
def RowsC (W : World) (xs : List Value) (rs : List RowM) : Prop :=
  ∀ j, j < rs.length → ∃ ga gc aa ac ta tc, xs[j * 4]? = some (.slice ga (rs[j]?.getD noR).guards.length gc) ∧ xs[j * 4 + 1]? = some (.slice aa (rs[j]?.getD noR).adds.length ac) ∧ xs[j * 4 + 2]? = some (.slice ta (rs[j]?.getD noR).tells.length tc) ∧ xs[j * 4 + 3]? = some (.bool (rs[j]?.getD noR).stop) ∧
    FormsAt W ga (rs[j]?.getD noR).guards ∧ FormsAt W aa (rs[j]?.getD noR).adds ∧ FormsAt W ta (rs[j]?.getD noR).tells
theorem RowsC.keepR {X Y : World} {xs : List Value} {rs : List RowM} (h : RowsC X xs rs) (k : KpR X Y) : RowsC Y xs rs := fun j hj => by
  obtain ⟨ga, gc, aa, ac, ta, tc, e0, e1, e2, e3, f0, f1, f2⟩ := h j hj
  exact ⟨ga, gc, aa, ac, ta, tc, e0, e1, e2, e3, f0.keepR k, f1.keepR k, f2.keepR k⟩
theorem RowsC.app {W : World} {xs : List Value} {rs : List RowM} {r : RowM} {ga aa ta : Option Addr} {gc ac tc : Nat} (h : RowsC W xs rs) (hl : xs.length = rs.length * 4) (f0 : FormsAt W ga r.guards) (f1 : FormsAt W aa r.adds) (f2 : FormsAt W ta r.tells) :
    RowsC W (xs ++ [.slice ga r.guards.length gc, .slice aa r.adds.length ac, .slice ta r.tells.length tc, .bool r.stop]) (rs ++ [r]) := fun j hj => by
  rw [List.length_append] at hj
  by_cases hjr : j < rs.length
  · rw [List.getElem?_append_left (l₁ := rs) hjr, List.getElem?_append_left (by omega), List.getElem?_append_left (by omega), List.getElem?_append_left (by omega), List.getElem?_append_left (by omega)]
    exact h j hjr
  · obtain rfl : j = rs.length := by simp at hj; omega
    rw [List.getElem?_append_right (l₁ := rs) (by omega), List.getElem?_append_right (by omega), List.getElem?_append_right (by omega), List.getElem?_append_right (by omega), List.getElem?_append_right (by omega), hl, Nat.sub_self, Nat.sub_self, show rs.length * 4 + 1 - rs.length * 4 = 1 by omega, show rs.length * 4 + 2 - rs.length * 4 = 2 by omega, show rs.length * 4 + 3 - rs.length * 4 = 3 by omega]
    exact ⟨ga, gc, aa, ac, ta, tc, rfl, rfl, rfl, rfl, f0, f1, f2⟩
theorem RowsOk.toC {W : World} {S : Nat → Prop} {xs : List Value} {rs : List RowM} (h : RowsOk W S xs rs) : RowsC W xs rs := fun j hj => by
  obtain ⟨ga, gc, aa, ac, ta, tc, e0, e1, e2, e3, f0, f1, f2⟩ := h j hj
  exact ⟨ga, gc, aa, ac, ta, tc, e0, e1, e2, e3, f0.at, f1.at, f2.at⟩
/-- A slice of rows in memory. -/
def RowsAt (W : World) (a : Option Addr) (rs : List RowM) : Prop :=
  ∀ j, j < rs.length → ∃ b ga gc aa ac ta tc, a = some ⟨b, 0, none⟩ ∧ W.cell? ⟨b, j * 4, none⟩ = some (.slice ga (rs[j]?.getD noR).guards.length gc) ∧ W.cell? ⟨b, j * 4 + 1, none⟩ = some (.slice aa (rs[j]?.getD noR).adds.length ac) ∧ W.cell? ⟨b, j * 4 + 2, none⟩ = some (.slice ta (rs[j]?.getD noR).tells.length tc) ∧ W.cell? ⟨b, j * 4 + 3, none⟩ = some (.bool (rs[j]?.getD noR).stop) ∧
    FormsAt W ga (rs[j]?.getD noR).guards ∧ FormsAt W aa (rs[j]?.getD noR).adds ∧ FormsAt W ta (rs[j]?.getD noR).tells
theorem RowsAt.below {X Y : World} {a : Option Addr} {rs : List RowM} (h : RowsAt X a rs) (k : Below X.heap.size X Y) : RowsAt Y a rs := fun j hj => by
  obtain ⟨b, ga, gc, aa, ac, ta, tc, e, c0, c1, c2, c3, f0, f1, f2⟩ := h j hj
  have hb := block_lt c0
  refine ⟨b, ga, gc, aa, ac, ta, tc, e, ?_, ?_, ?_, ?_, f0.keep k, f1.keep k, f2.keep k⟩
  · rw [k.cell (p := ⟨b, j * 4, none⟩) hb]; exact c0
  · rw [k.cell (p := ⟨b, j * 4 + 1, none⟩) hb]; exact c1
  · rw [k.cell (p := ⟨b, j * 4 + 2, none⟩) hb]; exact c2
  · rw [k.cell (p := ⟨b, j * 4 + 3, none⟩) hb]; exact c3
theorem rowsAt_own {W : World} {base : Nat} {v : Value} {n : Nat} {xs : List Value} {rs : List RowM} (o : W.ownsRow base 25 4 v n xs) (hn : rs.length = n) (r : RowsC W xs rs) : ∃ a c, v = .slice a n c ∧ RowsAt W a rs := by
  rcases o.2 with ⟨rfl, rfl⟩ | ⟨g, cap, cur, rfl, hg, hh, hl⟩
  · exact ⟨none, 0, rfl, fun j hj => by omega⟩
  · refine ⟨_, _, rfl, fun j hj => ?_⟩
    obtain ⟨ga, gc, aa, ac, ta, tc, e0, e1, e2, e3, f0, f1, f2⟩ := r j hj
    have hadd : ∀ k, (⟨g, 0, none⟩ : Addr).add k = ⟨g, k, none⟩ := fun k => by unfold Addr.add; split <;> simp_all
    have hc := o.cells (g := g) rfl
    simp only [hadd] at hc
    exact ⟨g, ga, gc, aa, ac, ta, tc, rfl, hc _ _ e0, hc _ _ e1, hc _ _ e2, hc _ _ e3, f0, f1, f2⟩

def NoI (u : Value) : Prop := ∀ q, u ≠ .int .i64 q
/-- A slice of rows that grows, in a box of its own. -/
structure JI (w : World) (v : Value) (xs : List Value) (rs : List RowM) (X : World) : Prop where
  b : Below w.heap.size w X
  c : Cel X w.heap.size [v] 89
  o : X.ownsRow (w.heap.size + 1) 25 4 v rs.length xs
  n : ∀ (g : Nat) cs ty fr, v.ownBlock = some g → X.heap[g]? = some (Obj.cells cs ty fr) → ∀ u ∈ cs, NoI u
  r : RowsC X xs rs
section
variable {w X Y : World} {v : Value} {xs : List Value} {rs : List RowM}
theorem JI.start : JI w (.slice none 0 0) [] [] (w.alloc (.cells #[.slice none 0 0] 89)) :=
  ⟨(Below.refl _ _).alloc (Nat.le_refl _) _, Cel.new w _ _, World.ownsRow_nil _ _ _ _, fun g cs ty fr h => by simp [Value.ownBlock] at h, fun j hj => by simp at hj⟩
/-- Where all cells stay. -/
theorem JI.move (j : JI w v xs rs X) (hs : ∀ (g : Nat) cs ty fr, X.heap[g]? = some (Obj.cells cs ty fr) → Y.heap[g]? = some (Obj.cells cs ty fr)) (hb : Below w.heap.size w Y) (k : KpR X Y) : JI w v xs rs Y := by
  obtain ⟨b, c, o, n, r⟩ := j
  refine ⟨hb, hs _ _ _ _ c, ?_, ?_, r.keepR k⟩
  · refine ⟨o.1, ?_⟩
    rcases o.2 with h | ⟨g, cap, cur, rfl, hg, hh, hl⟩
    · exact Or.inl h
    · exact Or.inr ⟨g, cap, cur, rfl, hg, hs _ _ _ _ hh, hl⟩
  · intro g cs ty fr hv hh
    rcases o.2 with ⟨rfl, _⟩ | ⟨g', cap, cur, rfl, hg, hh', hl⟩
    · simp [Value.ownBlock] at hv
    · simp [Value.ownBlock] at hv
      subst hv
      have := hs _ _ _ _ hh'
      rw [hh] at this
      cases this
      exact n g' _ _ _ rfl hh'
theorem JI.below (j : JI w v xs rs X) (k : Below X.heap.size X Y) : JI w v xs rs Y :=
  j.move (fun g cs ty fr h => (k.block g (lt_of_block h)).trans h) (j.b.trans (k.mono j.b.size)) (KpR.of k)
theorem KpR.put {X : World} {l : Nat} {o o' : Obj} (h : X.heap[l]? = some o) (ho : o.isCells = false) : KpR X (X.putObj l o') := by
  refine ⟨rfl, rfl, rfl, by simp [World.putObj], fun k hk hn => ?_⟩
  by_cases e : k = l
  · subst e
    exact absurd (fun cs t fr hh => by rw [h] at hh; cases hh; cases ho) hn
  · exact World.putObj_heap_other e
theorem JI.put {l : Nat} {p p' : Obj} (j : JI w v xs rs X) (h : X.heap[l]? = some p) (ho : p.isCells = false) (hl : w.heap.size ≤ l) : JI w v xs rs (X.putObj l p') :=
  j.move (fun g cs ty fr hg => by
    have hne : g ≠ l := fun e => by subst e; rw [h] at hg; cases hg; cases ho
    rw [World.putObj_heap_other hne]; exact hg) (below_put j.b hl) (KpR.put h ho)
theorem JI.val (j : JI w v xs rs X) : ∀ q, v ≠ .int .i64 q := by
  rcases j.o.2 with ⟨rfl, _⟩ | ⟨g', cap, cur, rfl, _⟩ <;> (intro q h; cases h)
theorem JI.looseBox (j : JI w v xs rs X) : Loose X.heap[w.heap.size]? := fun cs t fr e => by
  have h := j.c
  unfold Cel at h
  rw [h] at e
  cases e
  refine ⟨Or.inr (Or.inr rfl), fun i q hq => ?_⟩
  match i with
  | 0 => exact j.val q (by simpa using hq)
  | i + 1 => simp at hq
theorem JI.looseRow (j : JI w v xs rs X) {g : Nat} (hg : v.ownBlock = some g) : Loose X.heap[g]? := fun cs t fr e => by
  rcases j.o.2 with ⟨rfl, _⟩ | ⟨g', cap, cur, rfl, hb, hh, hl⟩
  · simp [Value.ownBlock] at hg
  · simp [Value.ownBlock] at hg
    subst hg
    have e2 := e
    rw [hh] at e2
    cases e2
    refine ⟨Or.inr (Or.inl rfl), fun i q hq => ?_⟩
    exact j.n g' _ _ _ rfl e _ (Array.mem_of_getElem? hq) q rfl
theorem JI.kpG (j : JI w v xs rs X) (hg : X.grownBy Y v.ownBlock) : KpR X Y := ⟨hg.os, hg.tape, hg.output, hg.size, fun k hk hn => hg.block k hk (fun e => hn (j.looseRow e.symm))⟩
theorem JI.ksG {B : Nat} (j : JI w v xs rs X) (hg : X.grownBy Y v.ownBlock) : KeepsFrom B X Y := ⟨hg.size, fun k o _ hk ho => (hg.block k (Array.getElem?_eq_some_iff.1 hk).1 (fun e => by
  rcases j.o.2 with ⟨rfl, _⟩ | ⟨g', cap, cur, rfl, hb, hh, hl⟩
  · simp [Value.ownBlock] at e
  · simp [Value.ownBlock] at e
    subst e
    rw [hk] at hh; cases hh; cases ho)).trans hk⟩
theorem JI.boxG (j : JI w v xs rs X) (hg : X.grownBy Y v.ownBlock) : Y.cell? ⟨w.heap.size, 0, none⟩ = some v ∧ Y.frozen? ⟨w.heap.size, 0, none⟩ = false := by
  have hbx : v.ownBlock ≠ some w.heap.size := fun e => by
    rcases j.o.2 with ⟨rfl, _⟩ | ⟨g', cap, cur, rfl, hb, hh, hl⟩
    · simp [Value.ownBlock] at e
    · simp [Value.ownBlock] at e
      omega
  exact ⟨(j.c.grew hg hbx).cell 0, (j.c.grew hg hbx).free 0⟩
/-- One row more. -/
theorem JI.app {g c k : Nat} {r : RowM} {ga aa ta : Option Addr} {gc ac tc : Nat} (j : JI w v xs rs X) (hk : rs.length = k) (f0 : FormsAt X ga r.guards) (f1 : FormsAt X aa r.adds) (f2 : FormsAt X ta r.tells)
    (hown : Y.ownsRow (w.heap.size + 1) 25 4 (.slice (some ⟨g, 0, none⟩) (k + 1) c) (k + 1) (xs ++ [.slice ga r.guards.length gc, .slice aa r.adds.length ac, .slice ta r.tells.length tc, .bool r.stop])) (hg : X.grownBy Y v.ownBlock) (hn : ∀ cs ty fr, Y.heap[g]? = some (.cells cs ty fr) → ∀ u ∈ cs, NoI u) :
    JI w (.slice (some ⟨g, 0, none⟩) (k + 1) c) (xs ++ [.slice ga r.guards.length gc, .slice aa r.adds.length ac, .slice ta r.tells.length tc, .bool r.stop]) (rs ++ [r]) (Y.setCell ⟨w.heap.size, 0, none⟩ (.slice (some ⟨g, 0, none⟩) (k + 1) c)) ∧ KpR X (Y.setCell ⟨w.heap.size, 0, none⟩ (.slice (some ⟨g, 0, none⟩) (k + 1) c)) ∧ ∀ B, w.heap.size < B → KeepsFrom B X (Y.setCell ⟨w.heap.size, 0, none⟩ (.slice (some ⟨g, 0, none⟩) (k + 1) c)) := by
  subst hk
  have k1 := j.kpG hg
  have hr := (j.r.keepR k1).app (gc := gc) (ac := ac) (tc := tc) j.o.1 (f0.keepR k1) (f1.keepR k1) (f2.keepR k1)
  have hbx : v.ownBlock ≠ some w.heap.size := fun e => by
    rcases j.o.2 with ⟨rfl, _⟩ | ⟨g', cap, cur, rfl, hb, hh, hl⟩
    · simp [Value.ownBlock] at e
    · simp [Value.ownBlock] at e
      omega
  have c1 : Cel Y w.heap.size [v] 89 := j.c.grew hg hbx
  have l1 : Loose Y.heap[w.heap.size]? := by
    have := j.looseBox
    rw [hg.block _ j.c.lt (fun e => hbx e.symm)]; exact this
  have T : Touch (fun x => x = w.heap.size) Y (Y.setCell ⟨w.heap.size, 0, none⟩ (.slice (some ⟨g, 0, none⟩) (rs.length + 1) c)) := Touch.setCell (S := fun x => x = w.heap.size) (Touch.refl _ _) rfl _
  have k2 : KpR Y (Y.setCell ⟨w.heap.size, 0, none⟩ (.slice (some ⟨g, 0, none⟩) (rs.length + 1) c)) := T.mono (fun k e => by subst e; exact l1)
  have bY : Below w.heap.size w Y := j.b.grown hg j.b.size (fun z hz => by
    rcases j.o.2 with ⟨rfl, _⟩ | ⟨g', cap, cur, rfl, hb, hh, hl⟩
    · simp [Value.ownBlock] at hz
    · simp [Value.ownBlock] at hz
      omega)
  have gl : w.heap.size + 1 ≤ g := by
    rcases hown.2 with ⟨h, _⟩ | ⟨g', cap, cur, h, hb, _⟩
    · cases h
    · simp only [Value.slice.injEq, Option.some.injEq, Addr.mk.injEq, and_true, true_and] at h; omega
  refine ⟨⟨below_touch bY T (Nat.le_refl _), c1.set 0 _, ?_, ?_, hr.keepR k2⟩, k1.trans k2, fun B hB => (j.ksG hg).trans (keeps_touch T hB)⟩
  · rw [List.length_append]
    exact ownsRow_touch hown T (fun k h => by omega)
  · intro g' cs ty fr hv hh
    simp [Value.ownBlock] at hv
    subst hv
    have hb := T.block g (by
      rcases hown.2 with ⟨h, _⟩ | ⟨g', cap, cur, h, hb, hh', _⟩
      · cases h
      · simp only [Value.slice.injEq, Option.some.injEq, Addr.mk.injEq, and_true, true_and] at h
        rw [h.1]; exact lt_of_block hh') (by omega)
    rw [hb] at hh
    exact hn _ _ _ hh
end

set_option maxHeartbeats 1600000 in
theorem through_no (l : Nat) (aB : Nat) (ad : Option Addr) (N cap : Nat) (ls : List LV) (W : World) (n : Nat) (hN : ls.length = N) (hF : LinesG W ad ls) (hN1 : N ≤ 1048576) (hok : actB N ls = false) (hc : W.cell? ⟨aB, 0, none⟩ = some (.slice ad N cap)) :
    CallsIn Fence.wide n Try.prog 71 #[.func (.yield l) #[] #[], .pointer (some ⟨aB, 0, none⟩)] W fun e Y => (∃ v, e = .returned v) ∧ Below W.heap.size W Y := by
  have hdd : ∀ k : Nat, (Fence.wide.depth.isSome = true → 1 ≤ k) := fun k h => by simp [Fence.wide] at h
  refine callsIn_of_wp Try.func71 rfl trivial ?_ rfl
  simp only [Try.ntmps71, List.size_toArray, List.length_cons, List.length_nil, Nat.reduceAdd, Nat.reduceSub, Array.replicate_succ, Array.replicate_zero, List.push_toArray, List.append_toArray, List.nil_append, List.cons_append]
  gi_wp2_with fail
  refine ⟨trivial, hdd _, (callsIn_wide.2 (isteps_any ad N cap ls _ hN hF hN1)).mono ?_⟩
  rintro e w1 ⟨sv, rfl, b1, _⟩
  rw [hok]
  gi_wp2
  go_end0
  exact ⟨⟨_, rfl⟩, b1⟩

theorem news4 (X : World) (a b c d : Value) (t : TypeId) : ∀ j u, [a, b, c, d][j]? = some u → (X.alloc (.cells #[a, b, c, d] t)).cell? ((⟨X.heap.size, 0, none⟩ : Addr).add j) = some u := by
  intro j u h
  have hadd : ∀ k, (⟨X.heap.size, 0, none⟩ : Addr).add k = ⟨X.heap.size, k, none⟩ := fun k => by unfold Addr.add; split <;> simp_all
  have C := Cel.new X [a, b, c, d] t
  rw [hadd]
  match j, h with
  | 0, h => cases h; exact C.cell 0
  | 1, h => cases h; exact C.cell 1
  | 2, h => cases h; exact C.cell 2
  | 3, h => cases h; exact C.cell 3
  | j + 4, h => simp at h

end Go.Proofs.Ytemcinobgdphnaa
namespace Go.Proofs.Ytemcinobgdphnaa
open Go.RowKit Go.Deep Go.Shelf
set_option linter.unusedVariables false
set_option maxRecDepth 100000

end Go.Proofs.Ytemcinobgdphnaa
namespace Go.Proofs.Ytemcinobgdphnaa
open Go.RowKit
set_option linter.unusedVariables false
set_option maxRecDepth 100000

/-- An answer of either: rows that lie in memory. -/
def RwM (w w' : World) (e : Ending) (rs : List RowM) : Prop := ∃ a n c, e = .returned (.slice a n c) ∧ n = rs.length ∧ RowsAt w' a rs ∧ Below w.heap.size w w'
theorem qRows (ad : Option Addr) (N cap : Nat) (ls : List LV) (w : World) (hN : ls.length = N) (hF : LinesG w ad ls) (hN1 : N ≤ 1048576) :
    Calls Try.prog 57 #[.slice ad N cap] w fun e w' => RwM w w' e (rowsB N ls) :=
  (srows_any ad N cap ls w hN hF hN1).mono fun e w' h => by
    obtain ⟨G, cp, xs, he, j⟩ := h
    obtain ⟨a, c, hv, hr⟩ := rowsAt_own j.o rfl j.r.toC
    exact ⟨_, _, _, he, rfl, by cases hv; exact hr, j.b⟩
theorem rowsB_fit {N : Nat} {ls : List LV} {w : World} {ad : Option Addr} (hN : ls.length = N) (hF : LinesG w ad ls) : ∀ r ∈ rowsB N ls, RowFit r := fun r hr => by
  unfold rowsB at hr
  split at hr
  · rename_i h
    exact rowsL_fit (by rw [hN]; exact (actB_parts h).1) (actB_parts h).2 hF r hr
  · simp at hr
theorem rowsB_le {N : Nat} {ls : List LV} (hN : ls.length = N) : (rowsB N ls).length ≤ 8 := by
  unfold rowsB
  split
  · rename_i h
    obtain ⟨_, h2, h3, _⟩ := rowsL_few hN h
    exact Nat.le_trans h2 (Nat.pow_le_pow_right (by omega) h3)
  · simp
theorem rowsB_yes {N : Nat} {ls : List LV} (h : actB N ls = true) : rowsB N ls = rowsL ls := by rw [rowsB, h]; rfl
theorem rowsB_no {N : Nat} {ls : List LV} (h : actB N ls = false) : rowsB N ls = [] := by rw [rowsB, h]; rfl

end Go.Proofs.Ytemcinobgdphnaa
