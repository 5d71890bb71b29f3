/-
  Lemmas that the claim's last text rests on: SerI, MarkL, MarkP, MarkPb, DonS, WkD, WkLg.
-/
import Derived.Test.YtpmihhbgjimpmaaGreatDoorJExactSerRunCardC
import Derived.Test.YtpmihhbgjimpmaaGreatDoorJExactSerRunCardD
import Derived.Test.YtpmihhbgjimpmaaGreatDoorOwn
import Derived.Test.YtpmihhbgjimpmaaGreatDoorLineS
import Derived.Test.YtpmihhbgjimpmaaGreatDoorMarks
import Derived.Test.YtpmihhbgjimpmaaGreatDoorMade
import Derived.Test.YtpmihhbgjimpmaaGreatDoorJExactSerRunCardA
import Derived.Test.YtpmihhbgjimpmaaGreatDoorDonE
import Derived.Test.YtpmihhbgjimpmaaGreatDoorLogS
namespace Go.Proofs.YtpmihhbgjimpmaaGreatDoor
open Go.RowKit Go.Deep Go.Joins
set_option linter.unusedVariables false
set_option maxRecDepth 100000
attribute [local go_sem] Oper.semAt_some

section
variable {P : Program} {n : Nat} {α : Type}

theorem wpIn_rowsI {g : Operand} {ps : Array Tmp} {assign body : Code} {Q : Exit → Act → World → Prop} {a : Act} {w : World} {gf : Nat} {lb : Array Value}
    (hg : a.eval g = .func (.func gf) #[] lb) (eg : ∀ args w, (callFunc gf args).run P w = .ok (.enter gf args) w)
    {encs : α → Array Value} (hps : ∀ x, (encs x).size = ps.size) (A : List α → α → World → Prop) (Kp : World → World → Prop) (Sx : List α → Prop) (I : List α → World → Prop)
    (hI : ∀ pre X Y, I pre X → Below X.heap.size X Y → I pre Y) (hIb : ∀ pre X l r r', I pre X → X.heap[l]? = some (.loop r) → w.heap.size < l → I pre (X.putObj l (.loop r')))
    (hKb : ∀ X l r r', X.heap[l]? = some (.loop r) → Kp X (X.putObj l (.loop r'))) (hKt : ∀ X Y Z, Kp X Y → Kp Y Z → Kp X Z) (h0 : I [] w)
    (hseq : ∀ (l : Nat) (J : List α → World → Prop) (W : World), (∀ pre X Y, J pre X → Below X.heap.size X Y → J pre Y) → Below w.heap.size w W → J [] W → (∀ pre X, J pre X → I pre X) →
      (∀ m pre x X, J pre X → A pre x X → YieldAt Fence.wide m P l (encs x) X fun e Y => e = .returned (.bool true) ∧ J (pre ++ [x]) Y ∧ Kp X Y) →
      CallsIn Fence.wide (n - 1) P gf (#[.func (.yield l) #[] #[]] ++ lb) W fun e Y => (∃ v, e = .returned v) ∧ ∃ xs, Sx xs ∧ J xs Y)
    (hround : ∀ (m l : Nat) (pre : List α) (x : α) (X : World) (r : Loop), I pre X → A pre x X → X.heap[l]? = some (.loop r) → w.heap.size < l →
      assign.wpIn (Fence.wide.inRound l) m P (Exit.then (fun a' Y => KeepsFrom w.heap.size X Y ∧ Kp X Y ∧ body.wpIn (Fence.wide.inRound l) m P (roundOn w.heap.size Kp I (pre ++ [x]) (Y.putObj l (.loop { r with state := .busy }))) a' (Y.putObj l (.loop { r with state := .busy }))) (fun _ _ _ => False))
        { tmps := (ps.zip (encs x)).foldl (fun t (p, v) => t.setIfInBounds p v) a.tmps, defers := [] } X)
    (hdone : ∀ (D : Nat) (xs : List α) (W : World), w.heap.size ≤ D → Sx xs → I xs W → W.heap[D]? = some (.deferred (some [])) → Q .normal { a with defers := { target := .collected D, args := #[] } :: a.defers } W) :
    (Code.rangeFunc g ps assign body).wpIn Fence.wide n P Q a w := by
  refine wpIn_rangeFunc ?_
  intro fn _
  obtain ⟨r0, hr0⟩ : ∃ r0 : Loop, r0 = { state := .ready, pending := none, fn, tmps := a.tmps, params := ps, assign, body, defers := w.heap.size } := ⟨_, rfl⟩
  obtain ⟨W1, hW1⟩ : ∃ W1, W1 = (w.alloc (.deferred (some []))).alloc (.loop r0) := ⟨_, rfl⟩
  have b1 : Below w.heap.size w W1 := by rw [hW1]; exact ((Below.refl _ w).alloc (Nat.le_refl _) _).alloc (by simp) _
  have hL : W1.heap[w.heap.size + 1]? = some (.loop r0) := by
    rw [hW1]; have := World.alloc_heap_new (w.alloc (.deferred (some []))) (.loop r0); rwa [World.size_alloc] at this
  have hD : W1.heap[w.heap.size]? = some (.deferred (some [])) := by
    rw [hW1]; exact (Below.heap_alloc _ _ _ (by simp)).trans (World.alloc_heap_new w _)
  refine ⟨w.heap.size + 1, [{ target := .collected w.heap.size, args := #[] }], W1, { target := .fn (.func gf) lb, args := #[.func (.yield (w.heap.size + 1)) #[] #[]] }, W1, gf, #[.func (.yield (w.heap.size + 1)) #[] #[]] ++ lb, W1, ?_, ?_, ?_, ?_, ?_, ?_⟩
  · rw [hW1, hr0]; exact run_enterLoop_outer _ _ _ _ _
  · simp only [resolve, hg]
    simp [go_sem]
  · intro f' _; trivial
  · simp [invoke, go_sem, eg]
  · intro h; simp [Fence.wide] at h
  · refine (hseq (w.heap.size + 1) (fun pre W => I pre W ∧ W.heap[w.heap.size + 1]? = some (.loop r0) ∧ W.heap[w.heap.size]? = some (.deferred (some []))) W1 ?_ b1 ⟨hI _ _ _ h0 b1, hL, hD⟩ (fun _ _ h => h.1) ?_).mono ?_
    · rintro pre X Y ⟨i1, i2, i3⟩ hb
      exact ⟨hI _ _ _ i1 hb, (hb.block _ (Array.getElem?_eq_some_iff.1 i2).1).trans i2, (hb.block _ (Array.getElem?_eq_some_iff.1 i3).1).trans i3⟩
    · rintro m pre x X ⟨i1, i2, i3⟩ hA
      have hy := run_yield (P := P) (args := encs x) i2 (by rw [hr0]; exact hps x)
      rw [hr0] at hy
      refine ⟨fn, _, assign, body, hy, roundIn_of_wpIn trivial (wpIn_mono (hround m _ pre x X r0 i1 hA i2 (by omega)) ?_)⟩
      rintro e a' Y hp
      cases e with
      | normal =>
        obtain ⟨k1, k2, hb⟩ := hp
        have j2 := k1.same _ _ (by omega) i2 rfl
        have j3 := k1.same _ _ (Nat.le_refl _) i3 rfl
        refine ⟨_, run_beginRound j2 (by rw [hr0]), wpIn_mono hb ?_⟩
        rintro e a'' Z hq
        cases e with
        | normal =>
          obtain ⟨q1, q2, q3⟩ := hq
          have hl : w.heap.size + 1 < Y.heap.size := (Array.getElem?_eq_some_iff.1 j2).1
          have m2 := q1.same _ _ (by omega) (World.putObj_heap_same (o := .loop { r0 with state := .busy }) hl) rfl
          have m3 := q1.same _ _ (Nat.le_refl _) ((World.putObj_heap_other (by omega)).trans j3) rfl
          have hz : w.heap.size + 1 < Z.heap.size := (Array.getElem?_eq_some_iff.1 m2).1
          refine ⟨_, _, run_endRound none m2, rfl, ⟨hIb _ _ _ _ _ q3 m2 (by omega), ?_, (World.putObj_heap_other (by omega)).trans m3⟩, hKt _ _ _ (hKt _ _ _ (hKt _ _ _ k2 (hKb _ _ _ _ j2)) q2) (hKb _ _ _ _ m2)⟩
          rw [World.putObj_heap_same hz, hr0]
          rfl
        | ret => exact hq.elim
        | exit id => exact hq.elim
        | goto t => exact hq.elim
        | panic c => exact hq.elim
        | outgrown => exact hq.elim
      | ret => exact hp.elim
      | exit id => exact hp.elim
      | goto t => exact hp.elim
      | panic c => exact hp.elim
      | outgrown => exact hp.elim
    · rintro e W2 ⟨⟨v, rfl⟩, xs, hS, i1, i2, i3⟩
      exact ⟨none, _, by have := run_endLoop (P := P) i2 (by rw [hr0]; simp); rw [hr0] at this; rw [hr0] at i2; exact this, hdone _ xs _ (Nat.le_refl _) hS (hIb _ _ _ _ _ i1 i2 (by omega)) ((World.putObj_heap_other (by omega)).trans i3)⟩

end
theorem wpListIn_append_liesR {F : Fence} {n : Nat} {P : Program} (w : World) {ops : Array Oper} {rest : List Oper} {o : Oper} {a : Act} {Q : Exit → Act → World → Prop}
    (hg : o.guard = none) (s x : Operand) (t : TypeId) (hop : o.op = Op.call { callee := Callee.builtin Builtin.append, args := #[s, x], argTypes := #[t, t] })
    (base : Nat) (e : TypeId) (i : TypeInfo) (z : Value) (size bytes : Nat) (h1 : P.underlying t = some (.slice e)) (h2 : P.info? e = some i) (h3 : i.zero = some z) (h4 : i.size = size) (h5 : i.bytes = bytes) (h6 : z.cells.size = size) (h7 : 0 < size)
    (v : Value) (k : Nat) (xs : List Value) (hs : a.eval s = v) (hown : w.ownsRow base e size v k xs) (ad : Addr) (m c : Nat) (news : List Value) (hx : a.eval x = .slice (some ad) m c) (hn : news.length = m * size)
    (hc : ∀ j u, news[j]? = some u → w.cell? (ad.add j) = some u) (h1c : ∀ u ∈ news, u.oneCell' = true) (hm : 0 < m) (b1 : k + m ≤ maxLen) (b2 : (k + m) * bytes ≤ 140737488355328) (b3 : base ≤ w.heap.size) (H : Nat) (hH : w.heap.size = H)
    (hK : ∀ g cap w', w'.ownsRow base e size (.slice (some ⟨g, 0, none⟩) (k + m) cap) (k + m) (xs ++ news) → w.grownBy w' v.ownBlock → (v.ownBlock = some g ∨ g = H) → g < w'.heap.size → wpListIn F n P ops Q rest (a.put o.dst (.slice (some ⟨g, 0, none⟩) (k + m) cap)) w') :
    wpListIn F n P ops Q (o :: rest) a w := by
  refine wpListIn_plain hg fun K hK' => ?_
  obtain ⟨g, cap, w', hrun, r1, r2, r3, r4⟩ := run_append_lies (P := P) w t o.type base e i z size bytes h1 h2 h3 h4 h5 h6 h7 v k xs hown ad m c news hn hc h1c hm b1 b2 b3 H hH
  unfold Oper.wpIn
  refine ⟨?_, ?_⟩
  · simp [Oper.about, hop, resolve, Target.leads, Sem.run_pure]
  · rw [Oper.semAt_plain F _ _ (by rw [hop]; intro c hc'; cases hc')]
    simp [execOp, hop, resolve, invoke, builtin, hs, hx, hrun, Result.andThen]
    exact hK' _ _ (hK g cap w' r1 r2 r3 r4)

theorem Below.setBothS {w W : World} (h : Below w.heap.size w W) {X : Nat} {vs : List Value} {t : TypeId} (hX : X < w.heap.size) (hc : Cel W X vs t) (i : Nat) (y : Value) : Below w.heap.size (w.setCell ⟨X, i, none⟩ y) (W.setCell ⟨X, i, none⟩ y) := by
  have tW : Touch (fun x => x = X) W (W.setCell ⟨X, i, none⟩ y) := (Touch.refl (fun x => x = X) W).setCell rfl _
  have tw : Touch (fun x => x = X) w (w.setCell ⟨X, i, none⟩ y) := (Touch.refl (fun x => x = X) w).setCell rfl _
  have hcw : Cel w X vs t := by unfold Cel at *; rw [← h.block X hX]; exact hc
  have hs := h.size
  refine ⟨tW.os.trans (h.os.trans tw.os.symm), tW.tape.trans (h.tape.trans tw.tape.symm), tW.output.trans (h.output.trans tw.output.symm), by rw [size_setCell, size_setCell]; exact hs, fun k hk => ?_⟩
  by_cases e : k = X
  · subst e
    have h1 := hc.set i y
    have h2 := hcw.set i y
    unfold Cel at h1 h2
    rw [h1, h2]
  · rw [tW.block k (Nat.lt_of_lt_of_le hk hs) e, h.block k hk, tw.block k hk e]
theorem own_touchS {S : Nat → Prop} {W W' : World} {base : Nat} {e : TypeId} {s : Nat} {v : Value} {n : Nat} {xs : List Value} (h : W.ownsRow base e s v n xs) (t : Touch S W W') (hS : ∀ g cs ty fr, base ≤ g → W.heap[g]? = some (.cells cs ty fr) → ¬ S g) : W'.ownsRow base e s v n xs := by
  refine ⟨h.1, ?_⟩
  rcases h.2 with h2 | ⟨g, cap, cur, hv, hg, hh, r⟩
  · exact Or.inl h2
  · exact Or.inr ⟨g, cap, cur, hv, hg, by rw [t.block g (lt_of_block hh) (hS g _ _ _ hg hh)]; exact hh, r⟩
theorem OwnX.cellsS {W : World} {a : Option Addr} {B n : Nat} {zs : List Int} (h : OwnX W a B n zs) (hn : 0 < n) : ∃ cs ty fr, W.heap[B]? = some (.cells cs ty fr) := by
  rcases h.2 with h0 | ⟨_, cur, hc, _⟩
  · omega
  · exact ⟨_, _, _, hc⟩
theorem JRs.setLow {w W : World} {v : Value} {ts : List RsV} {bs : Nat → Nat} (j : JRs w v ts bs W) {X : Nat} {vs : List Value} {t : TypeId} (hX : X < w.heap.size) (hc : Cel W X vs t) (i : Nat) (y : Value) : JRs (w.setCell ⟨X, i, none⟩ y) v ts bs (W.setCell ⟨X, i, none⟩ y) := by
  have tW : Touch (fun x => x = X) W (W.setCell ⟨X, i, none⟩ y) := (Touch.refl (fun x => x = X) W).setCell rfl _
  have b := Below.setBothS j.b hX hc i y
  refine ⟨by rw [size_setCell]; exact b, by rw [size_setCell]; exact own_touchS j.o tW (fun g _ _ _ hg _ e => by omega), fun k hk => ?_, j.d⟩
  obtain ⟨a, b, c⟩ := j.k k hk
  exact ⟨a.touch tW (fun h0 e => by have := (c h0).1; omega), b, fun h0 => by rw [size_setCell]; exact c h0⟩
theorem JRs.past {w W W' : World} {v : Value} {ts : List RsV} {bs : Nat → Nat} {S : Nat → Prop} (j : JRs w v ts bs W) (t : Touch S W W') (hS : ∀ k, S k → w.heap.size ≤ k ∧ ∀ cs ty fr, W.heap[k]? ≠ some (.cells cs ty fr)) : JRs w v ts bs W' :=
  ⟨j.b.trans (t.below j.b.size (fun k hk => (hS k hk).1)), own_touchS j.o t (fun g _ _ _ _ hh hg => (hS g hg).2 _ _ _ hh), fun i hi => by
    obtain ⟨a, b, c⟩ := j.k i hi
    exact ⟨a.touch t (fun h0 hs => by obtain ⟨cs, ty, fr, e⟩ := a.cellsS h0; exact (hS _ hs).2 _ _ _ e), b, c⟩, j.d⟩
theorem JRs.ksG {B : Nat} {w W W' : World} {v : Value} {ts : List RsV} {bs : Nat → Nat} (j : JRs w v ts bs W) (hg : W.grownBy W' v.ownBlock) : KeepsFrom B W W' := ⟨hg.size, fun k o _ hk ho => (hg.block k (Array.getElem?_eq_some_iff.1 hk).1 (fun e => by
  rcases j.o.2 with ⟨h', _⟩ | ⟨g', cap, cur, hv, hb, hh, hl⟩
  · rw [h'] at e; simp [Value.ownBlock] at e
  · rw [hv] at e
    simp only [Value.ownBlock, Option.some.injEq] at e
    subst e
    rw [hk] at hh; cases hh; cases ho)).trans hk⟩
theorem put_touch {X : World} {l : Nat} {o : Obj} : Touch (fun k => k = l) X (X.putObj l o) := ⟨rfl, rfl, rfl, by simp [World.putObj], fun k hk hn => World.putObj_heap_other hn⟩

/-- What is told of a call: a code, what it tells; what the pots have then. -/
structure SA where
  c : Int
  a : Option Addr
  n : Nat
  cap : Nat
  x : List Int
  b : Option Addr
  m : Nat
  mc : Nat
  p : List Int
def SA.enc (s : SA) : Array Value := #[resV s.c s.a s.n s.cap, .slice s.b s.m s.mc]
/-- Ahead of a call: what was told so far lies in the box RB, what the pots have in the box PB; the boxes P1 and P2 stay. -/
structure SQ (w wb : World) (H RB PB P1 P2 : Nat) (pv lv : List Value) (v : Value) (ts : List RsV) (bs : Nat → Nat) (b : Option Addr) (m mc BB : Nat) (P : List Int) (X : World) : Prop where
  h : wb.heap.size = H
  bw : Below w.heap.size w wb
  c1 : Cel wb P1 pv 26
  c2 : Cel wb P2 lv 46
  j : JRs wb v ts bs X
  cr : Cel X RB [v] 49
  cp : Cel X PB [.slice b m mc] 24
  o : OwnX X b BB m P
  z : m ≤ 1048576
  f : 0 < m → w.heap.size ≤ BB ∧ BB ≠ RB ∧ BB ≠ PB ∧ some BB ≠ v.ownBlock ∧ ∀ j, j < ts.length → 0 < (ts[j]?.getD noRs).t.n → bs j ≠ BB
section
variable {w wb : World} {H RB PB P1 P2 : Nat} {pv lv : List Value} {v : Value} {ts : List RsV} {bs : Nat → Nat} {b : Option Addr} {m mc BB : Nat} {P : List Int} {X Y : World}
theorem SQ.below (q : SQ w wb H RB PB P1 P2 pv lv v ts bs b m mc BB P X) (h : Below X.heap.size X Y) : SQ w wb H RB PB P1 P2 pv lv v ts bs b m mc BB P Y := ⟨q.h, q.bw, q.c1, q.c2, q.j.below h, q.cr.below h, q.cp.below h, q.o.below h, q.z, q.f⟩
theorem SQ.past {S : Nat → Prop} (q : SQ w wb H RB PB P1 P2 pv lv v ts bs b m mc BB P X) (t : Touch S X Y) (hS : ∀ k, S k → H ≤ k ∧ ∀ cs ty fr, X.heap[k]? ≠ some (.cells cs ty fr)) : SQ w wb H RB PB P1 P2 pv lv v ts bs b m mc BB P Y :=
  ⟨q.h, q.bw, q.c1, q.c2, q.j.past t (fun k hk => by rw [q.h]; exact hS k hk), q.cr.touch t (fun hs => (hS _ hs).2 _ _ _ q.cr), q.cp.touch t (fun hs => (hS _ hs).2 _ _ _ q.cp), q.o.touch t (fun h0 hs => by obtain ⟨cs, ty, fr, e⟩ := q.o.cellsS h0; exact (hS _ hs).2 _ _ _ e), q.z, q.f⟩
theorem SQ.all (q : SQ w wb H RB PB P1 P2 pv lv v ts bs b m mc BB P X) : Below w.heap.size w X := q.bw.trans (q.j.b.mono q.bw.size)
theorem SQ.x1 (q : SQ w wb H RB PB P1 P2 pv lv v ts bs b m mc BB P X) : Cel X P1 pv 26 ∧ Cel X P2 lv 46 := ⟨q.c1.below q.j.b, q.c2.below q.j.b⟩
end
/-- Ahead of call k: what came of the calls so far. -/
def SI (w : World) (H RB PB P1 P2 : Nat) (pv lv : List Value) (ss : List L2V) (S : List Int) (fs : List LgV) (pre : List SA) (X : World) : Prop :=
  ∃ wb v ts bs b m mc BB, SQ w wb H RB PB P1 P2 pv lv v ts bs b m mc BB (serL ss S (fs.take pre.length)).2 X ∧ ts.length = pre.length ∧ ts.map dRs = (serL ss S (fs.take pre.length)).1 ∧ ∀ s, pre.getLast? = some s → s.b = b ∧ s.m = m ∧ s.mc = mc
/-- What is told of the next call, in new memory. -/
def ST (w : World) (H RB PB P1 P2 : Nat) (pv lv : List Value) (ss : List L2V) (S : List Int) (fs : List LgV) (pre : List SA) (x : SA) (X : World) : Prop :=
  ∃ X0 AA BB, SI w H RB PB P1 P2 pv lv ss S fs pre X0 ∧ Below X0.heap.size X0 X ∧ OwnX X x.a AA x.n x.x ∧ OwnX X x.b BB x.m x.p ∧ x.n ≤ 1048576 ∧ x.m ≤ 1048576 ∧ (0 < x.n → X0.heap.size ≤ AA) ∧ (0 < x.m → X0.heap.size ≤ BB) ∧ (0 < x.n → 0 < x.m → AA ≠ BB) ∧ pre.length < fs.length ∧ serL ss S (fs.take (pre.length + 1)) = ((serL ss S (fs.take pre.length)).1 ++ [(x.c, x.x)], x.p)
theorem SI.below {w X Y : World} {H RB PB P1 P2 : Nat} {pv lv : List Value} {ss : List L2V} {S : List Int} {fs : List LgV} {pre : List SA} (h : SI w H RB PB P1 P2 pv lv ss S fs pre X) (b : Below X.heap.size X Y) : SI w H RB PB P1 P2 pv lv ss S fs pre Y := by
  obtain ⟨wb, v, ts, bs, b', m, mc, BB, q, r⟩ := h
  exact ⟨wb, v, ts, bs, b', m, mc, BB, q.below b, r⟩
theorem SI.past {S' : Nat → Prop} {w X Y : World} {H RB PB P1 P2 : Nat} {pv lv : List Value} {ss : List L2V} {S : List Int} {fs : List LgV} {pre : List SA} (h : SI w H RB PB P1 P2 pv lv ss S fs pre X) (t : Touch S' X Y) (hS : ∀ k, S' k → H ≤ k ∧ ∀ cs ty fr, X.heap[k]? ≠ some (.cells cs ty fr)) : SI w H RB PB P1 P2 pv lv ss S fs pre Y := by
  obtain ⟨wb, v, ts, bs, b', m, mc, BB, q, r⟩ := h
  exact ⟨wb, v, ts, bs, b', m, mc, BB, q.past t hS, r⟩
theorem ionebyone_any (cl : Int) (ad : Option Addr) (N cap : Nat) (ga : Option Addr) (gn gc : Nat) (sa : Option Addr) (sn sc : Nat) (la : Option Addr) (ln lc : Nat) (w : World) :
    Calls Tryz.prog 65 #[plV cl ad N cap ga gn gc sa sn sc, .slice la ln lc] w fun e w' => ∃ P1 P2, e = .returned (.func (.func 107) #[] #[.pointer (some ⟨P1, 0, none⟩), .pointer (some ⟨P2, 0, none⟩)]) ∧ Below w.heap.size w w' ∧ Cel w' P1 [.int .i64 cl, .slice ad N cap, .slice ga gn gc, .slice sa sn sc] 26 ∧ Cel w' P2 [.slice la ln lc] 46 ∧ w.heap.size ≤ P1 ∧ w.heap.size ≤ P2 := by
  have b1 := (Below.refl w.heap.size w).alloc (Nat.le_refl _) (.cells #[.int .i64 cl, .slice ad N cap, .slice ga gn gc, .slice sa sn sc] 26)
  have c1 := Cel.new w [.int .i64 cl, .slice ad N cap, .slice ga gn gc, .slice sa sn sc] 26
  have b2 := b1.alloc (by rw [World.size_alloc]; omega) (.cells #[.slice la ln lc] 46)
  have c2 := Cel.new (w.alloc (.cells #[.int .i64 cl, .slice ad N cap, .slice ga gn gc, .slice sa sn sc] 26)) [.slice la ln lc] 46
  have c3 := c1.below ((Below.refl _ _).alloc (Nat.le_refl _) (.cells #[.slice la ln lc] 46))
  go_enter Tryz.func65, Tryz.ntmps65
  go_wp2
  go_ret
  rw [World.size_alloc] at c2
  exact ⟨_, _, rfl, b2, c3, c2, Nat.le_refl _, Nat.le_succ _⟩

set_option maxHeartbeats 12800000 in
theorem ione_in (l : Nat) (J : List SA → World → Prop) (w : World) (H RB PB P1 P2 : Nat) (cl : Int) (ad : Option Addr) (N cap : Nat) (ss : List L2V) (ga : Option Addr) (gn gc : Nat) (G : List Int) (sa : Option Addr) (sn sc : Nat) (S : List Int) (la : Option Addr) (ln lc : Nat) (fs : List LgV) (W : World) (n : Nat)
    (hA : PlAt w ad N ss ga gn G sa sn S) (hN : fs.length = ln) (hF : LgSG w la fs) (hz : ln ≤ 1048576) (hp : plnB cl N ss gn G sn S = true) (hlog : logB cl N ln fs = true)
    (hJb : ∀ pre X Y, J pre X → Below X.heap.size X Y → J pre Y) (hJI : ∀ pre X, J pre X → SI w H RB PB P1 P2 [.int .i64 cl, .slice ad N cap, .slice ga gn gc, .slice sa sn sc] [.slice la ln lc] ss S fs pre X) (h0 : J [] W)
    (hY : ∀ (m : Nat) (pre : List SA) (x : SA) (X : World), J pre X → ST w H RB PB P1 P2 [.int .i64 cl, .slice ad N cap, .slice ga gn gc, .slice sa sn sc] [.slice la ln lc] ss S fs pre x X → YieldAt Fence.wide m Tryz.prog l x.enc X fun e Y => e = .returned (.bool true) ∧ J (pre ++ [x]) Y) :
    CallsIn Fence.wide n Tryz.prog 107 #[.func (.yield l) #[] #[], .pointer (some ⟨P1, 0, none⟩), .pointer (some ⟨P2, 0, none⟩)] W fun e Y => (∃ v, e = .returned v) ∧ ∃ pre, pre.length = ln ∧ J pre Y := by
  have hdd : ∀ k : Nat, (Fence.wide.depth.isSome = true → 1 ≤ k) := fun k h => by simp [Fence.wide] at h
  have HN : Hid (fs.length = ln) := hN
  have HB : Hid _ := hJb
  have HJ : Hid _ := hJI
  have HYY : Hid _ := hY
  have LA : Hid _ := hlog
  have HS : Hid (sn = 3) := by
    show sn = 3
    have h := hp
    simp only [plnB, okN, Bool.and_eq_true, decide_eq_true_eq] at h
    have := h.2.2.1.1
    omega
  clear hN hJb hJI hY hlog
  obtain ⟨wb0, v0, ts0, bs0, b0, m0, mc0, BB0, q0, -⟩ := HJ.out _ _ h0
  obtain ⟨x1, x2⟩ := q0.x1
  have A0 := hA.below q0.all
  clear q0
  refine callsIn_of_wp Tryz.func107 rfl trivial ?_ rfl
  simp only [Tryz.ntmps107, List.size_toArray, List.length_cons, List.length_nil, Nat.reduceAdd, Nat.reduceSub, Array.replicate_succ, Array.replicate_zero, List.push_toArray, List.append_toArray, List.nil_append, List.cons_append]
  have p0 := x1.cell 3
  have p1 := x2.cell 0
  simp only [List.getElem?_cons_zero, List.getElem?_cons_succ] at p0 p1
  gi_wp2_with fail
  gi_loopw [4, 13] (fun pots i wr => ∃ (k : Nat) (pre : List SA) (pa : Option Addr) (pn pc : Nat), k ≤ ln ∧ i = .int .i64 k ∧ pots = .slice pa pn pc ∧ Hid (pre.length = k) ∧ J pre wr ∧ Ints wr pa pn (serL ss S (fs.take k)).2 ∧ pn ≤ 1048576) (fun _ i _ => ln - (intOf i).toNat)
  case atStart => exact ⟨0, [], sa, sn, sc, Nat.zero_le _, rfl, rfl, rfl, h0, A0.s, A0.zs⟩
  case round =>
    clear x1 x2 p0 p1 A0 h0
    obtain ⟨k, pre, pa, pn, pc, hk, rfl, rfl, HPR, j, op, hpn⟩ := hrel
    obtain ⟨wb0, v0, ts0, bs0, b0, m0, mc0, BB0, q0, -⟩ := HJ.out _ _ j
    obtain ⟨x1, x2⟩ := q0.x1
    have Bw := q0.all
    clear q0
    by_cases hlt : k < ln
    · have hlt' : (k : Int) < ln := by omega
      obtain ⟨b, off, rfl, hc6, hg1, -, -⟩ := (hF.below Bw) k (by rw [HN.out]; exact hlt)
      obtain ⟨c, hgc, hcN⟩ := log_act LA.out (by rw [HN.out]; exact hlt)
      have STEP : Hid _ := serL_step (ss := ss) (V := S) (k := k) (by rw [HN.out]; exact hlt)
      have HV : Hid ((serL ss S (fs.take k)).2.length = pn) := op.1
      obtain ⟨e0, e1, e2, e3, e4, e5⟩ := cellsLg hc6
      clear hc6
      generalize fs[k]?.getD noLg = g at *
      obtain ⟨gx, gq, gc', ⟨gta, gtn, gtc, gtx⟩, ge, ⟨gua, gun, guc, gux⟩⟩ := g
      obtain rfl : gc' = (c : Int) := hgc
      obtain ⟨gi, gz⟩ := hg1
      replace gi : Ints wr gta gtn gtx := gi
      replace gz : gtn ≤ 1048576 := gz
      replace e0 : wr.cell? ⟨b, off + k * 6, none⟩ = some (.int .i64 gx) := e0
      replace e1 : wr.cell? ⟨b, off + k * 6 + 1, none⟩ = some (.int .i64 gq) := e1
      replace e2 : wr.cell? ⟨b, off + k * 6 + 2, none⟩ = some (.int .i64 (c : Int)) := e2
      replace e3 : wr.cell? ⟨b, off + k * 6 + 3, none⟩ = some (.slice gta gtn gtc) := e3
      replace e4 : wr.cell? ⟨b, off + k * 6 + 4, none⟩ = some (.int .i64 ge) := e4
      replace e5 : wr.cell? ⟨b, off + k * 6 + 5, none⟩ = some (.slice gua gun guc) := e5
      obtain ⟨ba, bo, rfl, ha, hl⟩ := (hA.a.below Bw) c (by rw [hA.ha]; exact hcN)
      have hcN' : (c : Int) < (N : Int) := by omega
      obtain ⟨hx1, hx2, hx3⟩ := hl
      obtain ⟨RC, hRC⟩ : ∃ x, x = runCode (ss[c]?.getD noL).n (ss[c]?.getD noL).x pn (serL ss S (fs.take k)).2 gtn gtx := ⟨_, rfl⟩
      obtain ⟨RT, hRT⟩ : ∃ x, x = runTells (ss[c]?.getD noL).n (ss[c]?.getD noL).x pn (serL ss S (fs.take k)).2 gtn gtx := ⟨_, rfl⟩
      obtain ⟨RP, hRP⟩ : ∃ x, x = runPots (ss[c]?.getD noL).n (ss[c]?.getD noL).x pn (serL ss S (fs.take k)).2 gtn gtx := ⟨_, rfl⟩
      have HST : Hid (serL ss S (fs.take (k + 1)) = ((serL ss S (fs.take k)).1 ++ [(RC, RT)], RP)) := by
        show _ = _
        rw [STEP.out, serStep]
        dsimp only
        rw [Int.toNat_natCast, HV.out, hRC, hRT, hRP]
      have hT7 : RT.length ≤ 7 := by rw [hRT]; exact runTells_le _ _ _ _ _ _
      have hP3 : RP.length ≤ 1048576 := by rw [hRP]; exact Nat.le_trans (runPots_le _ _ _ _ _ _) (by rw [HV.out]; exact hpn)
      have HR : Hid (RC = _ ∧ RT = _ ∧ RP = _) := ⟨hRC, hRT, hRP⟩
      clear hRC hRT hRP STEP
      generalize (serL ss S (fs.take k)).2 = VV at *
      generalize ss[c]?.getD noL = al at *
      obtain ⟨aa, an, ac, ax⟩ := al
      replace ha : wr.cell? ⟨ba, bo + c, none⟩ = some (.slice aa an ac) := ha
      replace hx1 : ax.length = an := hx1
      replace hx2 : LinesG wr aa ax := hx2
      replace hx3 : an ≤ 1048576 := hx3
      have HX1 : Hid (ax.length = an) := hx1
      clear hx1
      have p1 := x2.cell 0
      simp only [List.getElem?_cons_zero] at p1
      refine wpIn_wide.2 ?_
      have al1 := (Below.refl wr.heap.size wr).alloc (Nat.le_refl _) (.cells #[.int .i64 gx, .int .i64 gq, .int .i64 (c : Int), .slice gta gtn gtc, .int .i64 ge, .slice gua gun guc] 61)
      have dn := Cel.new wr [.int .i64 gx, .int .i64 gq, .int .i64 (c : Int), .slice gta gtn gtc, .int .i64 ge, .slice gua gun guc] 61
      have lx1 := x1.lt
      replace x1 := x1.below al1
      replace gi := gi.below al1
      replace hx2 := hx2.below al1
      replace op := op.below al1
      have ha' := (al1.cell (p := ⟨ba, bo + c, none⟩) (block_lt ha)).trans ha
      obtain ⟨Dx, hDx⟩ : ∃ x, x = wr.heap.size := ⟨_, rfl⟩
      have hDx1 : wr.heap.size ≤ Dx ∧ Dx ≤ wr.heap.size := by omega
      obtain ⟨w11, hw11⟩ : ∃ W, W = wr.alloc (.cells #[.int .i64 gx, .int .i64 gq, .int .i64 (c : Int), .slice gta gtn gtc, .int .i64 ge, .slice gua gun guc] 61) := ⟨_, rfl⟩
      go_upto_region 4 with fail
      rw [← hw11, ← hDx]
      rw [← hw11] at x1 gi hx2 op ha' dn al1
      rw [← hDx] at dn
      clear hw11 hDx e0 e1 e2 e3 e4 e5 ha
      have g1 := x1.cell 1
      have d2 := dn.cell 2
      have d3 := dn.cell 3
      simp only [List.getElem?_cons_zero, List.getElem?_cons_succ] at g1 d2 d3
      go_upto_region 4 with fail
      go_cut [7, 8] from 14 to 38 (fun x y wx => SerQ w11 wx x y RC RT RP)
      case first =>
        have KP : Hid (∀ X, Below w11.heap.size w11 X → X.cell? ⟨P1, 1, none⟩ = some (.slice (some ⟨ba, bo, none⟩) N cap) ∧ X.cell? ⟨Dx, 2, none⟩ = some (.int .i64 (c : Int)) ∧ X.cell? ⟨Dx, 3, none⟩ = some (.slice gta gtn gtc) ∧ X.cell? ⟨ba, bo + c, none⟩ = some (.slice aa an ac)) := fun X hX => ⟨(hX.cell (p := ⟨P1, 1, none⟩) (block_lt g1)).trans g1, (hX.cell (p := ⟨Dx, 2, none⟩) (block_lt d2)).trans d2, (hX.cell (p := ⟨Dx, 3, none⟩) (block_lt d3)).trans d3, (hX.cell (p := ⟨ba, bo + c, none⟩) (block_lt ha')).trans ha'⟩
        have d : Below w11.heap.size w11 w11.drew := (Below.refl _ _).drew
        have hSS : (w11.drew.cell? ⟨P1, 1, none⟩ = some (.slice (some ⟨ba, bo, none⟩) N cap) ∧ w11.drew.cell? ⟨Dx, 2, none⟩ = some (.int .i64 (c : Int)) ∧ w11.drew.cell? ⟨Dx, 3, none⟩ = some (.slice gta gtn gtc) ∧ w11.drew.cell? ⟨ba, bo + c, none⟩ = some (.slice aa an ac)) ∧ True := ⟨KP.out _ d, trivial⟩
        refine wp_region_ends (fun X => X.cell? ⟨P1, 1, none⟩ = some (.slice (some ⟨ba, bo, none⟩) N cap) ∧ X.cell? ⟨Dx, 2, none⟩ = some (.int .i64 (c : Int)) ∧ X.cell? ⟨Dx, 3, none⟩ = some (.slice gta gtn gtc) ∧ X.cell? ⟨ba, bo + c, none⟩ = some (.slice aa an ac)) (fun _ => True) 17 (by kernel_rfl) ?_
        obtain ⟨V0, hV0⟩ : ∃ V, V = w11.drew := ⟨_, rfl⟩
        rw [← hV0] at hSS d
        rw [← hV0]
        clear hV0
        have yd0 := d.size
        refine tkL (i := 0) rfl hSS ?_
        refine tkL (i := 1) rfl hSS ?_
        refine tkL (i := 2) rfl hSS ?_
        refine tkL (i := 3) rfl hSS ?_
        refine tkL (i := 4) rfl hSS ?_
        refine tkL (i := 5) rfl hSS ?_
        refine tkL (i := 6) rfl hSS ?_
        refine tkL (i := 7) rfl hSS ?_
        refine tkL (i := 8) rfl hSS ?_
        refine tkL (i := 9) rfl hSS ?_
        refine tkL (i := 10) rfl hSS ?_
        (try simp only [Act.put, List.setIfInBounds_toArray, List.set_cons_succ, List.set_cons_zero, List.getElem_toArray, List.getElem_cons_succ, List.getElem_cons_zero])
        refine wpAnyE_two (i := 11) (j := 15) (by kernel_rfl) rfl rfl (fun K hK => ?_) (fun K hK => ?_)
        · go_simp
          refine (irun_any _ an _ ax _ pn _ VV _ gtn _ gtx _ HX1.out (hx2.below d) hx3 (op.below d) (gi.below d) hpn gz).mono ?_
          rintro ee V1 ⟨ra, n1, rc, RA, rb, m1, rd, RB', rfl, ln1, ln2, bv, o1, o2, lo1, lo2, ne12⟩
          rw [← HR.out.1]
          rw [← HR.out.2.1] at ln1 o1
          rw [← HR.out.2.2] at ln2 o2
          have yV1 := bv.size
          replace d := d.trans (bv.mono d.size)
          clear bv
          (try dsimp only)
          replace hSS : (V1.cell? ⟨P1, 1, none⟩ = some (.slice (some ⟨ba, bo, none⟩) N cap) ∧ V1.cell? ⟨Dx, 2, none⟩ = some (.int .i64 (c : Int)) ∧ V1.cell? ⟨Dx, 3, none⟩ = some (.slice gta gtn gtc) ∧ V1.cell? ⟨ba, bo + c, none⟩ = some (.slice aa an ac)) ∧ True := ⟨KP.out _ d, trivial⟩
          refine hK.out _ _ ⟨hSS.1, fun _ => trivial⟩ ?_
          clear hK K
          refine tkL (i := 12) rfl hSS ?_
          refine tkL (i := 13) rfl hSS ?_
          refine tkL (i := 14) rfl hSS ?_
          (try simp only [Act.put, List.setIfInBounds_toArray, List.set_cons_succ, List.set_cons_zero, List.getElem_toArray, List.getElem_cons_succ, List.getElem_cons_zero])
          refine wpAnyE_one (i := 15) (by kernel_rfl) rfl (fun K hK => ?_)
          go_simp
          obtain ⟨V2, hV2⟩ : ∃ W, W = V1.alloc (.cells #[.int .i64 0, .slice none 0 0] 54) := ⟨_, rfl⟩
          have bv : Below V1.heap.size V1 V2 := by rw [hV2]; exact (Below.refl _ _).alloc (Nat.le_refl _) _
          have nx1 : 0 < n1 → RA ≠ V1.heap.size := fun h => by have := o1.lt h; omega
          have nx2 : 0 < m1 → RB' ≠ V1.heap.size := fun h => by have := o2.lt h; omega
          replace o1 := o1.below bv
          replace o2 := o2.below bv
          have xb : Cel V2 V1.heap.size [.int .i64 0, .slice none 0 0] 54 := by rw [hV2]; exact Cel.new V1 _ _
          have lb := xb.lt
          have yV2 := d.size
          replace d := d.trans (bv.mono d.size)
          rw [← hV2]
          clear bv hV2
          replace hSS : (V2.cell? ⟨P1, 1, none⟩ = some (.slice (some ⟨ba, bo, none⟩) N cap) ∧ V2.cell? ⟨Dx, 2, none⟩ = some (.int .i64 (c : Int)) ∧ V2.cell? ⟨Dx, 3, none⟩ = some (.slice gta gtn gtc) ∧ V2.cell? ⟨ba, bo + c, none⟩ = some (.slice aa an ac)) ∧ True := ⟨KP.out _ d, trivial⟩
          refine hK.out _ _ ⟨hSS.1, fun _ => trivial⟩ ?_
          clear hK K
          have xS := ((xb.set 0 (.int .i64 RC)).set 1 (.slice ra n1 rc))
          simp only [List.set_cons_zero, List.set_cons_succ] at xS
          have T := ((Touch.refl (fun z => z = V1.heap.size) V2).setCell (B := V1.heap.size) (i := 0) rfl (.int .i64 RC)).setCell (B := V1.heap.size) (i := 1) rfl (.slice ra n1 rc)
          have y0 := xb.cell 0
          have y1 := xb.cell 1
          have f0 := xb.free 0
          have f1 := xb.free 1
          simp only [List.getElem?_cons_zero, List.getElem?_cons_succ] at y0 y1
          have dS := d.trans (T.below (B := w11.heap.size) (by omega) (fun z hz => by have hz : z = V1.heap.size := hz; omega))
          refine wpAnyE_one (i := 16) (by kernel_rfl) rfl (fun K hK => ?_)
          go_simp
          refine hK.out _ _ ⟨KP.out _ dS, fun _ => trivial⟩ ?_
          clear hK K
          refine wpAnyE_one (i := 17) (by kernel_rfl) rfl (fun K hK => ?_)
          go_simp
          refine hK.out _ _ ⟨KP.out _ dS, fun _ => trivial⟩ ?_
          clear hK K
          refine wpAnyE_done (by kernel_rfl) ?_ _
          clear hSS y0 f0 y1 f1
          go_wp2_with fail
          go_meet
          case rel => exact ⟨V1.heap.size, ra, n1, rc, RA, rb, m1, rd, RB', rfl, rfl, ln1, ln2, dS, xS, o1.touch T (fun h0 hz => nx1 h0 hz), o2.touch T (fun h0 hz => nx2 h0 hz), fun h => by have := lo1 h; omega, fun h => by have := lo2 h; omega, ne12⟩
        · go_simp
          obtain ⟨V3, hV3⟩ : ∃ W, W = V0.alloc (.cells #[.int .i64 0, .slice none 0 0] 54) := ⟨_, rfl⟩
          have bv : Below V0.heap.size V0 V3 := by rw [hV3]; exact (Below.refl _ _).alloc (Nat.le_refl _) _
          have xb : Cel V3 V0.heap.size [.int .i64 0, .slice none 0 0] 54 := by rw [hV3]; exact Cel.new V0 _ _
          have lb := xb.lt
          have yV3 := d.size
          replace d := d.trans (bv.mono d.size)
          rw [← hV3]
          clear bv hV3
          replace hSS : (V3.cell? ⟨P1, 1, none⟩ = some (.slice (some ⟨ba, bo, none⟩) N cap) ∧ V3.cell? ⟨Dx, 2, none⟩ = some (.int .i64 (c : Int)) ∧ V3.cell? ⟨Dx, 3, none⟩ = some (.slice gta gtn gtc) ∧ V3.cell? ⟨ba, bo + c, none⟩ = some (.slice aa an ac)) ∧ True := ⟨KP.out _ d, trivial⟩
          refine hK.out _ _ ⟨hSS.1, fun _ => trivial⟩ ?_
          clear hK K
          refine wpAnyE_one (i := 11) (by kernel_rfl) rfl (fun K hK => ?_)
          go_simp
          refine (irun_any _ an _ ax _ pn _ VV _ gtn _ gtx _ HX1.out (hx2.below d) hx3 (op.below d) (gi.below d) hpn gz).mono ?_
          rintro ee V4 ⟨ra, n1, rc, RA, rb, m1, rd, RB', rfl, ln1, ln2, bv, o1, o2, lo1, lo2, ne12⟩
          rw [← HR.out.1]
          rw [← HR.out.2.1] at ln1 o1
          rw [← HR.out.2.2] at ln2 o2
          replace xb := xb.below bv
          have nx1 : 0 < n1 → RA ≠ V0.heap.size := fun h => by have := lo1 h; omega
          have nx2 : 0 < m1 → RB' ≠ V0.heap.size := fun h => by have := lo2 h; omega
          have yV4 := bv.size
          replace d := d.trans (bv.mono d.size)
          clear bv
          (try dsimp only)
          replace hSS : (V4.cell? ⟨P1, 1, none⟩ = some (.slice (some ⟨ba, bo, none⟩) N cap) ∧ V4.cell? ⟨Dx, 2, none⟩ = some (.int .i64 (c : Int)) ∧ V4.cell? ⟨Dx, 3, none⟩ = some (.slice gta gtn gtc) ∧ V4.cell? ⟨ba, bo + c, none⟩ = some (.slice aa an ac)) ∧ True := ⟨KP.out _ d, trivial⟩
          refine hK.out _ _ ⟨hSS.1, fun _ => trivial⟩ ?_
          clear hK K
          refine tkL (i := 12) rfl hSS ?_
          refine tkL (i := 13) rfl hSS ?_
          refine tkL (i := 14) rfl hSS ?_
          (try simp only [Act.put, List.setIfInBounds_toArray, List.set_cons_succ, List.set_cons_zero, List.getElem_toArray, List.getElem_cons_succ, List.getElem_cons_zero])
          have xS := ((xb.set 0 (.int .i64 RC)).set 1 (.slice ra n1 rc))
          simp only [List.set_cons_zero, List.set_cons_succ] at xS
          have T := ((Touch.refl (fun z => z = V0.heap.size) V4).setCell (B := V0.heap.size) (i := 0) rfl (.int .i64 RC)).setCell (B := V0.heap.size) (i := 1) rfl (.slice ra n1 rc)
          have y0 := xb.cell 0
          have y1 := xb.cell 1
          have f0 := xb.free 0
          have f1 := xb.free 1
          simp only [List.getElem?_cons_zero, List.getElem?_cons_succ] at y0 y1
          have dS := d.trans (T.below (B := w11.heap.size) (by omega) (fun z hz => by have hz : z = V0.heap.size := hz; omega))
          refine wpAnyE_one (i := 16) (by kernel_rfl) rfl (fun K hK => ?_)
          go_simp
          refine hK.out _ _ ⟨KP.out _ dS, fun _ => trivial⟩ ?_
          clear hK K
          refine wpAnyE_one (i := 17) (by kernel_rfl) rfl (fun K hK => ?_)
          go_simp
          refine hK.out _ _ ⟨KP.out _ dS, fun _ => trivial⟩ ?_
          clear hK K
          refine wpAnyE_done (by kernel_rfl) ?_ _
          clear hSS y0 f0 y1 f1
          go_wp2_with fail
          go_meet
          case rel => exact ⟨V0.heap.size, ra, n1, rc, RA, rb, m1, rd, RB', rfl, rfl, ln1, ln2, dS, xS, o1.touch T (fun h0 hz => nx1 h0 hz), o2.touch T (fun h0 hz => nx2 h0 hz), fun h => by have := lo1 h; omega, fun h => by have := lo2 h; omega, ne12⟩
      case rest =>
      obtain ⟨w12, hwc⟩ : ∃ W, W = wc := ⟨wc, rfl⟩
      rw [← hwc] at hcut
      rw [← hwc]
      clear hwc
      obtain ⟨X9, ra, n1, rc, RA, rb, m1, rd, RB', rfl, rfl, ln1, ln2, bb, xb, o1, o2, lo1, lo2, ne12⟩ := hcut
      have hn1 : n1 ≤ 1048576 := by omega
      have hm1 : m1 ≤ 1048576 := by omega
      have hst : Below wr.heap.size wr w12 := al1.trans (bb.mono al1.size)
      have zz := al1.size
      have j1 := HB.out _ _ _ j hst
      have hla : ST w H RB PB P1 P2 [.int .i64 cl, .slice (some ⟨ba, bo, none⟩) N cap, .slice ga gn gc, .slice sa sn sc] [.slice (some ⟨b, off, none⟩) ln lc] ss S fs pre ⟨RC, ra, n1, rc, RT, rb, m1, rd, RP⟩ w12 := by
        refine ⟨wr, RA, RB', HJ.out _ _ j, hst, o1, o2, hn1, hm1, fun h => ?_, fun h => ?_, ne12, by rw [HPR.out, HN.out]; exact hlt, by rw [HPR.out]; exact HST.out⟩
        · have := lo1 h
          omega
        · have := lo2 h
          omega
      have x0 := xb.cell 0
      have x1' := xb.cell 1
      simp only [List.getElem?_cons_zero, List.getElem?_cons_succ] at x0 x1'
      have YY := HYY.out (n - 1) pre _ w12 j1 hla
      simp only [SA.enc, resV] at YY
      obtain ⟨fn, tmps, assign, body, hy, hR⟩ := YY
      clear hla j1 hst
      go_upto_region 5 with fail
      refine (wpIn_wide (n := n)).1 ?_
      gi_wp2_with fail
      refine ⟨fun h => by simp [Fence.wide] at h, hR.mono ?_⟩
      rintro e w2 ⟨rfl, J2⟩
      obtain ⟨wb0, v0, ts0, bs0, b0, m0, mc0, BB0, q2, -, -, hlast⟩ := HJ.out _ _ J2
      obtain ⟨l1, l2, l3⟩ := hlast _ (List.getLast?_concat)
      dsimp only at l1 l2 l3
      subst l1 l2 l3
      have HP2 : Hid ((pre ++ [(⟨RC, ra, n1, rc, RT, rb, m1, rd, RP⟩ : SA)]).length = k + 1) := by
        show _ = _
        rw [List.length_append, HPR.out]; rfl
      have op2 := q2.o.ints
      rw [HP2.out] at op2
      gi_wp2
      go_wp2
      go_roundw
      case rel => exact ⟨k + 1, _, rb, m1, rd, by omega, by go_num, rfl, HP2, J2, op2, hm1⟩
      case measure => simp [intOf]; omega
    · obtain rfl : k = ln := by omega
      gi_wp2
      go_end0
      exact ⟨⟨_, rfl⟩, pre, HPR.out, j⟩

set_option maxHeartbeats 12800000 in
theorem iser_in (cl : Int) (ad : Option Addr) (N cap : Nat) (ga : Option Addr) (gn gc : Nat) (sa : Option Addr) (sn sc : Nat) (ss : List L2V) (G S : List Int) (la : Option Addr) (ln lc : Nat) (fs : List LgV) (w : World) (n : Nat) (hA : PlAt w ad N ss ga gn G sa sn S) (hN : fs.length = ln) (hF : LgSG w la fs) (hz : ln ≤ 1048576) (hT : Lib.TabBelow Tryz.prog w.heap.size w "internal/strconv.uint64pow10" .u64 Lib.pow10Tab) :
    CallsIn Fence.wide n Tryz.prog 21 #[plV cl ad N cap ga gn gc sa sn sc, .slice la ln lc] w fun r w' => SerD w w' r (serX cl N ss gn G sn S ln fs) := by
  have hdd : ∀ k : Nat, (Fence.wide.depth.isSome = true → 1 ≤ k) := fun k h => by simp [Fence.wide] at h
  have HN : Hid (fs.length = ln) := hN
  have HT : Hid _ := hT
  obtain ⟨R, hR⟩ : ∃ R, serX cl N ss gn G sn S ln fs = R := ⟨_, rfl⟩
  have HRX : Hid (serX cl N ss gn G sn S ln fs = R) := hR
  rw [hR]
  clear hN hR hT
  have q := Cel.new w [.int .i64 cl, .slice ad N cap, .slice ga gn gc, .slice sa sn sc] 26
  have B0 := (Below.refl w.heap.size w).alloc (Nat.le_refl _) (.cells #[.int .i64 cl, .slice ad N cap, .slice ga gn gc, .slice sa sn sc] 26)
  obtain ⟨W0, hW0⟩ : ∃ W, W = w.alloc (.cells #[.int .i64 cl, .slice ad N cap, .slice ga gn gc, .slice sa sn sc] 26) := ⟨_, rfl⟩
  obtain ⟨Y, hY⟩ : ∃ Y, Y = w.heap.size := ⟨_, rfl⟩
  have hY1 : w.heap.size ≤ Y ∧ Y ≤ w.heap.size := by omega
  refine callsIn_of_wp_marks Tryz.func21 rfl trivial ?_ rfl
  simp only [Tryz.ntmps21, List.size_toArray, List.length_cons, List.length_nil, Nat.reduceAdd, Nat.reduceSub, Array.replicate_succ, Array.replicate_zero, List.push_toArray, List.append_toArray, List.nil_append, List.cons_append]
  refine wpIn_wide.2 ?_
  go_wp2_with fail
  rw [← hW0] at q B0
  rw [← hW0, ← hY]
  rw [← hY] at q
  clear hW0 hY
  have none_ : ∀ (W : World), Below w.heap.size w W → SerD w W (.returned (.tuple #[.slice none 0 0, .slice none 0 0])) ([], []) := fun W hW =>
    ⟨_, [], fun _ => 0, none, 0, 0, 0, rfl, JRs.nil w W hW _, rfl, rfl, by omega, OwnX.nil _ _ _, fun h => by omega⟩
  have NONE : Hid _ := none_
  clear none_
  refine (iplnok_any cl ad N cap ss ga gn gc G sa sn sc S _ (hA.below B0)).mono ?_
  rintro e w1 ⟨rfl, b1⟩
  have B1 := B0.trans (b1.mono B0.size)
  replace q := q.below b1
  clear b1 B0
  have g0 := q.cell 0
  have g1 := q.cell 1
  have g2 := q.cell 2
  have g3 := q.cell 3
  simp only [List.getElem?_cons_zero, List.getElem?_cons_succ] at g0 g1 g2 g3
  cases h1 : plnB cl N ss gn G sn S
  · obtain rfl : R = ([], []) := by rw [← HRX.out]; exact serX_no (by rw [h1]; rfl)
    go_wp2
    refine ⟨_, results_tmp2 rfl _ _ _, ?_⟩
    exact NONE.out _ B1
  · have hp := pln_parts h1
    have HP : Hid (plnB cl N ss gn G sn S = true) := h1
    obtain rfl : sn = 3 := by
      have h := h1
      simp only [plnB, okN, Bool.and_eq_true, decide_eq_true_eq] at h
      have := h.2.2.1.1
      omega
    go_wp2_with fail
    refine (ilog_any cl ad N cap ga gn gc sa 3 sc ss G S la ln lc fs _ (hA.below B1) HN.out (hF.below B1) hz (fun w' h' => HT.out w' (B1.trans (h'.mono B1.size))) HP.out).mono ?_
    rintro e w2 ⟨rfl, b2⟩
    have B2 := B1.trans (b2.mono B1.size)
    replace q := q.below b2
    clear g0 g1 g2 g3 b2 B1
    have g0 := q.cell 0
    have g1 := q.cell 1
    have g2 := q.cell 2
    have g3 := q.cell 3
    simp only [List.getElem?_cons_zero, List.getElem?_cons_succ] at g0 g1 g2 g3
    cases h2 : logB cl N ln fs
    · obtain rfl : R = ([], []) := by rw [← HRX.out]; exact serX_no (by rw [h2]; simp)
      go_wp2
      refine ⟨_, results_tmp2 rfl _ _ _, ?_⟩
      exact NONE.out _ B2
    · obtain rfl : R = serL ss S fs := by rw [← HRX.out]; exact serX_yes h1 h2
      have LA : Hid (logB cl N ln fs = true) := h2
      clear HRX NONE h1 h2
      have lY := q.lt
      -- the results' box
      have al := (Below.refl w2.heap.size w2).alloc (Nat.le_refl _) (.cells #[.slice none 0 0] 49)
      have cr := Cel.new w2 [.slice none 0 0] 49
      have B3 := B2.trans (al.mono B2.size)
      replace q := q.below al
      obtain ⟨RB, hRB⟩ : ∃ x, x = w2.heap.size := ⟨_, rfl⟩
      obtain ⟨w3, hw3⟩ : ∃ W, W = w2.alloc (.cells #[.slice none 0 0] 49) := ⟨_, rfl⟩
      have hRB1 : Y < RB := by omega
      have hRB2 : w2.heap.size ≤ RB := by omega
      clear g0 g1 g2 g3 al B2
      have g3 : (w2.alloc (.cells #[.slice none 0 0] 49)).cell? ⟨Y, 3, none⟩ = some (.slice sa 3 sc) := by rw [← hw3] at q ⊢; exact q.cell 3
      go_wp2_with fail
      rw [← hw3] at cr B3 q
      rw [← hRB] at cr
      rw [← hw3, ← hRB]
      clear hw3 hRB g3
      refine (clone_any sa 3 sc S _ (hA.s.below B3) (by omega) (by omega)).mono ?_
      rintro e w4 ⟨cv, rfl, jc⟩
      obtain ⟨ca, cc, CB, rfl, oc, lc0⟩ := jc.ownx (n := 3) hA.s.1
      have b4 := jc.b
      have lRB := cr.lt
      have B4 := B3.trans (b4.mono B3.size)
      replace q := q.below b4
      replace cr := cr.below b4
      have lCB := oc.lt (by omega)
      have lc1 := lc0 (by omega)
      have z4 := b4.size
      clear jc b4 B3 lc0
      -- the pots' box
      have al := (Below.refl w4.heap.size w4).alloc (Nat.le_refl _) (.cells #[.slice ca 3 cc] 24)
      have cp := Cel.new w4 [.slice ca 3 cc] 24
      have B5 := B4.trans (al.mono B4.size)
      have z5 := al.size
      replace q := q.below al
      replace cr := cr.below al
      replace oc := oc.below al
      obtain ⟨PB, hPB⟩ : ∃ x, x = w4.heap.size := ⟨_, rfl⟩
      obtain ⟨w5, hw5⟩ : ∃ W, W = w4.alloc (.cells #[.slice ca 3 cc] 24) := ⟨_, rfl⟩
      have hPB1 : w4.heap.size ≤ PB ∧ PB ≤ w4.heap.size := by omega
      clear al B4
      have q5 : Cel w5 Y [.int .i64 cl, .slice ad N cap, .slice ga gn gc, .slice sa 3 sc] 26 := by rw [hw5]; exact q
      have g0 : (w4.alloc (.cells #[.slice ca 3 cc] 24)).cell? ⟨Y, 0, none⟩ = some (.int .i64 cl) := by rw [← hw5]; exact q5.cell 0
      have g1 : (w4.alloc (.cells #[.slice ca 3 cc] 24)).cell? ⟨Y, 1, none⟩ = some (.slice ad N cap) := by rw [← hw5]; exact q5.cell 1
      have g2 : (w4.alloc (.cells #[.slice ca 3 cc] 24)).cell? ⟨Y, 2, none⟩ = some (.slice ga gn gc) := by rw [← hw5]; exact q5.cell 2
      have g3 : (w4.alloc (.cells #[.slice ca 3 cc] 24)).cell? ⟨Y, 3, none⟩ = some (.slice sa 3 sc) := by rw [← hw5]; exact q5.cell 3
      go_wp2_with fail
      rw [← hw5] at cr cp oc B5
      rw [← hPB] at cp
      rw [← hw5, ← hPB]
      have hw5s : w4.heap.size + 1 ≤ w5.heap.size := by rw [hw5, World.size_alloc]; omega
      clear hw5 hPB g0 g1 g2 g3 q q5
      refine (ionebyone_any cl ad N cap ga gn gc sa 3 sc la ln lc w5).mono ?_
      rintro e w6 ⟨P1, P2, rfl, b6, c1, c2, lP1, lP2⟩
      have B6 := B5.trans (b6.mono B5.size)
      replace cr := cr.below b6
      replace cp := cp.below b6
      replace oc := oc.below b6
      have l1 := c1.lt
      have l2 := c2.lt
      have z6 := b6.size
      clear b6 B5
      have hY6 : w.heap.size < RB ∧ RB < PB ∧ PB < w6.heap.size ∧ RB ≠ P1 ∧ RB ≠ P2 ∧ PB ≠ P1 ∧ PB ≠ P2 ∧ CB ≠ RB ∧ CB ≠ PB ∧ w.heap.size ≤ CB ∧ w.heap.size ≤ w6.heap.size := by omega
      have I0 : SI w w6.heap.size RB PB P1 P2 [.int .i64 cl, .slice ad N cap, .slice ga gn gc, .slice sa 3 sc] [.slice la ln lc] ss S fs [] w6 := by
        refine ⟨w6, .slice none 0 0, [], fun _ => 0, ca, 3, cc, CB, ⟨rfl, B6, c1, c2, JRs.nil w6 w6 (Below.refl _ _) _, cr, cp, oc, by omega, fun _ => ⟨by omega, by omega, by omega, fun e => by simp [Value.ownBlock] at e, fun j hj => by simp at hj⟩⟩, rfl, rfl, fun s hs => by simp at hs⟩
      clear cr cp oc c1 c2 l1 l2 hRB1 hRB2 lRB lCB lc1 z4 z5 z6 hPB1 hw5s lP1 lP2 lY hY1 B6
      go_upto_region 99 with fail
      refine (wpIn_wide (n := n)).1 ?_
      gi_wp2_with fail
      refine wpIn_rowsI (α := SA) (gf := 107) (lb := #[.pointer (some ⟨P1, 0, none⟩), .pointer (some ⟨P2, 0, none⟩)]) rfl (enters_of Tryz.func107 (by kernel_rfl) rfl) (encs := SA.enc) (fun _ => rfl)
        (ST w w6.heap.size RB PB P1 P2 [.int .i64 cl, .slice ad N cap, .slice ga gn gc, .slice sa 3 sc] [.slice la ln lc] ss S fs) (fun _ _ => True) (fun xs => xs.length = ln) (SI w w6.heap.size RB PB P1 P2 [.int .i64 cl, .slice ad N cap, .slice ga gn gc, .slice sa 3 sc] [.slice la ln lc] ss S fs)
        (fun pre X Y h b => h.below b) (fun pre X l r r' h hl lt => h.past put_touch (fun k e => by subst e; exact ⟨by omega, fun cs ty fr h => by rw [hl] at h; cases h⟩)) (fun _ _ _ _ _ => trivial) (fun _ _ _ _ _ => trivial) I0 ?seq ?round ?done
      case seq =>
        intro l J W hJ hb hJ0 hJI hY
        have ee0 : (#[.func (.yield l) #[] #[]] ++ #[.pointer (some ⟨P1, 0, none⟩), .pointer (some ⟨P2, 0, none⟩)] : Array Value) = #[.func (.yield l) #[] #[], .pointer (some ⟨P1, 0, none⟩), .pointer (some ⟨P2, 0, none⟩)] := rfl
        rw [ee0]
        refine (ione_in l J w w6.heap.size RB PB P1 P2 cl ad N cap ss ga gn gc G sa 3 sc S la ln lc fs W (n - 1) hA HN.out hF hz HP.out LA.out hJ hJI hJ0 (fun m pre x X h1 h2 => (hY m pre x X h1 h2).mono (fun e Y h => ⟨h.1, h.2.1⟩))).mono ?_
        rintro e Y ⟨h1, pre, h2, h3⟩
        exact ⟨h1, pre, h2, h3⟩
      case round =>
        rintro m l pre ⟨RC, ra, n1, rc, RT, rb, m1, rd, RP⟩ X r hI ⟨X0, AA, BB, ⟨wb, v, ts, bs, b0, m0, mc0, B00, Q0, hts, htd, -⟩, bX, o1, o2, z1, z2, lo1, lo2, ne12, hlt, hst⟩ hl hll
        dsimp only at o1 o2 z1 z2 lo1 lo2 ne12 hst
        have eb : Below X0.heap.size X0 X := bX
        have q1 := Q0.below eb
        have hb0 : 0 < m0 → B00 < X0.heap.size := fun h => Q0.o.lt h
        have hbs : ∀ i, i < ts.length → 0 < (ts[i]?.getD noRs).t.n → bs i < X0.heap.size := fun i hi h0 => (Q0.j.k i hi).1.lt h0
        have hvo : ∀ z, v.ownBlock = some z → w6.heap.size ≤ z ∧ z < X0.heap.size := fun z hz => by
          have := Q0.j.own hz
          rw [Q0.h] at this
          exact this
        have hX0 : w6.heap.size ≤ X0.heap.size := by have := Q0.j.b.size; rw [Q0.h] at this; exact this
        have z0 := eb.size
        clear Q0 hI eb bX
        have HTS : Hid (ts.length = pre.length) := hts
        have HTD : Hid _ := htd
        have HST : Hid _ := hst
        have HLT : Hid (pre.length < fs.length) := hlt
        obtain ⟨k, hk⟩ : ∃ k, ts.length = k := ⟨_, rfl⟩
        have HK : Hid (ts.length = k) := hk
        have hkz : k < 1048576 := by have := HN.out; rw [← hk, hts]; omega
        clear hts htd hst hlt hk
        -- the result's box
        have bx : Below X.heap.size X (X.alloc (.cells #[.int .i64 RC, .slice ra n1 rc] 54)) := (Below.refl _ _).alloc (Nat.le_refl _) _
        have cx := Cel.new X [.int .i64 RC, .slice ra n1 rc] 54
        have hl1 := (bx.block l (lt_of_block hl)).trans hl
        have lX := cx.lt
        obtain ⟨R9, hR9⟩ : ∃ x, x = X.heap.size := ⟨_, rfl⟩
        have hR9b : X0.heap.size ≤ R9 := by omega
        dsimp only [SA.enc]
        gi_wp2_with fail
        refine ⟨keeps_below bx, trivial, ?_⟩
        replace q1 := q1.below bx
        replace o1 := o1.below bx
        replace o2 := o2.below bx
        have noc : ∀ cs ty fr, (X.alloc (.cells #[.int .i64 RC, .slice ra n1 rc] 54)).heap[l]? ≠ some (.cells cs ty fr) := fun cs ty fr h => by rw [hl1] at h; cases h
        have pt : Touch (fun k => k = l) (X.alloc (.cells #[.int .i64 RC, .slice ra n1 rc] 54)) ((X.alloc (.cells #[.int .i64 RC, .slice ra n1 rc] 54)).putObj l (.loop { r with state := .busy })) := put_touch
        replace q1 := q1.past pt (fun k e => by subst e; exact ⟨by omega, noc⟩)
        replace o1 := o1.touch pt (fun h0 hs => by obtain ⟨cs, ty, fr, e⟩ := o1.cellsS h0; rw [hs] at e; exact noc _ _ _ e)
        replace o2 := o2.touch pt (fun h0 hs => by obtain ⟨cs, ty, fr, e⟩ := o2.cellsS h0; rw [hs] at e; exact noc _ _ _ e)
        replace cx := cx.touch pt (fun hs => by have e := cx; unfold Cel at e; rw [hs] at e; exact noc _ _ _ e)
        rw [← hR9] at cx lX
        rw [← hR9]
        have sz := pt.size
        have sb := bx.size
        obtain ⟨V, hV⟩ : ∃ V, V = (X.alloc (.cells #[.int .i64 RC, .slice ra n1 rc] 54)).putObj l (.loop { r with state := .busy }) := ⟨_, rfl⟩
        rw [← hV] at q1 o1 o2 cx sz ⊢
        clear hV pt noc hl1 bx hR9 hl
        have HQ : Hid _ := q1
        have gr := q1.cr.cell 0
        have x0 := cx.cell 0
        have x1 := cx.cell 1
        simp only [List.getElem?_cons_zero, List.getElem?_cons_succ] at gr x0 x1
        have A : Below V.heap.size V (V.alloc (.cells #[.int .i64 RC, .slice ra n1 rc] 54)) := (Below.refl _ _).alloc (Nat.le_refl _) _
        have j5 := q1.j.below A
        obtain ⟨zi, hi, hz0, hz1, hz2⟩ := info_parts Tryz.infoResResult
        have ho : (V.alloc (.cells #[.int .i64 RC, .slice ra n1 rc] 54)).ownsRow w6.heap.size 54 2 v k (ts.flatMap RsV.cs) := by
          have := j5.o
          rw [HK.out, q1.h] at this
          exact this
        have gr5 : (V.alloc (.cells #[.int .i64 RC, .slice ra n1 rc] 54)).cell? ⟨RB, 0, none⟩ = some v := ((q1.cr.below A).cell 0)
        have ne1 : v.ownBlock ≠ some RB := fun e => by have := (hvo _ e).1; omega
        have ne2 : v.ownBlock ≠ some PB := fun e => by have := (hvo _ e).1; omega
        have cr5 := q1.cr.below A
        have cp5 := q1.cp.below A
        clear q1 j5
        gi_wp2_with (gi_at_builtin; go_must (refine wpListIn_append_liesR _ rfl (.tmp 27) (.tmp 29) 49 rfl w6.heap.size 54 zi _ 2 32 Tryz.underlying49 hi hz0 hz1 hz2 rfl (by decide) v k (ts.flatMap RsV.cs) rfl ho ⟨V.heap.size, 0, none⟩ 1 1 [.int .i64 RC, .slice ra n1 rc] rfl rfl (World.news_of_block (cs := #[.int .i64 RC, .slice ra n1 rc]) (t := 54) (fr := (0, 0)) (heap_alloc_new V _)) (by simp [Value.oneCell']) (by omega) (by unfold maxLen; omega) (by omega) (by rw [World.size_alloc]; omega) _ rfl ?_); intro g cp9 w8 hown hgrow hat hlt1; have cr8 := cr5.grew hgrow ne1; have cp8 := cp5.grew hgrow ne2; have r80 := cr8.cell 0; have r8f := cr8.free 0; have cp9' := cp8.setOther (B' := RB) (by omega) 0 (.slice (some ⟨g, 0, none⟩) (k + 1) cp9); have p80 := cp9'.cell 0; have p8f := cp9'.free 0)
        have q5 := HQ.out
        have hat' : (Value.slice (some ⟨g, 0, none⟩) (k + 1) cp9).ownBlock = v.ownBlock ∨ (Value.slice (some ⟨g, 0, none⟩) (k + 1) cp9).ownBlock = some (V.alloc (.cells #[.int .i64 RC, .slice ra n1 rc] 54)).heap.size := hat.elim (fun h => .inl (by rw [h]; rfl)) (fun h => .inr (by rw [h]; rfl))
        have hown' : w8.ownsRow wb.heap.size 54 2 (.slice (some ⟨g, 0, none⟩) (k + 1) cp9) (k + 1) (ts.flatMap RsV.cs ++ [.int .i64 RC, .slice ra n1 rc]) := by rw [q5.h]; exact hown
        have hlo : 0 < n1 → wb.heap.size ≤ AA ∧ some AA ≠ v.ownBlock := fun h0 => by
          have h2 := lo1 h0
          exact ⟨by rw [q5.h]; omega, fun e => by have := (hvo _ e.symm).2; omega⟩
        have hnew : 0 < n1 → ∀ i, i < k → 0 < (ts[i]?.getD noRs).t.n → bs i ≠ AA := fun h0 i hi hi0 => by
          have h2 := lo1 h0
          have h1 := hbs i (by rw [HK.out]; exact hi) hi0
          omega
        have j6 := q5.j.app (s := ⟨RC, ⟨ra, n1, rc, RT⟩⟩) HK.out o1 z1 hlo hnew hown' hgrow hat'
        have hsz := q5.h
        have j7 := j6.setLow (X := RB) (by omega) cr8 0 (.slice (some ⟨g, 0, none⟩) (k + 1) cp9)
        have j8 := j7.setLow (X := PB) (by rw [size_setCell]; omega) cp9' 0 (.slice rb m1 rd)
        have t1 : Touch (fun x => x = RB) w8 (w8.setCell ⟨RB, 0, none⟩ (.slice (some ⟨g, 0, none⟩) (k + 1) cp9)) := (Touch.refl (fun x => x = RB) w8).setCell rfl _
        have t2 : Touch (fun x => x = PB) (w8.setCell ⟨RB, 0, none⟩ (.slice (some ⟨g, 0, none⟩) (k + 1) cp9)) ((w8.setCell ⟨RB, 0, none⟩ (.slice (some ⟨g, 0, none⟩) (k + 1) cp9)).setCell ⟨PB, 0, none⟩ (.slice rb m1 rd)) := (Touch.refl (fun x => x = PB) _).setCell rfl _
        have u1 : Touch (fun x => x = RB) wb (wb.setCell ⟨RB, 0, none⟩ (.slice (some ⟨g, 0, none⟩) (k + 1) cp9)) := (Touch.refl (fun x => x = RB) wb).setCell rfl _
        have u2 : Touch (fun x => x = PB) (wb.setCell ⟨RB, 0, none⟩ (.slice (some ⟨g, 0, none⟩) (k + 1) cp9)) ((wb.setCell ⟨RB, 0, none⟩ (.slice (some ⟨g, 0, none⟩) (k + 1) cp9)).setCell ⟨PB, 0, none⟩ (.slice rb m1 rd)) := (Touch.refl (fun x => x = PB) _).setCell rfl _
        refine ⟨(keeps_below A).trans (((q5.j.below A).ksG hgrow).trans ((keeps_touch t1 (by omega)).trans (keeps_touch t2 (by omega)))), trivial, ?_⟩
        have hlen : (pre ++ [(⟨RC, ra, n1, rc, RT, rb, m1, rd, RP⟩ : SA)]).length = pre.length + 1 := by rw [List.length_append]; rfl
        have ow : OwnX w8 rb BB m1 RP := by
          by_cases h0 : 0 < m1
          · exact OwnX.grown o2 hgrow (fun e => by have := (hvo _ e).2; have := lo2 h0; omega)
          · obtain rfl : m1 = 0 := by omega
            exact ⟨o2.1, .inl rfl⟩
        have lo2b : 0 < m1 → BB < V.heap.size := fun h => o2.lt h
        refine ⟨_, _, ts ++ [⟨RC, ⟨ra, n1, rc, RT⟩⟩], _, rb, m1, rd, BB, ⟨?_, ?_, ?_, ?_, j8, ?_, ?_, ?_, z2, ?_⟩, ?_, ?_, ?_⟩
        · rw [size_setCell, size_setCell]; exact q5.h
        · exact below_touch (below_touch q5.bw u1 (by omega)) u2 (by omega)
        · exact (q5.c1.setOther (by omega) 0 _).setOther (by omega) 0 _
        · exact (q5.c2.setOther (by omega) 0 _).setOther (by omega) 0 _
        · exact (cr8.set 0 _).setOther (by omega) 0 _
        · exact cp9'.set 0 _
        · rw [hlen, HST.out]
          exact (ow.setOther (fun h0 => by have := lo2 h0; omega) 0 _).setOther (fun h0 => by have := lo2 h0; omega) 0 _
        · intro h0
          have h2 := lo2 h0
          have h3 := lo2b h0
          refine ⟨by omega, by omega, by omega, fun e => ?_, fun j hj hj0 => ?_⟩
          · rcases hat' with h | h
            · rw [h] at e
              have := (hvo _ e.symm).2
              omega
            · rw [h, World.size_alloc] at e
              simp only [Option.some.injEq] at e
              omega
          · rw [List.length_append, HK.out, List.length_singleton] at hj
            by_cases hjk : j < k
            · rw [if_pos hjk]
              rw [List.getElem?_append_left (by rw [HK.out]; exact hjk)] at hj0
              have := hbs j (by rw [HK.out]; exact hjk) hj0
              omega
            · obtain rfl : j = k := by omega
              rw [if_neg hjk]
              rw [List.getElem?_append_right (by rw [HK.out]; exact Nat.le_refl _), HK.out, Nat.sub_self] at hj0
              exact ne12 hj0 h0
        · rw [List.length_append, hlen, HTS.out]; rfl
        · rw [hlen, HST.out]
          exact ser_ts HTD.out rfl
        · intro s hs
          rw [List.getLast?_concat] at hs
          cases hs
          exact ⟨rfl, rfl, rfl⟩
      case done =>
        rintro D xs W hD hS ⟨wb, v, ts, bs, b0, m0, mc0, B00, q, hts, htd, -⟩ hK
        have gr := q.cr.cell 0
        have gp := q.cp.cell 0
        have qd := q.below (Below.refl W.heap.size W).drew
        have hKd : W.drew.heap[D]? = some (.deferred (some [])) := hK
        have q' := qd.past (put_touch (l := D) (o := .deferred none)) (fun k e => by subst e; exact ⟨hD, fun cs ty fr h => by rw [hKd] at h; cases h⟩)
        have hfs : fs.take xs.length = fs := List.take_of_length_le (by rw [hS, HN.out]; exact Nat.le_refl _)
        rw [hfs] at q' htd
        go_wp2
        go_region
        all_goals
          go_wp2
          refine ⟨by simp, .inl ⟨_, _, rfl, run_takeDeferred hK, ?_⟩⟩
          refine ⟨_, results_tmp2 rfl _ _ _, ?_⟩
          exact ⟨v, ts, bs, b0, m0, mc0, B00, rfl, q'.j.rebase q'.bw, htd, q'.o.1, q'.z, q'.o, fun h => ⟨(q'.f h).1, (q'.f h).2.2.2.1, (q'.f h).2.2.2.2⟩⟩
theorem iser_any (cl : Int) (ad : Option Addr) (N cap : Nat) (ga : Option Addr) (gn gc : Nat) (sa : Option Addr) (sn sc : Nat) (ss : List L2V) (G S : List Int) (la : Option Addr) (ln lc : Nat) (fs : List LgV) (w : World) (hA : PlAt w ad N ss ga gn G sa sn S) (hN : fs.length = ln) (hF : LgSG w la fs) (hz : ln ≤ 1048576) (hT : Lib.TabBelow Tryz.prog w.heap.size w "internal/strconv.uint64pow10" .u64 Lib.pow10Tab) :
    Calls Tryz.prog 21 #[plV cl ad N cap ga gn gc sa sn sc, .slice la ln lc] w fun r w' => SerD w w' r (serX cl N ss gn G sn S ln fs) :=
  callsIn_wide.1 (iser_in cl ad N cap ga gn gc sa sn sc ss G S la ln lc fs w 0 hA hN hF hz hT)

end Go.Proofs.YtpmihhbgjimpmaaGreatDoor
namespace Go.Proofs.YtpmihhbgjimpmaaGreatDoor
open Go.RowKit
set_option linter.unusedVariables false
set_option maxRecDepth 100000

/-- While they are marked: the block's slices stand; the lists from k on are as they were made. -/
structure MKL (W : World) (B N s k : Nat) (gs : List LV) (p q : Nat → Nat) (wr : World) : Prop where
  c : ∃ cur : List Value, Cel wr B cur 153 ∧ cur.length = N * 6 ∧ ∀ i, i < N → cur[i * 6 + 3]? = some (.slice (gs[i]?.getD noLV).f.a (gs[i]?.getD noLV).f.n (gs[i]?.getD noLV).f.cap) ∧ cur[i * 6 + 4]? = some (.slice (gs[i]?.getD noLV).f.c (gs[i]?.getD noLV).f.m (gs[i]?.getD noLV).f.cap')
  o : ∀ i, k ≤ i → i < N → Blk wr (p i) (gs[i]?.getD noLV).f.C ∧ Blk wr (q i) (gs[i]?.getD noLV).f.D
  t : Touch (fun x => B ≤ x ∧ x < s) W wr

set_option maxHeartbeats 3200000 in
theorem markLS_any (B lo N cap s : Nat) (gs : List LV) (p q : Nat → Nat) (k0 : Int) (W : World) (h : ML W B lo N gs p q) (hN : gs.length = N) (hN1 : N ≤ 1048576) (hk0 : 0 ≤ k0) (hk1 : k0 ≤ 3000000000000000000) (hBs : B < s) (hqs : ∀ i, i < N → q i < s) :
    Calls Tryz.prog 124 #[.slice (some ⟨B, 0, none⟩) N cap, .int .i64 k0] W fun e w' => ∃ r, e = .returned (.int .i64 r) ∧ 0 ≤ r ∧ r ≤ k0 + N * 2097156 ∧ Touch (fun x => B ≤ x ∧ x < s) W w' := by
  have HQ : Hid _ := hqs
  clear hqs
  have HN : Hid (gs.length = N) := hN
  have hl := h.l
  rw [hN] at hl
  have HL : Hid _ := hl
  have hB := h.b
  have m0 : MKL W B N s 0 gs p q W := by
    obtain ⟨vs, v1, v2, v3⟩ := h.c
    refine ⟨⟨vs, v1, v2, fun i hi => ?_⟩, fun i _ hi => ?_, Touch.refl _ _⟩
    · exact ⟨v3 i (by omega) 3 (by omega), v3 i (by omega) 4 (by omega)⟩
    · obtain ⟨_, _, a4, a5, _⟩ := hl i hi
      exact ⟨a4, a5⟩
  clear hl h hN
  go_enter Tryz.func124, Tryz.ntmps124
  go_wp2_with fail
  go_loopw [1, 5] (fun kv i wr => ∃ k : Nat, k ≤ N ∧ i = .int .i64 k ∧ ∃ x : Int, kv = .int .i64 x ∧ 0 ≤ x ∧ x ≤ k0 + k * 2097156 ∧ MKL W B N s k gs p q wr) (fun _ i _ => N - (intOf i).toNat)
  case atStart => exact ⟨0, Nat.zero_le _, rfl, k0, rfl, hk0, by omega, m0⟩
  case round =>
    clear m0
    obtain ⟨k, hk, rfl, x, rfl, hx0, hx1, mk⟩ := hrel
    by_cases hlt : k < N
    · obtain ⟨ea, ec, -, -, lC, lD, n1, m1, hp, hpq, hq, hj⟩ := HL.out k hlt
      have hqk := HQ.out k hlt
      obtain ⟨bC, bD⟩ := mk.o k (Nat.le_refl _) hlt
      obtain ⟨cur, hcur, hsz, hcells⟩ := mk.c
      have hc := hcells k hlt
      have HCS : Hid _ := hcells
      clear hcells
      have HJ : Hid (∀ i, k + 1 ≤ i → i < N → q k < p i ∧ p i < q i) := fun i hi hiN => by
        obtain ⟨_, _, _, _, _, _, _, _, _, h11, _, h13⟩ := HL.out i hiN
        exact ⟨h13 k (by omega), h11⟩
      generalize HG : gs[k]?.getD noLV = g at *
      clear HG
      obtain ⟨gk, gp, gz, ⟨ga, gn, gcap, gc, gm, gcap', gK, gC, gD⟩⟩ := g
      simp only at ea ec lC lD n1 m1 bC bD hc
      subst ea ec
      have hx : ∀ r, r < 6 → ∃ x, wr.cell? ⟨B, k * 6 + r, none⟩ = some x := fun r hr => ⟨_, (hcur.cell (k * 6 + r)).trans (List.getElem?_eq_getElem (by rw [hsz]; omega))⟩
      obtain ⟨x0, y0⟩ := hx 0 (by omega)
      obtain ⟨x1, y1⟩ := hx 1 (by omega)
      obtain ⟨x2, y2⟩ := hx 2 (by omega)
      simp only [Nat.add_zero] at y0
      have f0 := hcur.free (k * 6)
      have f1 := hcur.free (k * 6 + 1)
      have f2 := hcur.free (k * 6 + 2)
      have y3 : wr.cell? ⟨B, k * 6 + 3, none⟩ = some (.slice (some ⟨p k, 0, none⟩) gn gcap) := (hcur.cell _).trans hc.1
      have s1 := mk.t.size
      have hlt3 : (k : Int) < (N : Int) := by omega
      have c3 := ((hcur.set (k * 6) (.int .i64 x)).set (k * 6 + 1) (.int .i64 (x + 1))).set (k * 6 + 2) (.int .i64 (x + 1 + 1))
      have kP : p k ≠ B := by omega
      have kQ : q k ≠ B := by omega
      have bC3 := ((bC.setOther kP (k * 6) (.int .i64 x)).setOther kP (k * 6 + 1) (.int .i64 (x + 1))).setOther kP (k * 6 + 2) (.int .i64 (x + 1 + 1))
      have bD3 := ((bD.setOther kQ (k * 6) (.int .i64 x)).setOther kQ (k * 6 + 1) (.int .i64 (x + 1))).setOther kQ (k * 6 + 2) (.int .i64 (x + 1 + 1))
      have t3 : Touch (fun y => B ≤ y ∧ y < s) W (((wr.setCell ⟨B, k * 6, none⟩ (.int .i64 x)).setCell ⟨B, k * 6 + 1, none⟩ (.int .i64 (x + 1))).setCell ⟨B, k * 6 + 2, none⟩ (.int .i64 (x + 1 + 1))) := ((mk.t.setCell (B := B) ⟨Nat.le_refl _, by omega⟩ _).setCell (B := B) ⟨Nat.le_refl _, by omega⟩ _).setCell (B := B) ⟨Nat.le_refl _, by omega⟩ _
      have o3 : ∀ i, k + 1 ≤ i → i < N → Blk (((wr.setCell ⟨B, k * 6, none⟩ (.int .i64 x)).setCell ⟨B, k * 6 + 1, none⟩ (.int .i64 (x + 1))).setCell ⟨B, k * 6 + 2, none⟩ (.int .i64 (x + 1 + 1))) (p i) (gs[i]?.getD noLV).f.C ∧ Blk (((wr.setCell ⟨B, k * 6, none⟩ (.int .i64 x)).setCell ⟨B, k * 6 + 1, none⟩ (.int .i64 (x + 1))).setCell ⟨B, k * 6 + 2, none⟩ (.int .i64 (x + 1 + 1))) (q i) (gs[i]?.getD noLV).f.D := fun i hi hiN => by
        obtain ⟨o1, o2⟩ := mk.o i (by omega) hiN
        obtain ⟨j1, j2⟩ := HJ.out i hi hiN
        have n1 : p i ≠ B := by omega
        have n2 : q i ≠ B := by omega
        exact ⟨((o1.setOther n1 _ _).setOther n1 _ _).setOther n1 _ _, ((o2.setOther n2 _ _).setOther n2 _ _).setOther n2 _ _⟩
      have O3 : Hid _ := o3
      clear o3 bC bD mk hx
      go_wp2_with fail
      obtain ⟨w0, hw0⟩ : ∃ w0, w0 = (((wr.setCell ⟨B, k * 6, none⟩ (.int .i64 x)).setCell ⟨B, k * 6 + 1, none⟩ (.int .i64 (x + 1))).setCell ⟨B, k * 6 + 2, none⟩ (.int .i64 (x + 1 + 1))) := ⟨_, rfl⟩
      rw [← hw0] at c3 bC3 bD3 t3 O3 ⊢
      clear hw0 y0 y1 y2 y3 f0 f1 f2 hcur
      refine (mark_any _ _ _ (p k) gC _ _ (.inr ⟨rfl, bC3⟩) lC n1 (by omega) (by omega)).mono ?_
      rintro ee w1 ⟨rfl, t1, -⟩
      have c4 := c3.touch t1 (by omega)
      have z3 : ((((cur.set (k * 6) (.int .i64 x)).set (k * 6 + 1) (.int .i64 (x + 1))).set (k * 6 + 2) (.int .i64 (x + 1 + 1)))).length = N * 6 := by simp [hsz]
      have H3 : Hid (∀ i, i < N → ((((cur.set (k * 6) (.int .i64 x)).set (k * 6 + 1) (.int .i64 (x + 1))).set (k * 6 + 2) (.int .i64 (x + 1 + 1))))[i * 6 + 3]? = some (.slice (gs[i]?.getD noLV).f.a (gs[i]?.getD noLV).f.n (gs[i]?.getD noLV).f.cap) ∧ ((((cur.set (k * 6) (.int .i64 x)).set (k * 6 + 1) (.int .i64 (x + 1))).set (k * 6 + 2) (.int .i64 (x + 1 + 1))))[i * 6 + 4]? = some (.slice (gs[i]?.getD noLV).f.c (gs[i]?.getD noLV).f.m (gs[i]?.getD noLV).f.cap')) := fun i hi => by
        rw [List.getElem?_set_ne (by omega), List.getElem?_set_ne (by omega), List.getElem?_set_ne (by omega), List.getElem?_set_ne (by omega), List.getElem?_set_ne (by omega), List.getElem?_set_ne (by omega)]
        exact HCS.out i hi
      have y4 : w1.cell? ⟨B, k * 6 + 4, none⟩ = some (.slice (some ⟨q k, 0, none⟩) gm gcap') := (c4.cell _).trans (by
        rw [List.getElem?_set_ne (by omega), List.getElem?_set_ne (by omega), List.getElem?_set_ne (by omega)]; exact hc.2)
      have bD1 : OwnAt w1 (some ⟨q k, 0, none⟩) (q k) gD := OwnAt.touch (.inr ⟨rfl, bD3⟩) t1 (by omega)
      clear c3 hc HCS
      generalize ((cur.set (k * 6) (.int .i64 x)).set (k * 6 + 1) (.int .i64 (x + 1))).set (k * 6 + 2) (.int .i64 (x + 1 + 1)) = cu at *
      go_wp2_with fail
      refine (mark_any _ _ _ (q k) gD _ _ bD1 lD m1 (by omega) (by omega)).mono ?_
      rintro ee w2 ⟨rfl, t2, -⟩
      have c5 := c4.touch t2 (by omega)
      obtain ⟨v5, hv5⟩ : ∃ v, w2.cell? ⟨B, k * 6 + 5, none⟩ = some v := ⟨_, (c5.cell (k * 6 + 5)).trans (List.getElem?_eq_getElem (by rw [z3]; omega))⟩
      have f5 := c5.free (k * 6 + 5)
      have M2 : MKL W B N s (k + 1) gs p q (w2.setCell ⟨B, k * 6 + 5, none⟩ (.int .i64 (x + 1 + 1 + 1 + gn + gm))) := by
        have T12 : Touch (fun y => B ≤ y ∧ y < s) W w2 := (t3.trans (t1.mono fun y hy => by omega)).trans (t2.mono fun y hy => by omega)
        refine ⟨⟨_, c5.set (k * 6 + 5) _, by simp [z3], fun i hi => ?_⟩, fun i hi hiN => ?_, T12.setCell (B := B) ⟨Nat.le_refl _, by omega⟩ _⟩
        · rw [List.getElem?_set_ne (by omega), List.getElem?_set_ne (by omega)]
          exact H3.out i hi
        · obtain ⟨o1, o2⟩ := O3.out i hi hiN
          obtain ⟨j1, j2⟩ := HJ.out i hi hiN
          have e1 : Blk w2 (p i) (gs[i]?.getD noLV).f.C := by
            unfold Blk at *; rw [t2.block _ (Nat.lt_of_lt_of_le (lt_of_block o1) t1.size) (by omega), t1.block _ (lt_of_block o1) (by omega)]; exact o1
          have e2 : Blk w2 (q i) (gs[i]?.getD noLV).f.D := by
            unfold Blk at *; rw [t2.block _ (Nat.lt_of_lt_of_le (lt_of_block o2) t1.size) (by omega), t1.block _ (lt_of_block o2) (by omega)]; exact o2
          exact ⟨e1.setOther (by omega) _ _, e2.setOther (by omega) _ _⟩
      clear bC3 bD3 bD1 c4 c5 t1 t2 t3 y4 H3 O3
      go_wp2
      go_roundw
      case rel => exact ⟨k + 1, by omega, by go_num, _, rfl, by omega, by omega, M2⟩
      case measure => simp [intOf]; omega
    · go_wp2
      go_ret
      obtain rfl : k = N := by omega
      exact ⟨x, rfl, hx0, hx1, mk.t⟩

end Go.Proofs.YtpmihhbgjimpmaaGreatDoor
namespace Go.Proofs.YtpmihhbgjimpmaaGreatDoor
open Go.RowKit
set_option linter.unusedVariables false
set_option maxRecDepth 100000

theorem LK.from {w : World} {lo lo' hi : Nat} {s : L2V} (h : LK w lo s) (hr : InR lo' hi s) : LK w lo' s := by
  obtain ⟨B, l, p, q, h1, h2, h3⟩ := h
  exact ⟨B, l, p, q, h1, (hr.1 B h1).1, h3⟩

set_option maxHeartbeats 3200000 in
theorem markL2_any (B N cap : Nat) (ts : List L2V) (c : Nat → Nat) (k0 : Int) (W : World) (h : ML2 W B N ts) (hN : ts.length = N) (hN1 : N ≤ 1048576) (c0 : B < c 0) (hc : ∀ i, i < N → c i ≤ c (i + 1) ∧ InR (c i) (c (i + 1)) (ts[i]?.getD noL)) (hk0 : 0 ≤ k0) (hk1 : k0 ≤ 1000) :
    Calls Tryz.prog 82 #[.slice (some ⟨B, 0, none⟩) N cap, .int .i64 k0] W fun e w' => ∃ r, e = .returned (.int .i64 r) ∧ 0 ≤ r ∧ r ≤ k0 + N * 2199027449856 ∧ Touch (fun x => B < x ∧ x < c N) W w' := by
  have HC : Hid _ := hc
  have HN : Hid (ts.length = N) := hN
  have HM : Hid (ML2 W B N ts) := h
  have HL := h.lt
  clear hc hN h
  go_enter Tryz.func82, Tryz.ntmps82
  go_wp2_with fail
  go_loopw [1, 5] (fun kv i wr => ∃ k : Nat, k ≤ N ∧ i = .int .i64 k ∧ ∃ x : Int, kv = .int .i64 x ∧ 0 ≤ x ∧ x ≤ k0 + k * 2199027449856 ∧ B < c k ∧ Touch (fun x => B < x ∧ x < c k) W wr) (fun _ i _ => N - (intOf i).toNat)
  case atStart => exact ⟨0, Nat.zero_le _, rfl, k0, rfl, hk0, by omega, c0, Touch.refl _ _⟩
  case round =>
    obtain ⟨k, hk, rfl, x, rfl, hx0, hx1, hck, t⟩ := hrel
    by_cases hlt : k < N
    · obtain ⟨d1, d2⟩ := HC.out k hlt
      obtain ⟨vs, v1, v2, v3⟩ := HM.out.c
      have hK : LK wr (c k) (ts[k]?.getD noL) := ((HM.out.l k (by rw [HN.out]; exact hlt)).from d2).touch t (fun x hx => hx.2)
      have hv := (v1.touch t (fun hx => Nat.lt_irrefl _ hx.1)).cell k
      rw [v3 k (by rw [HN.out]; exact hlt)] at hv
      generalize HG : ts[k]?.getD noL = g at *
      clear HG v1 v3
      obtain ⟨ga, gn, gcap, gx⟩ := g
      obtain ⟨B', l', p', q', e1, e2, e3, e4, e5⟩ := hK
      simp only at e1 e3 e4 e5
      subst e1
      have hv' : wr.cell? ⟨B, k, none⟩ = some (.slice (some ⟨B', 0, none⟩) gn gcap) := hv
      have hq : ∀ i, i < gn → q' i < c (k + 1) := fun i hi => by
        obtain ⟨_, a3, _⟩ := e3.l i (by omega)
        exact d2.2 i (by show i < gx.length; omega) _ a3
      have hB' := (d2.1 B' rfl).2
      have HQ : Hid _ := hq
      clear hq hv d2
      go_wp2_with fail
      refine (markLS_any B' l' gn gcap (c (k + 1)) gx p' q' x _ e3 e4 e5 hx0 (by omega) hB' HQ.out).mono ?_
      rintro ee w1 ⟨r, rfl, r0, r1, t1⟩
      have t2 : Touch (fun x => B < x ∧ x < c (k + 1)) W w1 := (t.mono fun y hy => by omega).trans (t1.mono fun y hy => by omega)
      clear t t1 e3
      go_wp2
      go_roundw
      case rel => exact ⟨k + 1, by omega, by go_num, _, rfl, r0, by omega, by omega, t2⟩
      case measure => simp [intOf]; omega
    · go_wp2
      go_ret
      obtain rfl : k = N := by omega
      exact ⟨x, rfl, hx0, hx1, t⟩

set_option maxHeartbeats 1600000 in
theorem markP_any (cl : Int) (B1 N cap B2 gn gc B3 sn sc : Nat) (ts : List L2V) (G S : List Int) (c : Nat → Nat) (W : World) (h : ML2 W B1 N ts) (hN : ts.length = N) (hN1 : N ≤ 1048576) (c0 : B1 < c 0) (cN : c N ≤ B2) (hc : ∀ i, i < N → c i ≤ c (i + 1) ∧ InR (c i) (c (i + 1)) (ts[i]?.getD noL)) (hG : Blk W B2 G) (lG : G.length = gn) (zG : gn ≤ 1048576) (hS : Blk W B3 S) (lS : S.length = sn) (zS : sn ≤ 1048576) (h23 : B2 < B3) :
    Calls Tryz.prog 34 #[plV cl (some ⟨B1, 0, none⟩) N cap (some ⟨B2, 0, none⟩) gn gc (some ⟨B3, 0, none⟩) sn sc, .int .i64 1] W fun e w' => ∃ r, e = .returned (.int .i64 r) ∧ 0 ≤ r ∧ Touch (fun x => B1 < x ∧ x ≤ B3) W w' := by
  have HC : Hid _ := hc
  clear hc
  have l2 := hG.lt
  have l3 := hS.lt
  have n0 := Cel.new W [.int .i64 cl, .slice (some ⟨B1, 0, none⟩) N cap, .slice (some ⟨B2, 0, none⟩) gn gc, .slice (some ⟨B3, 0, none⟩) sn sc] 26
  have hcN : c 0 ≤ c N := by
    have : ∀ i, i ≤ N → c 0 ≤ c i := fun i => by
      induction i with
      | zero => intro _; exact Nat.le_refl _
      | succ i ih => intro hi; exact Nat.le_trans (ih (by omega)) (HC.out i (by omega)).1
    exact this N (Nat.le_refl _)
  go_enter Tryz.func34, Tryz.ntmps34
  go_wp2_with fail
  refine (markL2_any B1 N cap ts c 1 _ (h.below ((Below.refl _ _).alloc (Nat.le_refl _) _)) hN hN1 c0 HC.out (by omega) (by omega)).mono ?_
  rintro e w1 ⟨r, rfl, r0, r1, t1⟩
  have T1 : Touch (fun x => B1 < x ∧ x ≤ B3) W w1 := (Touch.of ((Below.refl _ _).alloc (Nat.le_refl _) _)).trans (t1.mono fun y hy => by omega)
  have n1 := n0.touch t1 (fun h => by have := h.2; omega)
  have g1 : OwnAt w1 (some ⟨B2, 0, none⟩) B2 G := OwnAt.touch (.inr ⟨rfl, hG.alloc _⟩) t1 (by omega)
  have s1 : OwnAt w1 (some ⟨B3, 0, none⟩) B3 S := OwnAt.touch (.inr ⟨rfl, hS.alloc _⟩) t1 (by omega)
  clear n0 t1 h
  obtain ⟨a0, a1, a2, a3⟩ := n1.quadP
  go_wp2_with fail
  refine (mark_any _ _ _ B2 G _ _ g1 lG zG r0 (by omega)).mono ?_
  rintro e w2 ⟨rfl, t2, -⟩
  have T2 := T1.trans (t2.mono (T := fun x => B1 < x ∧ x ≤ B3) fun y hy => by omega)
  have n2 := n1.touch t2 (fun h => by have := h.1; omega)
  have s2 : OwnAt w2 (some ⟨B3, 0, none⟩) B3 S := s1.touch t2 (by omega)
  clear n1 t2 g1 s1 T1 a0 a1 a2 a3
  obtain ⟨a0, a1, a2, a3⟩ := n2.quadP
  go_wp2_with fail
  refine (mark_any _ _ _ B3 S _ _ s2 lS zS (by omega) (by omega)).mono ?_
  rintro e w3 ⟨rfl, t3, -⟩
  have T3 := T2.trans (t3.mono (T := fun x => B1 < x ∧ x ≤ B3) fun y hy => by omega)
  clear t3 s2 T2 n2 a0 a1 a2 a3
  go_wp2
  go_ret
  exact ⟨_, rfl, by omega, T3⟩

end Go.Proofs.YtpmihhbgjimpmaaGreatDoor
namespace Go.Proofs.YtpmihhbgjimpmaaGreatDoor
open Go.RowKit
set_option linter.unusedVariables false
set_option maxRecDepth 100000

set_option maxHeartbeats 1600000 in
theorem markPb_any (cl : Int) (B1 N cap B2 gn gc B3 sn sc : Nat) (ts : List L2V) (G S : List Int) (c : Nat → Nat) (W : World) (h : ML2 W B1 N ts) (hN : ts.length = N) (hN1 : N ≤ 1048576) (c0 : B1 < c 0) (cN : c N ≤ B2) (hc : ∀ i, i < N → c i ≤ c (i + 1) ∧ InR (c i) (c (i + 1)) (ts[i]?.getD noL)) (hG : Blk W B2 G) (lG : G.length = gn) (zG : gn ≤ 1048576) (hS : Blk W B3 S) (lS : S.length = sn) (zS : sn ≤ 1048576) (h23 : B2 < B3) :
    Calls Tryz.prog 34 #[plV cl (some ⟨B1, 0, none⟩) N cap (some ⟨B2, 0, none⟩) gn gc (some ⟨B3, 0, none⟩) sn sc, .int .i64 1] W fun e w' => ∃ r, e = .returned (.int .i64 r) ∧ 0 ≤ r ∧ r ≤ 2400000000000000000 ∧ Touch (fun x => B1 < x ∧ x ≤ B3) W w' := by
  have HC : Hid _ := hc
  clear hc
  have l2 := hG.lt
  have l3 := hS.lt
  have n0 := Cel.new W [.int .i64 cl, .slice (some ⟨B1, 0, none⟩) N cap, .slice (some ⟨B2, 0, none⟩) gn gc, .slice (some ⟨B3, 0, none⟩) sn sc] 26
  have hcN : c 0 ≤ c N := by
    have : ∀ i, i ≤ N → c 0 ≤ c i := fun i => by
      induction i with
      | zero => intro _; exact Nat.le_refl _
      | succ i ih => intro hi; exact Nat.le_trans (ih (by omega)) (HC.out i (by omega)).1
    exact this N (Nat.le_refl _)
  go_enter Tryz.func34, Tryz.ntmps34
  go_wp2_with fail
  refine (markL2_any B1 N cap ts c 1 _ (h.below ((Below.refl _ _).alloc (Nat.le_refl _) _)) hN hN1 c0 HC.out (by omega) (by omega)).mono ?_
  rintro e w1 ⟨r, rfl, r0, r1, t1⟩
  have T1 : Touch (fun x => B1 < x ∧ x ≤ B3) W w1 := (Touch.of ((Below.refl _ _).alloc (Nat.le_refl _) _)).trans (t1.mono fun y hy => by omega)
  have n1 := n0.touch t1 (fun h => by have := h.2; omega)
  have g1 : OwnAt w1 (some ⟨B2, 0, none⟩) B2 G := OwnAt.touch (.inr ⟨rfl, hG.alloc _⟩) t1 (by omega)
  have s1 : OwnAt w1 (some ⟨B3, 0, none⟩) B3 S := OwnAt.touch (.inr ⟨rfl, hS.alloc _⟩) t1 (by omega)
  clear n0 t1 h
  obtain ⟨a0, a1, a2, a3⟩ := n1.quadP
  go_wp2_with fail
  refine (mark_any _ _ _ B2 G _ _ g1 lG zG r0 (by omega)).mono ?_
  rintro e w2 ⟨rfl, t2, -⟩
  have T2 := T1.trans (t2.mono (T := fun x => B1 < x ∧ x ≤ B3) fun y hy => by omega)
  have n2 := n1.touch t2 (fun h => by have := h.1; omega)
  have s2 : OwnAt w2 (some ⟨B3, 0, none⟩) B3 S := s1.touch t2 (by omega)
  clear n1 t2 g1 s1 T1 a0 a1 a2 a3
  obtain ⟨a0, a1, a2, a3⟩ := n2.quadP
  go_wp2_with fail
  refine (mark_any _ _ _ B3 S _ _ s2 lS zS (by omega) (by omega)).mono ?_
  rintro e w3 ⟨rfl, t3, -⟩
  have T3 := T2.trans (t3.mono (T := fun x => B1 < x ∧ x ≤ B3) fun y hy => by omega)
  clear t3 s2 T2 n2 a0 a1 a2 a3
  go_wp2
  go_ret
  exact ⟨_, rfl, by omega, by omega, T3⟩

end Go.Proofs.YtpmihhbgjimpmaaGreatDoor
namespace Go.Proofs.YtpmihhbgjimpmaaGreatDoor
open Go.ChangeShapes Go.WideShapes Go.ChangeAt Go.RowKit Go.Joins Go.Deep
set_option linter.unusedVariables false
set_option maxRecDepth 100000

/-- A slice of them that came in. -/
def DSM (w : World) (ad : Option Addr) (fs : List DV) : Prop :=
  ∀ i, i < fs.length → ∃ b off, ad = some ⟨b, off, none⟩ ∧ (∀ r, r < 3 → w.cell? ⟨b, off + i * 3 + r, none⟩ = (fs[i]?.getD noD).cs[r]?) ∧ DM w (fs[i]?.getD noD)
theorem DSM.below {w w' : World} {ad : Option Addr} {fs : List DV} (h : DSM w ad fs) (hb : Below w.heap.size w w') : DSM w' ad fs := fun i hi => by
  obtain ⟨b, off, e, hc, hr⟩ := h i hi
  have hl : b < w.heap.size := block_lt (v := ((fs[i]?.getD noD).cs[0]?).getD (.bool false)) ((hc 0 (by omega)).trans rfl)
  exact ⟨b, off, e, fun r hr => by rw [hb.cell (p := ⟨b, off + i * 3 + r, none⟩) hl]; exact hc r hr, hr.below hb⟩
/-- One that may be copied. -/
def DSG (w : World) (ad : Option Addr) (fs : List DV) : Prop :=
  ∀ i, i < fs.length → ∃ b off, ad = some ⟨b, off, none⟩ ∧ (∀ r, r < 3 → w.cell? ⟨b, off + i * 3 + r, none⟩ = (fs[i]?.getD noD).cs[r]?) ∧ DG w (fs[i]?.getD noD)
theorem DSG.below {w w' : World} {ad : Option Addr} {fs : List DV} (h : DSG w ad fs) (hb : Below w.heap.size w w') : DSG w' ad fs := fun i hi => by
  obtain ⟨b, off, e, hc, hr⟩ := h i hi
  have hl : b < w.heap.size := block_lt (v := ((fs[i]?.getD noD).cs[0]?).getD (.bool false)) ((hc 0 (by omega)).trans rfl)
  exact ⟨b, off, e, fun r hr => by rw [hb.cell (p := ⟨b, off + i * 3 + r, none⟩) hl]; exact hc r hr, hr.below hb⟩
theorem DSM.g {w : World} {ad : Option Addr} {fs : List DV} (h : DSM w ad fs) (hs : ∀ i, i < fs.length → DZ (fs[i]?.getD noD)) : DSG w ad fs := fun i hi => by
  obtain ⟨b, off, e, hc, hr⟩ := h i hi
  exact ⟨b, off, e, hc, hr.g (hs i hi)⟩
theorem cellsD {w : World} {b o : Nat} {f : DV} (h : ∀ r, r < 3 → w.cell? ⟨b, o + r, none⟩ = f.cs[r]?) : w.cell? ⟨b, o, none⟩ = some (.int .i64 f.q) ∧ w.cell? ⟨b, o + 1, none⟩ = some (.int .i64 f.c) ∧ w.cell? ⟨b, o + 2, none⟩ = some (f.t.v) := ⟨h 0 (by omega), h 1 (by omega), h 2 (by omega)⟩

/-- So many cells set in a row. -/
def putD (vs : List Value) (o : Nat) (x0 x1 x2 : Value) : List Value := (((vs.set o x0).set (o + 1) x1).set (o + 2) x2)
theorem putD_len (vs : List Value) (o : Nat) (x0 x1 x2 : Value) : (putD vs o x0 x1 x2).length = vs.length := by simp [putD]
theorem putD_ne (vs : List Value) (o : Nat) (x0 x1 x2 : Value) (j : Nat) (h : j < o ∨ o + 3 ≤ j) : (putD vs o x0 x1 x2)[j]? = vs[j]? := by
  unfold putD
  rw [List.getElem?_set_ne (by omega), List.getElem?_set_ne (by omega), List.getElem?_set_ne (by omega)]
theorem putD_at (vs : List Value) (o : Nat) (x0 x1 x2 : Value) (h : o + 3 ≤ vs.length) (r : Nat) (hr : r < 3) : (putD vs o x0 x1 x2)[o + r]? = [x0, x1, x2][r]? := by
  have hcase : r = 0 ∨ r = 1 ∨ r = 2 := by omega
  unfold putD
  rcases hcase with rfl | rfl | rfl
  · simp only [Nat.add_zero]
    rw [List.getElem?_set_ne (by omega), List.getElem?_set_ne (by omega), List.getElem?_set_self (by omega)]; rfl
  · rw [List.getElem?_set_ne (by omega), List.getElem?_set_self (by simp; omega)]; rfl
  · rw [List.getElem?_set_self (by simp; omega)]; rfl

/-- Block B holds N of them, of which those of gs have been laid. -/
structure MD (W : World) (B N : Nat) (gs : List DV) : Prop where
  c : ∃ vs : List Value, Cel W B vs 101 ∧ vs.length = N * 3 ∧ ∀ i, i < gs.length → ∀ r, r < 3 → vs[i * 3 + r]? = (gs[i]?.getD noD).cs[r]?
  l : ∀ i, i < gs.length → DK W (B + 1) (gs[i]?.getD noD)
theorem MD.lt {W : World} {B N : Nat} {gs : List DV} (h : MD W B N gs) : B < W.heap.size := by
  obtain ⟨vs, h1, _⟩ := h.c
  exact h1.lt
theorem MD.below {W W' : World} {B N : Nat} {gs : List DV} (h : MD W B N gs) (b : Below W.heap.size W W') : MD W' B N gs := by
  obtain ⟨vs, h1, h2, h3⟩ := h.c
  exact ⟨⟨vs, h1.below b, h2, h3⟩, fun i hi => (h.l i hi).below b⟩
theorem MD.g {W : World} {B N : Nat} {gs : List DV} (h : MD W B N gs) : DSG W (some ⟨B, 0, none⟩) gs := fun i hi => by
  obtain ⟨vs, h1, h2, h3⟩ := h.c
  exact ⟨B, 0, rfl, fun r hr => by rw [Nat.zero_add, h1.cell, h3 i hi r hr], (h.l i hi).g⟩
theorem MD.touch {S : Nat → Prop} {W W' : World} {B N : Nat} {gs : List DV} (h : MD W B N gs) (t : Touch S W W') (hs : ∀ k, S k → k < B) : MD W' B N gs := by
  obtain ⟨vs, h1, h2, h3⟩ := h.c
  exact ⟨⟨vs, h1.touch t (fun hh => by have := hs _ hh; omega), h2, h3⟩, fun i hi => (h.l i hi).touch t (fun k hk => by have := hs _ hk; omega)⟩
theorem MD.setLow {W : World} {B N : Nat} {gs : List DV} (h : MD W B N gs) {X : Nat} (hX : X < B) (i : Nat) (v : Value) : MD (W.setCell ⟨X, i, none⟩ v) B N gs := h.touch (S := fun x => x = X) (Touch.setCell (S := fun x => x = X) (Touch.refl _ _) rfl _) (fun k hk => by omega)
/-- One more is laid. -/
theorem MD.step {W W1 : World} {B N k : Nat} {gs : List DV} {gq : Int} {gc : Int} {Pt : Option Addr} {gtn : Nat} {Qt : List Int} (h : MD W B N gs) (hk : gs.length = k) (hkN : k < N) (b : Below W.heap.size W W1) (hs : DK W1 W.heap.size ⟨gq, gc, ⟨Pt, gtn, gtn, Qt⟩⟩) :
    MD (((W1.setCell ⟨B, k * 3, none⟩ (.int .i64 gq)).setCell ⟨B, k * 3 + 1, none⟩ (.int .i64 gc)).setCell ⟨B, k * 3 + 2, none⟩ (.slice Pt gtn gtn)) B N (gs ++ [⟨gq, gc, ⟨Pt, gtn, gtn, Qt⟩⟩]) := by
  have hB := h.lt
  obtain ⟨vs, h1, h2, h3⟩ := (h.below b).c
  have T : Touch (fun x => x = B) W1 (((W1.setCell ⟨B, k * 3, none⟩ (.int .i64 gq)).setCell ⟨B, k * 3 + 1, none⟩ (.int .i64 gc)).setCell ⟨B, k * 3 + 2, none⟩ (.slice Pt gtn gtn)) := (((Touch.refl (fun x => x = B) W1).setCell rfl _).setCell rfl _).setCell rfl _
  refine ⟨⟨putD vs (k * 3) (.int .i64 gq) (.int .i64 gc) (.slice Pt gtn gtn), (((h1).set _ _).set _ _).set _ _, by rw [putD_len]; exact h2, fun i hi r hr => ?_⟩, fun i hi => ?_⟩
  · rw [List.length_append, hk] at hi
    simp only [List.length_cons, List.length_nil] at hi
    by_cases e : i = k
    · subst e
      rw [putD_at _ _ _ _ _ (by rw [h2]; omega) r hr, List.getElem?_append_right (by omega), hk]
      simp [DV.cs, IV.v]
    · rw [putD_ne _ _ _ _ _ _ (by omega), List.getElem?_append_left (by omega)]
      exact h3 i (by omega) r hr
  · rw [List.length_append, hk] at hi
    simp only [List.length_cons, List.length_nil] at hi
    by_cases e : i = k
    · subst e
      rw [List.getElem?_append_right (by omega), hk]
      simp only [Nat.sub_self, List.getElem?_cons_zero, Option.getD_some]
      exact (hs.mono (by omega)).touch T (fun x hx => by omega)
    · rw [List.getElem?_append_left (by omega)]
      exact ((h.l i (by omega)).below b).touch T (fun x hx => by omega)

/-- Each holds what the other does. -/
def copiesDS (fs gs : List DV) : Prop := ∀ i, i < gs.length → copiesD (fs[i]?.getD noD) (gs[i]?.getD noD)

theorem Tryz.infoPlnDone : (Tryz.prog.info? 101).map (fun i => (i.zero, i.size, i.bytes)) = some (some (.agg #[.int .i64 0, .int .i64 0, .slice none 0 0]), 3, 40) := by kernel_rfl

end Go.Proofs.YtpmihhbgjimpmaaGreatDoor
namespace Go.Proofs.YtpmihhbgjimpmaaGreatDoor
open Go.RowKit Go.Deep
set_option linter.unusedVariables false
set_option maxRecDepth 100000

/-- A list of n numbers in block b. -/
def WkI (W : World) (b n : Nat) : Prop := ∃ x : List Int, x.length = n ∧ Blk W b x
/-- Behind marks: lists stay lists, other cells stay, but for the blocks of Bs; nothing but what lies from lo up to hi is touched. -/
structure Mkd (Bs : Nat → Prop) (lo hi : Nat) (w w' : World) : Prop where
  i : ∀ b n, WkI w b n → WkI w' b n
  c : ∀ b cs ty, w.heap[b]? = some (.cells cs ty (0, 0)) → ty ≠ 3 → ¬ Bs b → w'.heap[b]? = w.heap[b]?
  t : Touch (fun x => lo ≤ x ∧ x < hi) w w'
theorem Mkd.refl (Bs : Nat → Prop) (lo hi : Nat) (w : World) : Mkd Bs lo hi w w := ⟨fun _ _ h => h, fun _ _ _ _ _ _ => rfl, Touch.refl _ _⟩
theorem Mkd.trans {Bs : Nat → Prop} {lo hi : Nat} {w w1 w2 : World} (h : Mkd Bs lo hi w w1) (h' : Mkd Bs lo hi w1 w2) : Mkd Bs lo hi w w2 :=
  ⟨fun b n x => h'.i b n (h.i b n x), fun b cs ty e n1 n2 => (h'.c b cs ty ((h.c b cs ty e n1 n2).trans e) n1 n2).trans (h.c b cs ty e n1 n2), h.t.trans h'.t⟩
theorem Mkd.mono {Bs Bs' : Nat → Prop} {lo lo' hi hi' : Nat} {w w' : World} (h : Mkd Bs lo hi w w') (hB : ∀ b, Bs b → Bs' b) (hl : lo' ≤ lo) (hh : hi ≤ hi') : Mkd Bs' lo' hi' w w' :=
  ⟨h.i, fun b cs ty e n1 n2 => h.c b cs ty e n1 (fun x => n2 (hB b x)), h.t.mono fun y hy => by have hy : lo ≤ y ∧ y < hi := hy; exact ⟨by omega, by omega⟩⟩
theorem Mkd.cel {Bs : Nat → Prop} {lo hi : Nat} {w w' : World} (h : Mkd Bs lo hi w w') {b : Nat} {vs : List Value} {ty : TypeId} (hc : Cel w b vs ty) (h1 : ty ≠ 3) (h2 : ¬ Bs b) : Cel w' b vs ty := (h.c b _ ty hc h1 h2).trans hc
theorem Mkd.below {Bs : Nat → Prop} {lo hi : Nat} {w w' : World} (b : Below w.heap.size w w') : Mkd Bs lo hi w w' :=
  ⟨fun x n ⟨y, h1, h2⟩ => ⟨y, h1, h2.below b⟩, fun x cs ty e _ _ => by rw [b.block x (lt_of_block e)], Touch.of b⟩
/-- A list is marked. -/
theorem Mkd.list {Bs : Nat → Prop} {lo hi : Nat} {w w' : World} {B n : Nat} (hlo : lo ≤ B) (hhi : B < hi) (h : WkI w B n) (t : Touch (fun x => x = B ∧ 0 < n) w w') (h' : WkI w' B n) : Mkd Bs lo hi w w' := by
  obtain ⟨y, ly, hy⟩ := h
  refine ⟨fun b m ⟨x, lx, hx⟩ => ?_, fun b cs ty e n1 _ => ?_, t.mono fun z hz => by have := hz.1; exact ⟨by omega, by omega⟩⟩
  · by_cases e : b = B
    · subst e
      have : m = n := by
        unfold Blk at hx hy
        rw [hx] at hy
        simp only [Option.some.injEq, Obj.cells.injEq, and_true] at hy
        have h1 := congrArg Array.size hy
        simp only [List.size_toArray, List.length_map] at h1
        omega
      rw [this]
      exact h'
    · exact ⟨x, lx, by unfold Blk at hx ⊢; rw [t.block b (lt_of_block hx) (fun s => e s.1)]; exact hx⟩
  · by_cases e2 : b = B
    · subst e2
      unfold Blk at hy
      rw [hy] at e
      simp only [Option.some.injEq, Obj.cells.injEq] at e
      exact absurd e.2.1.symm n1
    · rw [t.block b (lt_of_block e) (fun s => e2 s.1)]
/-- A struct's cell is marked. -/
theorem Mkd.cell {Bs : Nat → Prop} {lo hi : Nat} {w : World} {B : Nat} {vs : List Value} {ty : TypeId} (hlo : lo ≤ B) (hhi : B < hi) (hB : Bs B) (hc : Cel w B vs ty) (hty : ty ≠ 3) (i : Nat) (v : Value) : Mkd Bs lo hi w (w.setCell ⟨B, i, none⟩ v) := by
  have t : Touch (fun x => x = B) w (w.setCell ⟨B, i, none⟩ v) := (Touch.refl (fun x => x = B) w).setCell rfl _
  refine ⟨fun b m ⟨x, lx, hx⟩ => ?_, fun b cs ty' e n1 n2 => ?_, t.mono fun z hz => by have hz : z = B := hz; exact ⟨by omega, by omega⟩⟩
  · have e : b ≠ B := fun e => by
      subst e
      unfold Blk at hx
      unfold Cel at hc
      rw [hx] at hc
      simp only [Option.some.injEq, Obj.cells.injEq] at hc
      exact hty hc.2.1.symm
    exact ⟨x, lx, by unfold Blk at hx ⊢; rw [t.block b (lt_of_block hx) e]; exact hx⟩
  · rw [t.block b (lt_of_block e) (fun s => n2 (by have s : b = B := s; rw [s]; exact hB))]

end Go.Proofs.YtpmihhbgjimpmaaGreatDoor
namespace Go.Proofs.YtpmihhbgjimpmaaGreatDoor
open Go.RowKit Go.Deep
set_option linter.unusedVariables false
set_option maxRecDepth 100000

set_option maxHeartbeats 3200000 in
theorem markMLg_any (B N cap lo hi : Nat) (gs : List LgV) (k0 : Int) (w0 w : World) (h : MLg w0 B N gs) (Bs : Nat → Prop) (lo0 : Nat) (m0 : Mkd Bs lo0 hi w0 w) (hBs : ¬ Bs B) (hN : gs.length = N) (hN1 : N ≤ 1048576) (hlo : lo ≤ B) (hhi : w0.heap.size ≤ hi) (hk0 : 0 ≤ k0) (hk : k0 ≤ 3000000000000000000) :
    Calls Tryz.prog 35 #[.slice (some ⟨B, 0, none⟩) N cap, .int .i64 k0] w fun e w' => ∃ r, e = .returned (.int .i64 r) ∧ 0 ≤ r ∧ r ≤ k0 + N * 2097156 ∧ Mkd (fun b => b = B) lo hi w w' ∧ Touch (fun x => B ≤ x ∧ x < w0.heap.size) w w' := by
  have HN : Hid (gs.length = N) := hN
  have H : Hid (MLg w0 B N gs) := h
  have H0 : Hid (Mkd Bs lo0 hi w0 w) := m0
  clear m0
  clear hN h
  have hBh : B < hi := by have := H.out.lt; omega
  go_enter Tryz.func35, Tryz.ntmps35
  go_wp2_with fail
  go_loopw [1, 5] (fun kv i wr => ∃ k : Nat, k ≤ N ∧ i = .int .i64 k ∧ ∃ x : Int, kv = .int .i64 x ∧ 0 ≤ x ∧ x ≤ k0 + k * 2097156 ∧ Mkd (fun b => b = B) lo hi w wr ∧ Touch (fun x => B ≤ x ∧ x < w0.heap.size) w wr ∧ ∃ vs : List Value, Cel wr B vs 61 ∧ Hid (vs.length = N * 6 ∧ ∀ i, i < N → vs[i * 6 + 3]? = some ((gs[i]?.getD noLg).t.v) ∧ vs[i * 6 + 5]? = some ((gs[i]?.getD noLg).u.v))) (fun _ i _ => N - (intOf i).toNat)
  case atStart =>
    obtain ⟨vs, h1, h2, h3⟩ := H.out.c
    exact ⟨0, Nat.zero_le _, rfl, k0, rfl, hk0, by omega, Mkd.refl _ _ _ _, Touch.refl _ _, vs, H0.out.cel h1 (by decide) hBs, h2, fun i hi => ⟨by rw [h3 i (by rw [HN.out]; exact hi) 3 (by omega)]; rfl, by rw [h3 i (by rw [HN.out]; exact hi) 5 (by omega)]; rfl⟩⟩
  case round =>
    obtain ⟨k, hk', rfl, x, rfl, hx0, hx1, m, tt, vs, hc, HV⟩ := hrel
    have hBw := H.out.lt
    by_cases hlt : k < N
    · obtain ⟨⟨Bl, hBl, hlB, hblk, hlen, hle⟩, ⟨Bm, hBm, hmB, hblm, hlem, hlf⟩, -⟩ := H.out.l k (by rw [HN.out]; exact hlt)
      obtain ⟨hv1, hv2⟩ := HV.out.2 k hlt
      generalize HG : gs[k]?.getD noLg = g at *
      clear HG
      obtain ⟨gx, gq, gc, ⟨gta, gtn, gtc, gtx⟩, ge, ⟨gua, gun, guc, gux⟩⟩ := g
      obtain rfl : gta = some ⟨Bl, 0, none⟩ := hBl
      obtain rfl : gua = some ⟨Bm, 0, none⟩ := hBm
      have hle : gtn ≤ 1048576 := hle
      have hlf : gun ≤ 1048576 := hlf
      have hBl2 : Bl < w0.heap.size := hblk.lt
      have hBm2 : Bm < w0.heap.size := hblm.lt
      have hu0 : WkI w Bm gun := H0.out.i _ _ ⟨gux, hlem, hblm⟩
      have hw0 : WkI w Bl gtn := H0.out.i _ _ ⟨gtx, hlen, hblk⟩
      have hlt' : (k : Int) < N := by omega
      have f0 := hc.free (k * 6)
      have f1 := hc.free (k * 6 + 1)
      have f2 := hc.free (k * 6 + 2)
      have c0 := hc.cell (k * 6)
      have c1 := hc.cell (k * 6 + 1)
      have c2 := hc.cell (k * 6 + 2)
      have c3 := hc.cell (k * 6 + 3)
      rw [hv1] at c3
      have hvl := HV.out.1
      obtain ⟨v0, e0⟩ : ∃ v, vs[k * 6]? = some v := ⟨vs[k * 6]'(by omega), List.getElem?_eq_getElem _⟩
      obtain ⟨v1, e1⟩ : ∃ v, vs[k * 6 + 1]? = some v := ⟨vs[k * 6 + 1]'(by omega), List.getElem?_eq_getElem _⟩
      obtain ⟨v2, e2⟩ : ∃ v, vs[k * 6 + 2]? = some v := ⟨vs[k * 6 + 2]'(by omega), List.getElem?_eq_getElem _⟩
      obtain ⟨v4, e4⟩ : ∃ v, vs[k * 6 + 4]? = some v := ⟨vs[k * 6 + 4]'(by omega), List.getElem?_eq_getElem _⟩
      rw [e0] at c0
      rw [e1] at c1
      rw [e2] at c2
      have c3' : wr.cell? ⟨B, k * 6 + 3, none⟩ = some (.slice (some ⟨Bl, 0, none⟩) gtn gtc) := c3
      have h1 := ((hc.set (k * 6) (.int .i64 x)).set (k * 6 + 1) (.int .i64 (x + 1))).set (k * 6 + 2) (.int .i64 (x + 1 + 1))
      have m1 := ((m.trans (Mkd.cell (Bs := fun b => b = B) hlo hBh rfl hc (by decide) (k * 6) (.int .i64 x))).trans (Mkd.cell (Bs := fun b => b = B) hlo hBh rfl (hc.set (k * 6) (.int .i64 x)) (by decide) (k * 6 + 1) (.int .i64 (x + 1)))).trans (Mkd.cell (Bs := fun b => b = B) hlo hBh rfl ((hc.set (k * 6) (.int .i64 x)).set (k * 6 + 1) (.int .i64 (x + 1))) (by decide) (k * 6 + 2) (.int .i64 (x + 1 + 1)))
      have tt1 := ((tt.setCell (B := B) (i := k * 6) ⟨Nat.le_refl _, hBw⟩ (.int .i64 x)).setCell (B := B) (i := k * 6 + 1) ⟨Nat.le_refl _, hBw⟩ (.int .i64 (x + 1))).setCell (B := B) (i := k * 6 + 2) ⟨Nat.le_refl _, hBw⟩ (.int .i64 (x + 1 + 1))
      obtain ⟨vs1, hvs1⟩ : ∃ vs1, vs1 = (((vs.set (k * 6) (.int .i64 x)).set (k * 6 + 1) (.int .i64 (x + 1))).set (k * 6 + 2) (.int .i64 (x + 1 + 1))) := ⟨_, rfl⟩
      have HV1 : Hid (vs1.length = N * 6 ∧ vs1[k * 6 + 4]? = some v4 ∧ ∀ i, i < N → vs1[i * 6 + 3]? = some ((gs[i]?.getD noLg).t.v) ∧ vs1[i * 6 + 5]? = some ((gs[i]?.getD noLg).u.v)) := by
        refine ⟨by rw [hvs1, List.length_set, List.length_set, List.length_set]; exact hvl, ?_, fun i hi => ?_⟩
        · rw [hvs1, List.getElem?_set_ne (by omega), List.getElem?_set_ne (by omega), List.getElem?_set_ne (by omega)]; exact e4
        · rw [hvs1]
          constructor
          · rw [List.getElem?_set_ne (by omega), List.getElem?_set_ne (by omega), List.getElem?_set_ne (by omega)]; exact (HV.out.2 i hi).1
          · rw [List.getElem?_set_ne (by omega), List.getElem?_set_ne (by omega), List.getElem?_set_ne (by omega)]; exact (HV.out.2 i hi).2
      have hv5 : Hid (vs1[k * 6 + 5]? = some ((⟨some ⟨Bm, 0, none⟩, gun, guc, gux⟩ : IV).v)) := by
        show _ = _
        rw [hvs1, List.getElem?_set_ne (by omega), List.getElem?_set_ne (by omega), List.getElem?_set_ne (by omega)]; exact hv2
      rw [← hvs1] at h1
      obtain ⟨y, ly, hy⟩ := m1.i _ _ hw0
      have HY : Hid _ := ly
      have HM : Hid _ := m1
      have HC2 : Hid _ := h1
      clear m m1 h1 hc hblk hlen hblm hlem hw0 c3 e0 e1 e2 e4 ly hvs1 hv1 hv2 HV hvl
      go_wp2_with fail
      refine (mark_any _ _ _ Bl y _ _ (.inr ⟨rfl, hy⟩) HY.out hle (by omega) (by omega)).mono ?_
      rintro ee w2 ⟨rfl, t2, o2⟩
      have W2 : WkI w2 Bl gtn := by
        by_cases h0 : 0 < gtn
        · rcases o2 with h | ⟨_, h⟩
          · have := congrArg List.length h
            rw [ramp_len] at this
            simp at this
            omega
          · exact ⟨_, ramp_len _ _, h⟩
        · exact ⟨y, HY.out, by unfold Blk at hy ⊢; rw [t2.block Bl (lt_of_block hy) (fun s => h0 s.2)]; exact hy⟩
      have tt2 := (tt1.trans (t2.mono (T := fun x => B ≤ x ∧ x < w0.heap.size) fun z hz => by have := hz.1; exact ⟨by omega, by omega⟩)).setCell (B := B) (i := k * 6 + 4) ⟨Nat.le_refl _, hBw⟩ (.int .i64 (x + 1 + 1 + 1 + gtn))
      have m3 := HM.out.trans (Mkd.list (lo := lo) (hi := hi) (Bs := fun b => b = B) (by omega) (by omega) ⟨y, HY.out, hy⟩ t2 W2)
      have h3 := Cel.touch HC2.out t2 (fun s => by have := s.1; omega)
      have c4 := h3.cell (k * 6 + 4)
      have c5 := h3.cell (k * 6 + 5)
      have f4 := h3.free (k * 6 + 4)
      rw [HV1.out.2.1] at c4
      rw [hv5.out] at c5
      have c5' : w2.cell? ⟨B, k * 6 + 5, none⟩ = some (.slice (some ⟨Bm, 0, none⟩) gun guc) := c5
      have h3' := h3.set (k * 6 + 4) (.int .i64 (x + 1 + 1 + 1 + gtn))
      have m3' := m3.trans (Mkd.cell (Bs := fun b => b = B) hlo hBh rfl h3 (by decide) (k * 6 + 4) (.int .i64 (x + 1 + 1 + 1 + gtn)))
      obtain ⟨y', ly', hy'⟩ := m3'.i _ _ hu0
      have HY' : Hid _ := ly'
      have HM3 : Hid _ := m3'
      have HC3 : Hid _ := h3'
      clear t2 o2 W2 hy c0 c1 c2 c3' f0 f1 f2 m3 h3 c5 ly' HM HC2 HY m3' h3'
      go_wp2_with fail
      refine (mark_any _ _ _ Bm y' _ _ (.inr ⟨rfl, hy'⟩) HY'.out hlf (by omega) (by omega)).mono ?_
      rintro ee w3 ⟨rfl, t3, o3⟩
      have W3 : WkI w3 Bm gun := by
        by_cases h0 : 0 < gun
        · rcases o3 with h | ⟨_, h⟩
          · have := congrArg List.length h
            rw [ramp_len] at this
            simp at this
            omega
          · exact ⟨_, ramp_len _ _, h⟩
        · exact ⟨y', HY'.out, by unfold Blk at hy' ⊢; rw [t3.block Bm (lt_of_block hy') (fun s => h0 s.2)]; exact hy'⟩
      have tt3 := tt2.trans (t3.mono (T := fun x => B ≤ x ∧ x < w0.heap.size) fun z hz => by have := hz.1; exact ⟨by omega, by omega⟩)
      have m4 := HM3.out.trans (Mkd.list (lo := lo) (hi := hi) (Bs := fun b => b = B) (by omega) (by omega) ⟨y', HY'.out, hy'⟩ t3 W3)
      have h4 := Cel.touch HC3.out t3 (fun s => by have := s.1; omega)
      have HV2 : Hid ((vs1.set (k * 6 + 4) (.int .i64 (x + 1 + 1 + 1 + gtn))).length = N * 6 ∧ ∀ i, i < N → (vs1.set (k * 6 + 4) (.int .i64 (x + 1 + 1 + 1 + gtn)))[i * 6 + 3]? = some ((gs[i]?.getD noLg).t.v) ∧ (vs1.set (k * 6 + 4) (.int .i64 (x + 1 + 1 + 1 + gtn)))[i * 6 + 5]? = some ((gs[i]?.getD noLg).u.v)) :=
        ⟨by rw [List.length_set]; exact HV1.out.1, fun i hi => by rw [List.getElem?_set_ne (by omega), List.getElem?_set_ne (by omega)]; exact HV1.out.2.2 i hi⟩
      clear t3 o3 W3 hy' c4 c5' f4 HM3 HC3
      go_wp2
      go_roundw
      case rel => exact ⟨k + 1, by omega, by go_num, _, rfl, by omega, by omega, m4, tt3, _, h4, HV2⟩
      case measure => simp [intOf]; omega
    · obtain rfl : k = N := by omega
      go_wp2
      go_ret
      exact ⟨x, rfl, hx0, hx1, m, tt⟩

end Go.Proofs.YtpmihhbgjimpmaaGreatDoor
