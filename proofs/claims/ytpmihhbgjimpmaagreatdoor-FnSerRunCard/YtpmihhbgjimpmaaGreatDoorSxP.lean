/-
  Lemmas that the claim's last text rests on.
-/
import Derived.Test.YtpmihhbgjimpmaaGreatDoorSxO
namespace Go.Proofs.YtpmihhbgjimpmaaGreatDoor
open Go.RowKit Go.Deep Go.Joins
open World renaming size_alloc → qA
open List renaming setIfInBounds_toArray → qB, set_cons_zero → qC, set_cons_succ → qD, getElem_cons_zero → qE, getElem_cons_succ → qF, getElem?_cons_zero → qG, getElem?_cons_succ → qH, getElem_toArray → qI, length_append → qJ
open Nat renaming le_refl → qK
set_option linter.unusedVariables false
set_option maxRecDepth 100000
set_option maxHeartbeats 25600000
variable {N n q : Nat} {S : Nat -> Prop} {U V zs : List Int} {W W' X w : World} {bs : Nat -> Nat} {ls : List LV} {ts : List RsV} {v : Value}
attribute [local go_sem] Oper.semAt_some
section
variable {P : Program} {n : Nat} {α : Type}
theorem wpIn_rowsI {g : Operand} {ps : Array Tmp} {assign body : Code} {Q : Exit -> Act -> World -> Prop} {a : Act} {gf : Nat} {lb : Array Value}
  (hg : a.eval g = .func (.func gf) #[] lb) (eg : ∀ args w, (callFunc gf args).run P w = .ok (.enter gf args) w)
  {encs : α -> Array Value} (hps : ∀ x, (encs x).size = ps.size) (A : List α -> α -> World -> Prop) (Kp : World -> World -> Prop) (Sx : List α -> Prop) (I : List α -> World -> Prop)
  (hI : ∀ pre X Y, I pre X -> Below X.heap.size X Y -> I pre Y) (hIb : ∀ pre X l r r', I pre X -> X.heap[l]? = some (.loop r) -> w.heap.size < l -> I pre (X.putObj l (.loop r')))
  (hKb : ∀ X l r r', X.heap[l]? = some (.loop r) -> Kp X (X.putObj l (.loop r'))) (hKt : ∀ X Y Z, Kp X Y -> Kp Y Z -> Kp X Z) (h0 : I [] w)
  (hseq : ∀ (l : Nat) (J : List α -> World -> Prop) (W : World), (∀ pre X Y, J pre X -> Below X.heap.size X Y -> J pre Y) -> Below w.heap.size w W -> J [] W -> (∀ pre X, J pre X -> I pre X) ->
   (∀ m pre x X, J pre X -> A pre x X -> YieldAt Fence.wide m P l (encs x) X fun e Y => e = .returned (.bool true) /\ J (pre ++ [x]) Y /\ Kp X Y) ->
   CallsIn Fence.wide (n - 1) P gf (#[.func (.yield l) #[] #[]] ++ lb) W fun e Y => (∃ v, e = .returned v) /\ ∃ xs, Sx xs /\ J xs Y)
  (hround : ∀ (m l : Nat) (pre : List α) (x : α) (X : World) (r : Loop), I pre X -> A pre x X -> X.heap[l]? = some (.loop r) -> w.heap.size < l ->
   assign.wpIn (Fence.wide.inRound l) m P (Exit.then (fun a' Y => KeepsFrom w.heap.size X Y /\ Kp X Y /\ body.wpIn (Fence.wide.inRound l) m P (roundOn w.heap.size Kp I (pre ++ [x]) (Y.putObj l (.loop { r with state := .busy }))) a' (Y.putObj l (.loop { r with state := .busy }))) (fun _ _ _ => False))
    { tmps := (ps.zip (encs x)).foldl (fun t (p, v) => t.setIfInBounds p v) a.tmps, defers := [] } X)
  (hdone : ∀ (D : Nat) (xs : List α) (W : World), w.heap.size <= D -> Sx xs -> I xs W -> W.heap[D]? = some (.deferred (some [])) -> Q .normal { a with defers := { target := .collected D, args := #[] } :: a.defers } W) :
  (Code.rangeFunc g ps assign body).wpIn Fence.wide n P Q a w := by
 refine wpIn_rangeFunc ?_;intro fn _;obtain ⟨r0, hr0⟩ : ∃ r0 : Loop, r0 = { state := .ready, pending := none, fn, tmps := a.tmps, params := ps, assign, body, defers := w.heap.size } := ⟨_, rfl⟩
 obtain ⟨W1, hW1⟩ : ∃ W1, W1 = (w.alloc (.deferred (some []))).alloc (.loop r0) := ⟨_, rfl⟩
 have b1 : Below w.heap.size w W1 := by rw [hW1]; exact ((Below.refl _ w).alloc (qK _) _).alloc (by simp) _
 have hL : W1.heap[w.heap.size + 1]? = some (.loop r0) := by
  rw [hW1]; have := World.alloc_heap_new (w.alloc (.deferred (some []))) (.loop r0); rwa [qA] at this
 have hD : W1.heap[w.heap.size]? = some (.deferred (some [])) := by
  rw [hW1]; exact (Below.heap_alloc _ _ _ (by simp)).trans (World.alloc_heap_new w _)
 refine ⟨w.heap.size + 1, [{ target := .collected w.heap.size, args := #[] }], W1, { target := .fn (.func gf) lb, args := #[.func (.yield (w.heap.size + 1)) #[] #[]] }, W1, gf, #[.func (.yield (w.heap.size + 1)) #[] #[]] ++ lb, W1, ?_, ?_, ?_, ?_, ?_, ?_⟩
 ·rw [hW1, hr0]; exact run_enterLoop_outer _ _ _ _ _
 ·simp only [resolve, hg];simp [go_sem]
 ·intro f' _; trivial
 ·simp [invoke, go_sem, eg]
 ·intro h; simp [Fence.wide] at h
 refine (hseq (w.heap.size + 1) (fun pre W => I pre W /\ W.heap[w.heap.size + 1]? = some (.loop r0) /\ W.heap[w.heap.size]? = some (.deferred (some []))) W1 ?_ b1 ⟨hI _ _ _ h0 b1, hL, hD⟩ (fun _ _ h => h.1) ?_).mono ?_
 ·rintro pre X Y ⟨i1, i2, i3⟩ hb
  exact ⟨hI _ _ _ i1 hb, (hb.block _ (Array.getElem?_eq_some_iff.1 i2).1).trans i2, (hb.block _ (Array.getElem?_eq_some_iff.1 i3).1).trans i3⟩
 ·rintro m pre x X ⟨i1, i2, i3⟩ hA;have hy := run_yield (P := P) (args := encs x) i2 (by rw [hr0]; exact hps x);rw [hr0] at hy;refine ⟨fn, _, assign, body, hy, roundIn_of_wpIn trivial (wpIn_mono (hround m _ pre x X r0 i1 hA i2 (by omega)) ?_)⟩;rintro e a' Y hp
  cases e with
  | normal =>
   obtain ⟨k1, k2, hb⟩ := hp;have j2 := k1.same _ _ (by omega) i2 rfl;have j3 := k1.same _ _ (qK _) i3 rfl;refine ⟨_, run_beginRound j2 (by rw [hr0]), wpIn_mono hb ?_⟩;rintro e a'' Z hq
   cases e with
   | normal =>
    obtain ⟨q1, q2, q3⟩ := hq;have hl : w.heap.size + 1 < Y.heap.size := (Array.getElem?_eq_some_iff.1 j2).1;have m2 := q1.same _ _ (by omega) (World.putObj_heap_same (o := .loop { r0 with state := .busy }) hl) rfl;have m3 := q1.same _ _ (qK _) ((World.putObj_heap_other (by omega)).trans j3) rfl;have hz : w.heap.size + 1 < Z.heap.size := (Array.getElem?_eq_some_iff.1 m2).1;refine ⟨_, _, run_endRound none m2, rfl, ⟨hIb _ _ _ _ _ q3 m2 (by omega), ?_, (World.putObj_heap_other (by omega)).trans m3⟩, hKt _ _ _ (hKt _ _ _ (hKt _ _ _ k2 (hKb _ _ _ _ j2)) q2) (hKb _ _ _ _ m2)⟩;rw [World.putObj_heap_same hz, hr0]
    rfl
   | ret => exact hq.elim
   | exit id => exact hq.elim
   | goto t => exact hq.elim
   | panic c => exact hq.elim
   | outgrown => exact hq.elim
  | ret => exact hp.elim
  | exit id => exact hp.elim
  | goto t => exact hp.elim
  | panic c => exact hp.elim
  | outgrown => exact hp.elim
 rintro e W2 ⟨⟨v, rfl⟩, xs, hS, i1, i2, i3⟩
 exact ⟨none, _, by have := run_endLoop (P := P) i2 (by rw [hr0]; simp); rw [hr0] at this; rw [hr0] at i2; exact this, hdone _ xs _ (qK _) hS (hIb _ _ _ _ _ i1 i2 (by omega)) ((World.putObj_heap_other (by omega)).trans i3)⟩
end
theorem wpListIn_append_liesR {F : Fence} {P : Program} {ops : Array Oper} {rest : List Oper} {o : Oper} {a : Act} {Q : Exit -> Act -> World -> Prop}
  (hg : o.guard = none) (s x : Operand) (t : TypeId) (hop : o.op = Op.call { callee := Callee.builtin Builtin.append, args := #[s, x], argTypes := #[t, t] })
  (base : Nat) (e : TypeId) (i : TypeInfo) {z : Value} (size bytes : Nat) (h1 : P.underlying t = some (.slice e)) (h2 : P.info? e = some i) (h3 : i.zero = some z) (h4 : i.size = size) (h5 : i.bytes = bytes) (h6 : z.cells.size = size) (h7 : 0 < size)
  (v : Value) (k : Nat) (xs : List Value) (hs : a.eval s = v) (hown : w.ownsRow base e size v k xs) (ad : Addr) (m c : Nat) (news : List Value) (hx : a.eval x = .slice (some ad) m c) (hn : news.length = m * size)
  (hc : ∀ j u, news[j]? = some u -> w.cell? (ad.add j) = some u) (h1c : ∀ u ∈ news, u.oneCell' = true) (hm : 0 < m) (b1 : k + m <= maxLen) (b2 : (k + m) * bytes <= 140737488355328) (b3 : base <= w.heap.size) {H : Nat} (hH : w.heap.size = H)
  (hK : ∀ g cap w', w'.ownsRow base e size (.slice (some ⟨g, 0, none⟩) (k + m) cap) (k + m) (xs ++ news) -> w.grownBy w' v.ownBlock -> (v.ownBlock = some g \/ g = H) -> g < w'.heap.size -> wpListIn F n P ops Q rest (a.put o.dst (.slice (some ⟨g, 0, none⟩) (k + m) cap)) w') :
  wpListIn F n P ops Q (o :: rest) a w := by
 refine wpListIn_plain hg fun K hK' => ?_;obtain ⟨g, cap, w', hrun, r1, r2, r3, r4⟩ := run_append_lies (P := P) w t o.type base e i z size bytes h1 h2 h3 h4 h5 h6 h7 v k xs hown ad m c news hn hc h1c hm b1 b2 b3 H hH;unfold Oper.wpIn;refine ⟨?_, ?_⟩
 ·simp [Oper.about, hop, resolve, Target.leads, Sem.run_pure]
 rw [Oper.semAt_plain F _ _ (by rw [hop]; intro c hc'; cases hc')];simp [execOp, hop, resolve, invoke, builtin, hs, hx, hrun, Result.andThen];exact hK' _ _ (hK g cap w' r1 r2 r3 r4)
theorem Below.setBothS (h : Below w.heap.size w W) {X : Nat} {vs : List Value} {t : TypeId} (hX : X < w.heap.size) (hc : Cel W X vs t) (i : Nat) (y : Value) : Below w.heap.size (w.setCell ⟨X, i, none⟩ y) (W.setCell ⟨X, i, none⟩ y) := by
 have tW : Touch (fun x => x = X) W (W.setCell ⟨X, i, none⟩ y) := (Touch.refl (fun x => x = X) W).setCell rfl _;have tw : Touch (fun x => x = X) w (w.setCell ⟨X, i, none⟩ y) := (Touch.refl (fun x => x = X) w).setCell rfl _;have hcw : Cel w X vs t := by unfold Cel at *; rw [<- h.block X hX]; exact hc
 have hs := h.size;refine ⟨tW.os.trans (h.os.trans tw.os.symm), tW.tape.trans (h.tape.trans tw.tape.symm), tW.output.trans (h.output.trans tw.output.symm), by rw [size_setCell, size_setCell]; exact hs, fun k hk => ?_⟩
 by_cases e : k = X
 ·subst e;have h1 := hc.set i y;have h2 := hcw.set i y;unfold Cel at h1 h2;rw [h1, h2]
 rw [tW.block k (Nat.lt_of_lt_of_le hk hs) e, h.block k hk, tw.block k hk e]
theorem own_touchS {base : Nat} {e : TypeId} {s : Nat} {xs : List Value} (h : W.ownsRow base e s v n xs) (t : Touch S W W') (hS : ∀ g cs ty fr, base <= g -> W.heap[g]? = some (.cells cs ty fr) -> ¬ S g) : W'.ownsRow base e s v n xs := by
 refine ⟨h.1, ?_⟩
 rcases h.2 with h2 | ⟨g, cap, cur, hv, hg, hh, r⟩
 ·exact Or.inl h2
 exact Or.inr ⟨g, cap, cur, hv, hg, by rw [t.block g (lt_of_block hh) (hS g _ _ _ hg hh)]; exact hh, r⟩
theorem OwnX.cellsS {a : Option Addr} {B : Nat} (h : OwnX W a B n zs) (hn : 0 < n) : ∃ cs ty fr, W.heap[B]? = some (.cells cs ty fr) := by
 rcases h.2 with h0 | ⟨_, cur, hc, _⟩
 ·omega
 exact ⟨_, _, _, hc⟩
theorem JRs.setLow (j : JRs w v ts bs W) {X : Nat} {vs : List Value} {t : TypeId} (hX : X < w.heap.size) (hc : Cel W X vs t) (i : Nat) (y : Value) : JRs (w.setCell ⟨X, i, none⟩ y) v ts bs (W.setCell ⟨X, i, none⟩ y) := by
 have tW : Touch (fun x => x = X) W (W.setCell ⟨X, i, none⟩ y) := (Touch.refl (fun x => x = X) W).setCell rfl _;have b := Below.setBothS j.b hX hc i y;refine ⟨by rw [size_setCell]; exact b, by rw [size_setCell]; exact own_touchS j.o tW (fun g _ _ _ hg _ e => by omega), fun k hk => ?_, j.d⟩;obtain ⟨a, b, c⟩ := j.k k hk
 exact ⟨a.touch tW (fun h0 e => by have := (c h0).1; omega), b, fun h0 => by rw [size_setCell]; exact c h0⟩
theorem JRs.past (j : JRs w v ts bs W) (t : Touch S W W') (hS : ∀ k, S k -> w.heap.size <= k /\ ∀ cs ty fr, W.heap[k]? ≠ some (.cells cs ty fr)) : JRs w v ts bs W' :=
 ⟨j.b.trans (t.below j.b.size (fun k hk => (hS k hk).1)), own_touchS j.o t (fun g _ _ _ _ hh hg => (hS g hg).2 _ _ _ hh), fun i hi => by
  obtain ⟨a, b, c⟩ := j.k i hi
  exact ⟨a.touch t (fun h0 hs => by obtain ⟨cs, ty, fr, e⟩ := a.cellsS h0; exact (hS _ hs).2 _ _ _ e), b, c⟩, j.d⟩
theorem JRs.ksG {B : Nat} (j : JRs w v ts bs W) (hg : W.grownBy W' v.ownBlock) : KeepsFrom B W W' := ⟨hg.size, fun k o _ hk ho => (hg.block k (Array.getElem?_eq_some_iff.1 hk).1 (fun e => by
 rcases j.o.2 with ⟨h', _⟩ | ⟨g', cap, cur, hv, hb, hh, hl⟩
 ·rw [h'] at e; simp [Value.ownBlock] at e
 rw [hv] at e;simp only [Value.ownBlock, Option.some.injEq] at e;subst e
 rw [hk] at hh; cases hh; cases ho)).trans hk⟩
theorem put_touch {l : Nat} {o : Obj} : Touch (fun k => k = l) X (X.putObj l o) := ⟨rfl, rfl, rfl, by simp [World.putObj], fun k hk hn => World.putObj_heap_other hn⟩
structure SA where
 c : Int
 a : Option Addr
 n : Nat
 cap : Nat
 x : List Int
 b : Option Addr
 m : Nat
 mc : Nat
 p : List Int
def SA.enc (s : SA) : Array Value := #[resV s.c s.a s.n s.cap, .slice s.b s.m s.mc]
structure SQ (w wb : World) (H RB PB P1 P2 : Nat) (pv lv : List Value) (v : Value) (ts : List RsV) (bs : Nat -> Nat) (b : Option Addr) (m mc BB : Nat) (P : List Int) (X : World) : Prop where
 h : wb.heap.size = H
 bw : Below w.heap.size w wb
 c1 : Cel wb P1 pv 26
 c2 : Cel wb P2 lv 46
 j : JRs wb v ts bs X
 cr : Cel X RB [v] 49
 cp : Cel X PB [.slice b m mc] 24
 o : OwnX X b BB m P
 z : m <= 1048576
 f : 0 < m -> w.heap.size <= BB /\ BB ≠ RB /\ BB ≠ PB /\ some BB ≠ v.ownBlock /\ ∀ j, j < ts.length -> 0 < (ts[j]?.getD noRs).t.n -> bs j ≠ BB
section
variable {w wb : World} {H RB PB P1 P2 : Nat} {pv lv : List Value} {v : Value} {ts : List RsV} {bs : Nat -> Nat} {b : Option Addr} {m mc BB : Nat} {P : List Int} {X Y : World}
theorem SQ.below (q : SQ w wb H RB PB P1 P2 pv lv v ts bs b m mc BB P X) (h : Below X.heap.size X Y) : SQ w wb H RB PB P1 P2 pv lv v ts bs b m mc BB P Y := ⟨q.h, q.bw, q.c1, q.c2, q.j.below h, q.cr.below h, q.cp.below h, q.o.below h, q.z, q.f⟩
theorem SQ.past (q : SQ w wb H RB PB P1 P2 pv lv v ts bs b m mc BB P X) (t : Touch S X Y) (hS : ∀ k, S k -> H <= k /\ ∀ cs ty fr, X.heap[k]? ≠ some (.cells cs ty fr)) : SQ w wb H RB PB P1 P2 pv lv v ts bs b m mc BB P Y :=
 ⟨q.h, q.bw, q.c1, q.c2, q.j.past t (fun k hk => by rw [q.h]; exact hS k hk), q.cr.touch t (fun hs => (hS _ hs).2 _ _ _ q.cr), q.cp.touch t (fun hs => (hS _ hs).2 _ _ _ q.cp), q.o.touch t (fun h0 hs => by obtain ⟨cs, ty, fr, e⟩ := q.o.cellsS h0; exact (hS _ hs).2 _ _ _ e), q.z, q.f⟩
theorem SQ.all (q : SQ w wb H RB PB P1 P2 pv lv v ts bs b m mc BB P X) : Below w.heap.size w X := q.bw.trans (q.j.b.mono q.bw.size)
theorem SQ.x1 (q : SQ w wb H RB PB P1 P2 pv lv v ts bs b m mc BB P X) : Cel X P1 pv 26 /\ Cel X P2 lv 46 := ⟨q.c1.below q.j.b, q.c2.below q.j.b⟩
end
def SI (w : World) (H RB PB P1 P2 : Nat) (pv lv : List Value) (ss : List L2V) (S : List Int) (fs : List LgV) (pre : List SA) (X : World) : Prop :=
 ∃ wb v ts bs b m mc BB, SQ w wb H RB PB P1 P2 pv lv v ts bs b m mc BB (serL ss S (fs.take pre.length)).2 X /\ ts.length = pre.length /\ ts.map dRs = (serL ss S (fs.take pre.length)).1 /\ ∀ s, pre.getLast? = some s -> s.b = b /\ s.m = m /\ s.mc = mc
def ST (w : World) (H RB PB P1 P2 : Nat) (pv lv : List Value) (ss : List L2V) (S : List Int) (fs : List LgV) (pre : List SA) (x : SA) (X : World) : Prop :=
 ∃ X0 AA BB, SI w H RB PB P1 P2 pv lv ss S fs pre X0 /\ Below X0.heap.size X0 X /\ OwnX X x.a AA x.n x.x /\ OwnX X x.b BB x.m x.p /\ x.n <= 1048576 /\ x.m <= 1048576 /\ (0 < x.n -> X0.heap.size <= AA) /\ (0 < x.m -> X0.heap.size <= BB) /\ (0 < x.n -> 0 < x.m -> AA ≠ BB) /\ pre.length < fs.length /\ serL ss S (fs.take (pre.length + 1)) = ((serL ss S (fs.take pre.length)).1 ++ [(x.c, x.x)], x.p)
theorem SI.below {Y : World} {H RB PB P1 P2 : Nat} {pv lv : List Value} {ss : List L2V} {S : List Int} {fs : List LgV} {pre : List SA} (h : SI w H RB PB P1 P2 pv lv ss S fs pre X) (b : Below X.heap.size X Y) : SI w H RB PB P1 P2 pv lv ss S fs pre Y := by
 obtain ⟨wb, v, ts, bs, b', m, mc, BB, q, r⟩ := h
 exact ⟨wb, v, ts, bs, b', m, mc, BB, q.below b, r⟩
theorem SI.past {S' : Nat -> Prop} {Y : World} {H RB PB P1 P2 : Nat} {pv lv : List Value} {ss : List L2V} {S : List Int} {fs : List LgV} {pre : List SA} (h : SI w H RB PB P1 P2 pv lv ss S fs pre X) (t : Touch S' X Y) (hS : ∀ k, S' k -> H <= k /\ ∀ cs ty fr, X.heap[k]? ≠ some (.cells cs ty fr)) : SI w H RB PB P1 P2 pv lv ss S fs pre Y := by
 obtain ⟨wb, v, ts, bs, b', m, mc, BB, q, r⟩ := h
 exact ⟨wb, v, ts, bs, b', m, mc, BB, q.past t hS, r⟩
theorem ionebyone_any (cl : Int) (ad : Option Addr) (N cap : Nat) (ga : Option Addr) (gn gc : Nat) (sa : Option Addr) (sn sc : Nat) (la : Option Addr) (ln lc : Nat) (w : World) :
  Calls Tryz.prog 65 #[plV cl ad N cap ga gn gc sa sn sc, .slice la ln lc] w fun e w' => ∃ P1 P2, e = .returned (.func (.func 107) #[] #[.pointer (some ⟨P1, 0, none⟩), .pointer (some ⟨P2, 0, none⟩)]) /\ Below w.heap.size w w' /\ Cel w' P1 [.int .i64 cl, .slice ad N cap, .slice ga gn gc, .slice sa sn sc] 26 /\ Cel w' P2 [.slice la ln lc] 46 /\ w.heap.size <= P1 /\ w.heap.size <= P2 := by
 have b1 := (Below.refl w.heap.size w).alloc (qK _) (.cells #[.int .i64 cl, .slice ad N cap, .slice ga gn gc, .slice sa sn sc] 26);have c1 := Cel.new w [.int .i64 cl, .slice ad N cap, .slice ga gn gc, .slice sa sn sc] 26;have b2 := b1.alloc (by rw [qA]; omega) (.cells #[.slice la ln lc] 46);have c2 := Cel.new (w.alloc (.cells #[.int .i64 cl, .slice ad N cap, .slice ga gn gc, .slice sa sn sc] 26)) [.slice la ln lc] 46;have c3 := c1.below ((Below.refl _ _).alloc (qK _) (.cells #[.slice la ln lc] 46))
 go_enter Tryz.func65, Tryz.ntmps65
 go_wp2
 go_ret
 rw [qA] at c2
 exact ⟨_, _, rfl, b2, c3, c2, qK _, Nat.le_succ _⟩
theorem ione_in (l : Nat) (J : List SA -> World -> Prop) (w : World) (H RB PB P1 P2 : Nat) (cl : Int) (ad : Option Addr) (N cap : Nat) (ss : List L2V) (ga : Option Addr) (gn gc : Nat) (G : List Int) (sa : Option Addr) (sn sc : Nat) (S : List Int) (la : Option Addr) (ln lc : Nat) (fs : List LgV) (W : World) (n : Nat)
  (hA : PlAt w ad N ss ga gn G sa sn S) (hN : fs.length = ln) (hF : LgSG w la fs) (hz : ln <= 1048576) (hp : plnB cl N ss gn G sn S = true) (hlog : logB cl N ln fs = true)
  (hJb : ∀ pre X Y, J pre X -> Below X.heap.size X Y -> J pre Y) (hJI : ∀ pre X, J pre X -> SI w H RB PB P1 P2 [.int .i64 cl, .slice ad N cap, .slice ga gn gc, .slice sa sn sc] [.slice la ln lc] ss S fs pre X) (h0 : J [] W)
  (hY : ∀ (m : Nat) (pre : List SA) (x : SA) (X : World), J pre X -> ST w H RB PB P1 P2 [.int .i64 cl, .slice ad N cap, .slice ga gn gc, .slice sa sn sc] [.slice la ln lc] ss S fs pre x X -> YieldAt Fence.wide m Tryz.prog l x.enc X fun e Y => e = .returned (.bool true) /\ J (pre ++ [x]) Y) :
  CallsIn Fence.wide n Tryz.prog 107 #[.func (.yield l) #[] #[], .pointer (some ⟨P1, 0, none⟩), .pointer (some ⟨P2, 0, none⟩)] W fun e Y => (∃ v, e = .returned v) /\ ∃ pre, pre.length = ln /\ J pre Y := by
 have hdd : ∀ k : Nat, (Fence.wide.depth.isSome = true -> 1 <= k) := fun k h => by simp [Fence.wide] at h
 have HN : Hid (fs.length = ln) := hN;have HB : Hid _ := hJb;have HJ : Hid _ := hJI;have HYY : Hid _ := hY;have LA : Hid _ := hlog
 have HS : Hid (sn = 3) := by
  show sn = 3
  have h := hp;simp only [plnB, okN, Bool.and_eq_true, decide_eq_true_eq] at h;have := h.2.2.1.1
  omega
 clear hN hJb hJI hY hlog;obtain ⟨wb0, v0, ts0, bs0, b0, m0, mc0, BB0, q0, -⟩ := HJ.out _ _ h0;obtain ⟨x1, x2⟩ := q0.x1;have A0 := hA.below q0.all;clear q0;refine callsIn_of_wp Tryz.func107 rfl trivial ?_ rfl;simp only [Tryz.ntmps107, List.size_toArray, List.length_cons, List.length_nil, Nat.reduceAdd, Nat.reduceSub, Array.replicate_succ, Array.replicate_zero, List.push_toArray, List.append_toArray, List.nil_append, List.cons_append];have p0 := x1.cell 3;have p1 := x2.cell 0;simp only [qG, qH] at p0 p1
 gi_wp2_with fail
 gi_loopw [4, 13] (fun pots i wr => ∃ (k : Nat) (pre : List SA) (pa : Option Addr) (pn pc : Nat), k <= ln /\ i = .int .i64 k /\ pots = .slice pa pn pc /\ Hid (pre.length = k) /\ J pre wr /\ Ints wr pa pn (serL ss S (fs.take k)).2 /\ pn <= 1048576) (fun _ i _ => ln - (intOf i).toNat)
 case atStart => exact ⟨0, [], sa, sn, sc, Nat.zero_le _, rfl, rfl, rfl, h0, A0.s, A0.zs⟩
 case round =>
  clear x1 x2 p0 p1 A0 h0;obtain ⟨k, pre, pa, pn, pc, hk, rfl, rfl, HPR, j, op, hpn⟩ := hrel;obtain ⟨wb0, v0, ts0, bs0, b0, m0, mc0, BB0, q0, -⟩ := HJ.out _ _ j;obtain ⟨x1, x2⟩ := q0.x1;have Bw := q0.all;clear q0
  by_cases hlt : k < ln
  ·have hlt' : (k : Int) < ln := by omega
   obtain ⟨b, off, rfl, hc6, hg1, -, -⟩ := (hF.below Bw) k (by rw [HN.out]; exact hlt);obtain ⟨c, hgc, hcN⟩ := log_act LA.out (by rw [HN.out]; exact hlt);have STEP : Hid _ := serL_step (ss := ss) (V := S) (k := k) (by rw [HN.out]; exact hlt);have HV : Hid ((serL ss S (fs.take k)).2.length = pn) := op.1;obtain ⟨e0, e1, e2, e3, e4, e5⟩ := cellsLg hc6;clear hc6;generalize fs[k]?.getD noLg = g at *;obtain ⟨gx, gq, gc', ⟨gta, gtn, gtc, gtx⟩, ge, ⟨gua, gun, guc, gux⟩⟩ := g;obtain rfl : gc' = (c : Int) := hgc;obtain ⟨gi, gz⟩ := hg1;replace gi : Ints wr gta gtn gtx := gi;replace gz : gtn <= 1048576 := gz;replace e0 : wr.cell? ⟨b, off + k * 6, none⟩ = some (.int .i64 gx) := e0;replace e1 : wr.cell? ⟨b, off + k * 6 + 1, none⟩ = some (.int .i64 gq) := e1;replace e2 : wr.cell? ⟨b, off + k * 6 + 2, none⟩ = some (.int .i64 (c : Int)) := e2;replace e3 : wr.cell? ⟨b, off + k * 6 + 3, none⟩ = some (.slice gta gtn gtc) := e3;replace e4 : wr.cell? ⟨b, off + k * 6 + 4, none⟩ = some (.int .i64 ge) := e4;replace e5 : wr.cell? ⟨b, off + k * 6 + 5, none⟩ = some (.slice gua gun guc) := e5;obtain ⟨ba, bo, rfl, ha, hl⟩ := (hA.a.below Bw) c (by rw [hA.ha]; exact hcN);have hcN' : (c : Int) < (N : Int) := by omega
   obtain ⟨hx1, hx2, hx3⟩ := hl;obtain ⟨RC, hRC⟩ : ∃ x, x = runCode (ss[c]?.getD noL).n (ss[c]?.getD noL).x pn (serL ss S (fs.take k)).2 gtn gtx := ⟨_, rfl⟩
   obtain ⟨RT, hRT⟩ : ∃ x, x = runTells (ss[c]?.getD noL).n (ss[c]?.getD noL).x pn (serL ss S (fs.take k)).2 gtn gtx := ⟨_, rfl⟩
   obtain ⟨RP, hRP⟩ : ∃ x, x = runPots (ss[c]?.getD noL).n (ss[c]?.getD noL).x pn (serL ss S (fs.take k)).2 gtn gtx := ⟨_, rfl⟩
   have HST : Hid (serL ss S (fs.take (k + 1)) = ((serL ss S (fs.take k)).1 ++ [(RC, RT)], RP)) := by
    show _ = _
    rw [STEP.out, serStep];dsimp only;rw [Int.toNat_natCast, HV.out, hRC, hRT, hRP]
   have hT7 : RT.length <= 7 := by rw [hRT]; exact runTells_le
   have hP3 : RP.length <= 1048576 := by rw [hRP]; exact Nat.le_trans (runPots_le) (by rw [HV.out]; exact hpn)
   have HR : Hid (RC = _ /\ RT = _ /\ RP = _) := ⟨hRC, hRT, hRP⟩
   clear hRC hRT hRP STEP;generalize (serL ss S (fs.take k)).2 = VV at *;generalize ss[c]?.getD noL = al at *;obtain ⟨aa, an, ac, ax⟩ := al;replace ha : wr.cell? ⟨ba, bo + c, none⟩ = some (.slice aa an ac) := ha;replace hx1 : ax.length = an := hx1;replace hx2 : LinesG wr aa ax := hx2;replace hx3 : an <= 1048576 := hx3;have HX1 : Hid (ax.length = an) := hx1;clear hx1;have p1 := x2.cell 0;simp only [qG] at p1;refine wpIn_wide.2 ?_;have al1 := (Below.refl wr.heap.size wr).alloc (qK _) (.cells #[.int .i64 gx, .int .i64 gq, .int .i64 (c : Int), .slice gta gtn gtc, .int .i64 ge, .slice gua gun guc] 61);have dn := Cel.new wr [.int .i64 gx, .int .i64 gq, .int .i64 (c : Int), .slice gta gtn gtc, .int .i64 ge, .slice gua gun guc] 61;have lx1 := x1.lt;replace x1 := x1.below al1;replace gi := gi.below al1;replace hx2 := hx2.below al1;replace op := op.below al1;have ha' := (al1.cell (p := ⟨ba, bo + c, none⟩) (block_lt ha)).trans ha;obtain ⟨Dx, hDx⟩ : ∃ x, x = wr.heap.size := ⟨_, rfl⟩
   have hDx1 : wr.heap.size <= Dx /\ Dx <= wr.heap.size := by omega
   obtain ⟨w11, hw11⟩ : ∃ W, W = wr.alloc (.cells #[.int .i64 gx, .int .i64 gq, .int .i64 (c : Int), .slice gta gtn gtc, .int .i64 ge, .slice gua gun guc] 61) := ⟨_, rfl⟩
   go_upto_region 4 with fail
   rw [<- hw11, <- hDx];rw [<- hw11] at x1 gi hx2 op ha' dn al1;rw [<- hDx] at dn;clear hw11 hDx e0 e1 e2 e3 e4 e5 ha;have g1 := x1.cell 1;have d2 := dn.cell 2;have d3 := dn.cell 3;simp only [qG, qH] at g1 d2 d3
   go_upto_region 4 with fail
   go_cut [7, 8] from 14 to 38 (fun x y wx => SerQ w11 wx x y RC RT RP)
   case first =>
    have KP : Hid (∀ X, Below w11.heap.size w11 X -> X.cell? ⟨P1, 1, none⟩ = some (.slice (some ⟨ba, bo, none⟩) N cap) /\ X.cell? ⟨Dx, 2, none⟩ = some (.int .i64 (c : Int)) /\ X.cell? ⟨Dx, 3, none⟩ = some (.slice gta gtn gtc) /\ X.cell? ⟨ba, bo + c, none⟩ = some (.slice aa an ac)) := fun X hX => ⟨(hX.cell (p := ⟨P1, 1, none⟩) (block_lt g1)).trans g1, (hX.cell (p := ⟨Dx, 2, none⟩) (block_lt d2)).trans d2, (hX.cell (p := ⟨Dx, 3, none⟩) (block_lt d3)).trans d3, (hX.cell (p := ⟨ba, bo + c, none⟩) (block_lt ha')).trans ha'⟩
    have d : Below w11.heap.size w11 w11.drew := (Below.refl _ _).drew;have hSS : (w11.drew.cell? ⟨P1, 1, none⟩ = some (.slice (some ⟨ba, bo, none⟩) N cap) /\ w11.drew.cell? ⟨Dx, 2, none⟩ = some (.int .i64 (c : Int)) /\ w11.drew.cell? ⟨Dx, 3, none⟩ = some (.slice gta gtn gtc) /\ w11.drew.cell? ⟨ba, bo + c, none⟩ = some (.slice aa an ac)) /\ True := ⟨KP.out _ d, trivial⟩
    refine wp_region_ends (fun X => X.cell? ⟨P1, 1, none⟩ = some (.slice (some ⟨ba, bo, none⟩) N cap) /\ X.cell? ⟨Dx, 2, none⟩ = some (.int .i64 (c : Int)) /\ X.cell? ⟨Dx, 3, none⟩ = some (.slice gta gtn gtc) /\ X.cell? ⟨ba, bo + c, none⟩ = some (.slice aa an ac)) (fun _ => True) 17 (by kernel_rfl) ?_;obtain ⟨V0, hV0⟩ : ∃ V, V = w11.drew := ⟨_, rfl⟩
    rw [<- hV0] at hSS d;rw [<- hV0];clear hV0;have yd0 := d.size;refine tkl 0 rfl hSS ?_;refine tkl 1 rfl hSS ?_;refine tkl 2 rfl hSS ?_;refine tkl 3 rfl hSS ?_;refine tkl 4 rfl hSS ?_;refine tkl 5 rfl hSS ?_;refine tkl 6 rfl hSS ?_;refine tkl 7 rfl hSS ?_;refine tkl 8 rfl hSS ?_;refine tkl 9 rfl hSS ?_;refine tkl 10 rfl hSS ?_;(try simp only [Act.put, qB, qD, qC, qI, qF, qE]);refine wo2 11 15 rfl rfl (fun K hK => ?_) fun K hK => ?_
    ·go_simp;refine (irun_any an ax pn VV gtn gtx HX1.out (hx2.below d) hx3 (op.below d) (gi.below d) hpn gz).mono ?_;rintro ee V1 ⟨ra, n1, rc, RA, rb, m1, rd, RB', rfl, ln1, ln2, bv, o1, o2, lo1, lo2, ne12⟩;rw [<- HR.out.1];rw [<- HR.out.2.1] at ln1 o1;rw [<- HR.out.2.2] at ln2 o2;have yV1 := bv.size;replace d := btr d bv;clear bv;(try dsimp only);replace hSS : (V1.cell? ⟨P1, 1, none⟩ = some (.slice (some ⟨ba, bo, none⟩) N cap) /\ V1.cell? ⟨Dx, 2, none⟩ = some (.int .i64 (c : Int)) /\ V1.cell? ⟨Dx, 3, none⟩ = some (.slice gta gtn gtc) /\ V1.cell? ⟨ba, bo + c, none⟩ = some (.slice aa an ac)) /\ True := ⟨KP.out _ d, trivial⟩
     refine kk0 hK (hSS.1) ?_;refine tkl 12 rfl hSS ?_;refine tkl 13 rfl hSS ?_;refine tkl 14 rfl hSS ?_;(try simp only [Act.put, qB, qD, qC, qI, qF, qE]);refine wo1 15 rfl fun K hK => ?_;go_simp;obtain ⟨V2, hV2⟩ : ∃ W, W = V1.alloc (.cells #[.int .i64 0, .slice none 0 0] 54) := ⟨_, rfl⟩
     have bv : Below V1.heap.size V1 V2 := by rw [hV2]; exact bal
     have nx1 : 0 < n1 -> RA ≠ V1.heap.size := fun h => by have := o1.lt h; omega
     have nx2 : 0 < m1 -> RB' ≠ V1.heap.size := fun h => by have := o2.lt h; omega
     replace o1 := o1.below bv;replace o2 := o2.below bv;have xb : Cel V2 V1.heap.size [.int .i64 0, .slice none 0 0] 54 := by rw [hV2]; exact Cel.new V1 _ _
     have lb := xb.lt;have yV2 := d.size;replace d := btr d bv;rw [<- hV2];clear bv hV2;replace hSS : (V2.cell? ⟨P1, 1, none⟩ = some (.slice (some ⟨ba, bo, none⟩) N cap) /\ V2.cell? ⟨Dx, 2, none⟩ = some (.int .i64 (c : Int)) /\ V2.cell? ⟨Dx, 3, none⟩ = some (.slice gta gtn gtc) /\ V2.cell? ⟨ba, bo + c, none⟩ = some (.slice aa an ac)) /\ True := ⟨KP.out _ d, trivial⟩
     refine kk0 hK (hSS.1) ?_;have xS := ((xb.set 0 (.int .i64 RC)).set 1 (.slice ra n1 rc))
     simp only [qC, qD] at xS;have T := ((Touch.refl (fun z => z = V1.heap.size) V2).setCell (B := V1.heap.size) (i := 0) rfl (.int .i64 RC)).setCell (B := V1.heap.size) (i := 1) rfl (.slice ra n1 rc);have y0 := xb.cell 0;have y1 := xb.cell 1;have f0 := xb.free 0;have f1 := xb.free 1;simp only [qG, qH] at y0 y1;have dS := d.trans (T.below (B := w11.heap.size) (by omega) (fun z hz => by have hz : z = V1.heap.size := hz; omega));refine wo1 16 rfl fun K hK => ?_;go_simp;refine kk0 hK (KP.out _ dS) ?_;refine wo1 17 rfl fun K hK => ?_;go_simp;refine kk0 hK (KP.out _ dS) ?_;refine wod ?_ _;clear hSS y0 f0 y1 f1
     go_wp2_with fail
     go_meet
     case rel => exact ⟨V1.heap.size, ra, n1, rc, RA, rb, m1, rd, RB', rfl, rfl, ln1, ln2, dS, xS, o1.touch T (fun h0 hz => nx1 h0 hz), o2.touch T (fun h0 hz => nx2 h0 hz), fun h => by have := lo1 h; omega, fun h => by have := lo2 h; omega, ne12⟩
    go_simp;obtain ⟨V3, hV3⟩ : ∃ W, W = V0.alloc (.cells #[.int .i64 0, .slice none 0 0] 54) := ⟨_, rfl⟩
    have bv : Below V0.heap.size V0 V3 := by rw [hV3]; exact bal
    have xb : Cel V3 V0.heap.size [.int .i64 0, .slice none 0 0] 54 := by rw [hV3]; exact Cel.new V0 _ _
    have lb := xb.lt;have yV3 := d.size;replace d := btr d bv;rw [<- hV3];clear bv hV3;replace hSS : (V3.cell? ⟨P1, 1, none⟩ = some (.slice (some ⟨ba, bo, none⟩) N cap) /\ V3.cell? ⟨Dx, 2, none⟩ = some (.int .i64 (c : Int)) /\ V3.cell? ⟨Dx, 3, none⟩ = some (.slice gta gtn gtc) /\ V3.cell? ⟨ba, bo + c, none⟩ = some (.slice aa an ac)) /\ True := ⟨KP.out _ d, trivial⟩
    refine kk0 hK (hSS.1) ?_;refine wo1 11 rfl fun K hK => ?_;go_simp;refine (irun_any an ax pn VV gtn gtx HX1.out (hx2.below d) hx3 (op.below d) (gi.below d) hpn gz).mono ?_;rintro ee V4 ⟨ra, n1, rc, RA, rb, m1, rd, RB', rfl, ln1, ln2, bv, o1, o2, lo1, lo2, ne12⟩;rw [<- HR.out.1];rw [<- HR.out.2.1] at ln1 o1;rw [<- HR.out.2.2] at ln2 o2;replace xb := xb.below bv;have nx1 : 0 < n1 -> RA ≠ V0.heap.size := fun h => by have := lo1 h; omega
    have nx2 : 0 < m1 -> RB' ≠ V0.heap.size := fun h => by have := lo2 h; omega
    have yV4 := bv.size;replace d := btr d bv;clear bv;(try dsimp only);replace hSS : (V4.cell? ⟨P1, 1, none⟩ = some (.slice (some ⟨ba, bo, none⟩) N cap) /\ V4.cell? ⟨Dx, 2, none⟩ = some (.int .i64 (c : Int)) /\ V4.cell? ⟨Dx, 3, none⟩ = some (.slice gta gtn gtc) /\ V4.cell? ⟨ba, bo + c, none⟩ = some (.slice aa an ac)) /\ True := ⟨KP.out _ d, trivial⟩
    refine kk0 hK (hSS.1) ?_;refine tkl 12 rfl hSS ?_;refine tkl 13 rfl hSS ?_;refine tkl 14 rfl hSS ?_;(try simp only [Act.put, qB, qD, qC, qI, qF, qE]);have xS := ((xb.set 0 (.int .i64 RC)).set 1 (.slice ra n1 rc))
    simp only [qC, qD] at xS;have T := ((Touch.refl (fun z => z = V0.heap.size) V4).setCell (B := V0.heap.size) (i := 0) rfl (.int .i64 RC)).setCell (B := V0.heap.size) (i := 1) rfl (.slice ra n1 rc);have y0 := xb.cell 0;have y1 := xb.cell 1;have f0 := xb.free 0;have f1 := xb.free 1;simp only [qG, qH] at y0 y1;have dS := d.trans (T.below (B := w11.heap.size) (by omega) (fun z hz => by have hz : z = V0.heap.size := hz; omega));refine wo1 16 rfl fun K hK => ?_;go_simp;refine kk0 hK (KP.out _ dS) ?_;refine wo1 17 rfl fun K hK => ?_;go_simp;refine kk0 hK (KP.out _ dS) ?_;refine wod ?_ _;clear hSS y0 f0 y1 f1
    go_wp2_with fail
    go_meet
    case rel => exact ⟨V0.heap.size, ra, n1, rc, RA, rb, m1, rd, RB', rfl, rfl, ln1, ln2, dS, xS, o1.touch T (fun h0 hz => nx1 h0 hz), o2.touch T (fun h0 hz => nx2 h0 hz), fun h => by have := lo1 h; omega, fun h => by have := lo2 h; omega, ne12⟩
   case rest =>
   obtain ⟨w12, hwc⟩ : ∃ W, W = wc := ⟨wc, rfl⟩
   rw [<- hwc] at hcut;rw [<- hwc];clear hwc;obtain ⟨X9, ra, n1, rc, RA, rb, m1, rd, RB', rfl, rfl, ln1, ln2, bb, xb, o1, o2, lo1, lo2, ne12⟩ := hcut;have hn1 : n1 <= 1048576 := by omega
   have hm1 : m1 <= 1048576 := by omega
   have hst : Below wr.heap.size wr w12 := btr al1 bb;have zz := al1.size;have j1 := HB.out _ _ _ j hst
   have hla : ST w H RB PB P1 P2 [.int .i64 cl, .slice (some ⟨ba, bo, none⟩) N cap, .slice ga gn gc, .slice sa sn sc] [.slice (some ⟨b, off, none⟩) ln lc] ss S fs pre ⟨RC, ra, n1, rc, RT, rb, m1, rd, RP⟩ w12 := by
    refine ⟨wr, RA, RB', HJ.out _ _ j, hst, o1, o2, hn1, hm1, fun h => ?_, fun h => ?_, ne12, by rw [HPR.out, HN.out]; exact hlt, by rw [HPR.out]; exact HST.out⟩
    ·have := lo1 h
     omega
    have := lo2 h
    omega
   have x0 := xb.cell 0;have x1' := xb.cell 1;simp only [qG, qH] at x0 x1';have YY := HYY.out (n - 1) pre _ w12 j1 hla;simp only [SA.enc, resV] at YY;obtain ⟨fn, tmps, assign, body, hy, hR⟩ := YY;clear hla j1 hst
   go_upto_region 5 with fail
   refine (wpIn_wide (n := n)).1 ?_
   gi_wp2_with fail
   refine ⟨fun h => by simp [Fence.wide] at h, hR.mono ?_⟩;rintro e w2 ⟨rfl, J2⟩;obtain ⟨wb0, v0, ts0, bs0, b0, m0, mc0, BB0, q2, -, -, hlast⟩ := HJ.out _ _ J2;obtain ⟨l1, l2, l3⟩ := hlast _ (List.getLast?_concat);dsimp only at l1 l2 l3;subst l1 l2 l3
   have HP2 : Hid ((pre ++ [(⟨RC, ra, n1, rc, RT, rb, m1, rd, RP⟩ : SA)]).length = k + 1) := by
    show _ = _
    rw [qJ, HPR.out]; rfl
   have op2 := q2.o.ints;rw [HP2.out] at op2
   gi_wp2
   go_wp2
   go_roundw
   case rel => exact ⟨k + 1, _, rb, m1, rd, by omega, by go_num, rfl, HP2, J2, op2, hm1⟩
   case measure => simp [intOf]; omega
  obtain rfl : k = ln := by omega
  gi_wp2
  go_end0
  exact ⟨⟨_, rfl⟩, pre, HPR.out, j⟩
theorem iser_in (cl : Int) (ad : Option Addr) (N cap : Nat) (ga : Option Addr) (gn gc : Nat) (sa : Option Addr) (sn sc : Nat) (ss : List L2V) (G S : List Int) (la : Option Addr) (ln lc : Nat) (fs : List LgV) (w : World) (n : Nat) (hA : PlAt w ad N ss ga gn G sa sn S) (hN : fs.length = ln) (hF : LgSG w la fs) (hz : ln <= 1048576) (hT : Lib.TabBelow Tryz.prog w.heap.size w "internal/strconv.uint64pow10" .u64 Lib.pow10Tab) :
  CallsIn Fence.wide n Tryz.prog 21 #[plV cl ad N cap ga gn gc sa sn sc, .slice la ln lc] w fun r w' => SerD w w' r (serX cl N ss gn G sn S ln fs) := by
 have hdd : ∀ k : Nat, (Fence.wide.depth.isSome = true -> 1 <= k) := fun k h => by simp [Fence.wide] at h
 have HN : Hid (fs.length = ln) := hN;have HT : Hid _ := hT;obtain ⟨R, hR⟩ : ∃ R, serX cl N ss gn G sn S ln fs = R := ⟨_, rfl⟩
 have HRX : Hid (serX cl N ss gn G sn S ln fs = R) := hR;rw [hR];clear hN hR hT;have q := Cel.new w [.int .i64 cl, .slice ad N cap, .slice ga gn gc, .slice sa sn sc] 26;have B0 := (Below.refl w.heap.size w).alloc (qK _) (.cells #[.int .i64 cl, .slice ad N cap, .slice ga gn gc, .slice sa sn sc] 26);obtain ⟨W0, hW0⟩ : ∃ W, W = w.alloc (.cells #[.int .i64 cl, .slice ad N cap, .slice ga gn gc, .slice sa sn sc] 26) := ⟨_, rfl⟩
 obtain ⟨Y, hY⟩ : ∃ Y, Y = w.heap.size := ⟨_, rfl⟩
 have hY1 : w.heap.size <= Y /\ Y <= w.heap.size := by omega
 refine callsIn_of_wp_marks Tryz.func21 rfl trivial ?_ rfl;simp only [Tryz.ntmps21, List.size_toArray, List.length_cons, List.length_nil, Nat.reduceAdd, Nat.reduceSub, Array.replicate_succ, Array.replicate_zero, List.push_toArray, List.append_toArray, List.nil_append, List.cons_append];refine wpIn_wide.2 ?_
 go_wp2_with fail
 rw [<- hW0] at q B0;rw [<- hW0, <- hY];rw [<- hY] at q;clear hW0 hY
 have none_ : ∀ (W : World), Below w.heap.size w W -> SerD w W (.returned (.tuple #[.slice none 0 0, .slice none 0 0])) ([], []) := fun W hW =>
  ⟨_, [], fun _ => 0, none, 0, 0, 0, rfl, JRs.nil w W hW _, rfl, rfl, by omega, OwnX.nil _ _ _, fun h => by omega⟩
 have NONE : Hid _ := none_;clear none_;refine (iplnok_any cl ad N cap ss ga gn gc G sa sn sc S (hA.below B0)).mono ?_;rintro e w1 ⟨rfl, b1⟩;have B1 := btr B0 b1;replace q := q.below b1;clear b1 B0;have g0 := q.cell 0;have g1 := q.cell 1;have g2 := q.cell 2;have g3 := q.cell 3;simp only [qG, qH] at g0 g1 g2 g3
 cases h1 : plnB cl N ss gn G sn S
 ·obtain rfl : R = ([], []) := by rw [<- HRX.out]; exact serX_no (by rw [h1]; rfl)
  go_wp2
  refine ⟨_, results_tmp2 rfl _ _ _, ?_⟩
  exact NONE.out _ B1
 have hp := pln_parts h1;have HP : Hid (plnB cl N ss gn G sn S = true) := h1
 obtain rfl : sn = 3 := by
  have h := h1;simp only [plnB, okN, Bool.and_eq_true, decide_eq_true_eq] at h;have := h.2.2.1.1
  omega
 go_wp2_with fail
 refine (ilog_any cl ad N cap ga gn gc sa 3 sc ss G S la ln lc fs (hA.below B1) HN.out (hF.below B1) hz (fun w' h' => HT.out w' (btr B1 h')) HP.out).mono ?_;rintro e w2 ⟨rfl, b2⟩;have B2 := btr B1 b2;replace q := q.below b2;clear g0 g1 g2 g3 b2 B1;have g0 := q.cell 0;have g1 := q.cell 1;have g2 := q.cell 2;have g3 := q.cell 3;simp only [qG, qH] at g0 g1 g2 g3
 cases h2 : logB cl N ln fs
 ·obtain rfl : R = ([], []) := by rw [<- HRX.out]; exact serX_no (by rw [h2]; simp)
  go_wp2
  refine ⟨_, results_tmp2 rfl _ _ _, ?_⟩
  exact NONE.out _ B2
 obtain rfl : R = serL ss S fs := by rw [<- HRX.out]; exact serX_yes h1 h2
 have LA : Hid (logB cl N ln fs = true) := h2;clear HRX NONE h1 h2;have lY := q.lt
 -- the results' box
 have al := (Below.refl w2.heap.size w2).alloc (qK _) (.cells #[.slice none 0 0] 49);have cr := Cel.new w2 [.slice none 0 0] 49;have B3 := btr B2 al;replace q := q.below al;obtain ⟨RB, hRB⟩ : ∃ x, x = w2.heap.size := ⟨_, rfl⟩
 obtain ⟨w3, hw3⟩ : ∃ W, W = w2.alloc (.cells #[.slice none 0 0] 49) := ⟨_, rfl⟩
 have hRB1 : Y < RB := by omega
 have hRB2 : w2.heap.size <= RB := by omega
 clear g0 g1 g2 g3 al B2;have g3 : (w2.alloc (.cells #[.slice none 0 0] 49)).cell? ⟨Y, 3, none⟩ = some (.slice sa 3 sc) := by rw [<- hw3] at q ⊢; exact q.cell 3
 go_wp2_with fail
 rw [<- hw3] at cr B3 q;rw [<- hRB] at cr;rw [<- hw3, <- hRB];clear hw3 hRB g3;refine (clone_any sa 3 sc S (hA.s.below B3)).mono ?_;rintro e w4 ⟨cv, rfl, jc⟩;obtain ⟨ca, cc, CB, rfl, oc, lc0⟩ := jc.ownx (n := 3) hA.s.1;have b4 := jc.b;have lRB := cr.lt;have B4 := btr B3 b4;replace q := q.below b4;replace cr := cr.below b4;have lCB := oc.lt (by omega);have lc1 := lc0 (by omega);have z4 := b4.size;clear jc b4 B3 lc0
 -- the pots' box
 have al := (Below.refl w4.heap.size w4).alloc (qK _) (.cells #[.slice ca 3 cc] 24);have cp := Cel.new w4 [.slice ca 3 cc] 24;have B5 := btr B4 al;have z5 := al.size;replace q := q.below al;replace cr := cr.below al;replace oc := oc.below al;obtain ⟨PB, hPB⟩ : ∃ x, x = w4.heap.size := ⟨_, rfl⟩
 obtain ⟨w5, hw5⟩ : ∃ W, W = w4.alloc (.cells #[.slice ca 3 cc] 24) := ⟨_, rfl⟩
 have hPB1 : w4.heap.size <= PB /\ PB <= w4.heap.size := by omega
 clear al B4;have q5 : Cel w5 Y [.int .i64 cl, .slice ad N cap, .slice ga gn gc, .slice sa 3 sc] 26 := by rw [hw5]; exact q
 have g0 : (w4.alloc (.cells #[.slice ca 3 cc] 24)).cell? ⟨Y, 0, none⟩ = some (.int .i64 cl) := by rw [<- hw5]; exact q5.cell 0
 have g1 : (w4.alloc (.cells #[.slice ca 3 cc] 24)).cell? ⟨Y, 1, none⟩ = some (.slice ad N cap) := by rw [<- hw5]; exact q5.cell 1
 have g2 : (w4.alloc (.cells #[.slice ca 3 cc] 24)).cell? ⟨Y, 2, none⟩ = some (.slice ga gn gc) := by rw [<- hw5]; exact q5.cell 2
 have g3 : (w4.alloc (.cells #[.slice ca 3 cc] 24)).cell? ⟨Y, 3, none⟩ = some (.slice sa 3 sc) := by rw [<- hw5]; exact q5.cell 3
 go_wp2_with fail
 rw [<- hw5] at cr cp oc B5;rw [<- hPB] at cp;rw [<- hw5, <- hPB];have hw5s : w4.heap.size + 1 <= w5.heap.size := by rw [hw5, qA]; omega
 clear hw5 hPB g0 g1 g2 g3 q q5;refine (ionebyone_any cl ad N cap ga gn gc sa 3 sc la ln lc w5).mono ?_;rintro e w6 ⟨P1, P2, rfl, b6, c1, c2, lP1, lP2⟩;have B6 := btr B5 b6;replace cr := cr.below b6;replace cp := cp.below b6;replace oc := oc.below b6;have l1 := c1.lt;have l2 := c2.lt;have z6 := b6.size;clear b6 B5;have hY6 : w.heap.size < RB /\ RB < PB /\ PB < w6.heap.size /\ RB ≠ P1 /\ RB ≠ P2 /\ PB ≠ P1 /\ PB ≠ P2 /\ CB ≠ RB /\ CB ≠ PB /\ w.heap.size <= CB /\ w.heap.size <= w6.heap.size := by omega
 have I0 : SI w w6.heap.size RB PB P1 P2 [.int .i64 cl, .slice ad N cap, .slice ga gn gc, .slice sa 3 sc] [.slice la ln lc] ss S fs [] w6 := by
  refine ⟨w6, .slice none 0 0, [], fun _ => 0, ca, 3, cc, CB, ⟨rfl, B6, c1, c2, JRs.nil w6 w6 (Below.refl _ _) _, cr, cp, oc, by omega, fun _ => ⟨by omega, by omega, by omega, fun e => by simp [Value.ownBlock] at e, fun j hj => by simp at hj⟩⟩, rfl, rfl, fun s hs => by simp at hs⟩
 clear cr cp oc c1 c2 l1 l2 hRB1 hRB2 lRB lCB lc1 z4 z5 z6 hPB1 hw5s lP1 lP2 lY hY1 B6
 go_upto_region 99 with fail
 refine (wpIn_wide (n := n)).1 ?_
 gi_wp2_with fail
 refine wpIn_rowsI (α := SA) (gf := 107) (lb := #[.pointer (some ⟨P1, 0, none⟩), .pointer (some ⟨P2, 0, none⟩)]) rfl (enters_of Tryz.func107 (by kernel_rfl) rfl) (encs := SA.enc) (fun _ => rfl)
  (ST w w6.heap.size RB PB P1 P2 [.int .i64 cl, .slice ad N cap, .slice ga gn gc, .slice sa 3 sc] [.slice la ln lc] ss S fs) (fun _ _ => True) (fun xs => xs.length = ln) (SI w w6.heap.size RB PB P1 P2 [.int .i64 cl, .slice ad N cap, .slice ga gn gc, .slice sa 3 sc] [.slice la ln lc] ss S fs)
  (fun pre X Y h b => h.below b) (fun pre X l r r' h hl lt => h.past put_touch (fun k e => by subst e; exact ⟨by omega, fun cs ty fr h => by rw [hl] at h; cases h⟩)) (fun _ _ _ _ _ => trivial) (fun _ _ _ _ _ => trivial) I0 ?seq ?round ?done
 case seq =>
  intro l J W hJ hb hJ0 hJI hY;have ee0 : (#[.func (.yield l) #[] #[]] ++ #[.pointer (some ⟨P1, 0, none⟩), .pointer (some ⟨P2, 0, none⟩)] : Array Value) = #[.func (.yield l) #[] #[], .pointer (some ⟨P1, 0, none⟩), .pointer (some ⟨P2, 0, none⟩)] := rfl;rw [ee0];refine (ione_in l J w w6.heap.size RB PB P1 P2 cl ad N cap ss ga gn gc G sa 3 sc S la ln lc fs W (n - 1) hA HN.out hF hz HP.out LA.out hJ hJI hJ0 (fun m pre x X h1 h2 => (hY m pre x X h1 h2).mono (fun e Y h => ⟨h.1, h.2.1⟩))).mono ?_;rintro e Y ⟨h1, pre, h2, h3⟩
  exact ⟨h1, pre, h2, h3⟩
 case round =>
  rintro m l pre ⟨RC, ra, n1, rc, RT, rb, m1, rd, RP⟩ X r hI ⟨X0, AA, BB, ⟨wb, v, ts, bs, b0, m0, mc0, B00, Q0, hts, htd, -⟩, bX, o1, o2, z1, z2, lo1, lo2, ne12, hlt, hst⟩ hl hll;dsimp only at o1 o2 z1 z2 lo1 lo2 ne12 hst;have eb : Below X0.heap.size X0 X := bX;have q1 := Q0.below eb;have hb0 : 0 < m0 -> B00 < X0.heap.size := fun h => Q0.o.lt h;have hbs : ∀ i, i < ts.length -> 0 < (ts[i]?.getD noRs).t.n -> bs i < X0.heap.size := fun i hi h0 => (Q0.j.k i hi).1.lt h0
  have hvo : ∀ z, v.ownBlock = some z -> w6.heap.size <= z /\ z < X0.heap.size := fun z hz => by
   have := Q0.j.own hz;rw [Q0.h] at this
   exact this
  have hX0 : w6.heap.size <= X0.heap.size := by have := Q0.j.b.size; rw [Q0.h] at this; exact this
  have z0 := eb.size;clear Q0 hI eb bX;have HTS : Hid (ts.length = pre.length) := hts;have HTD : Hid _ := htd;have HST : Hid _ := hst;have HLT : Hid (pre.length < fs.length) := hlt;obtain ⟨k, hk⟩ : ∃ k, ts.length = k := ⟨_, rfl⟩
  have HK : Hid (ts.length = k) := hk;have hkz : k < 1048576 := by have := HN.out; rw [<- hk, hts]; omega
  clear hts htd hst hlt hk
  -- the result's box
  have bx : Below X.heap.size X (X.alloc (.cells #[.int .i64 RC, .slice ra n1 rc] 54)) := bal;have cx := Cel.new X [.int .i64 RC, .slice ra n1 rc] 54;have hl1 := (bx.block l (lt_of_block hl)).trans hl;have lX := cx.lt;obtain ⟨R9, hR9⟩ : ∃ x, x = X.heap.size := ⟨_, rfl⟩
  have hR9b : X0.heap.size <= R9 := by omega
  dsimp only [SA.enc]
  gi_wp2_with fail
  refine ⟨keeps_below bx, trivial, ?_⟩;replace q1 := q1.below bx;replace o1 := o1.below bx;replace o2 := o2.below bx;have noc : ∀ cs ty fr, (X.alloc (.cells #[.int .i64 RC, .slice ra n1 rc] 54)).heap[l]? ≠ some (.cells cs ty fr) := fun cs ty fr h => by rw [hl1] at h; cases h
  have pt : Touch (fun k => k = l) (X.alloc (.cells #[.int .i64 RC, .slice ra n1 rc] 54)) ((X.alloc (.cells #[.int .i64 RC, .slice ra n1 rc] 54)).putObj l (.loop { r with state := .busy })) := put_touch;replace q1 := q1.past pt (fun k e => by subst e; exact ⟨by omega, noc⟩);replace o1 := o1.touch pt (fun h0 hs => by obtain ⟨cs, ty, fr, e⟩ := o1.cellsS h0; rw [hs] at e; exact noc _ _ _ e);replace o2 := o2.touch pt (fun h0 hs => by obtain ⟨cs, ty, fr, e⟩ := o2.cellsS h0; rw [hs] at e; exact noc _ _ _ e);replace cx := cx.touch pt (fun hs => by have e := cx; unfold Cel at e; rw [hs] at e; exact noc _ _ _ e);rw [<- hR9] at cx lX;rw [<- hR9];have sz := pt.size;have sb := bx.size;obtain ⟨V, hV⟩ : ∃ V, V = (X.alloc (.cells #[.int .i64 RC, .slice ra n1 rc] 54)).putObj l (.loop { r with state := .busy }) := ⟨_, rfl⟩
  rw [<- hV] at q1 o1 o2 cx sz ⊢;clear hV pt noc hl1 bx hR9 hl;have HQ : Hid _ := q1;have gr := q1.cr.cell 0;have x0 := cx.cell 0;have x1 := cx.cell 1;simp only [qG, qH] at gr x0 x1;have A : Below V.heap.size V (V.alloc (.cells #[.int .i64 RC, .slice ra n1 rc] 54)) := bal;have j5 := q1.j.below A;obtain ⟨zi, hi, hz0, hz1, hz2⟩ := info_parts Tryz.infoResResult
  have ho : (V.alloc (.cells #[.int .i64 RC, .slice ra n1 rc] 54)).ownsRow w6.heap.size 54 2 v k (ts.flatMap RsV.cs) := by
   have := j5.o;rw [HK.out, q1.h] at this
   exact this
  have gr5 : (V.alloc (.cells #[.int .i64 RC, .slice ra n1 rc] 54)).cell? ⟨RB, 0, none⟩ = some v := ((q1.cr.below A).cell 0)
  have ne1 : v.ownBlock ≠ some RB := fun e => by have := (hvo _ e).1; omega
  have ne2 : v.ownBlock ≠ some PB := fun e => by have := (hvo _ e).1; omega
  have cr5 := q1.cr.below A;have cp5 := q1.cp.below A;clear q1 j5
  gi_wp2_with (gi_at_builtin; go_must (refine wpListIn_append_liesR rfl (.tmp 27) (.tmp 29) 49 rfl w6.heap.size 54 zi 2 32 Tryz.underlying49 hi hz0 hz1 hz2 rfl (by decide) v k (ts.flatMap RsV.cs) rfl ho ⟨V.heap.size, 0, none⟩ 1 1 [.int .i64 RC, .slice ra n1 rc] rfl rfl (World.news_of_block (cs := #[.int .i64 RC, .slice ra n1 rc]) (t := 54) (fr := (0, 0)) (heap_alloc_new V _)) (by simp [Value.oneCell']) (by omega) (by unfold maxLen; omega) (by omega) (by rw [qA]; omega) rfl ?_); intro g cp9 w8 hown hgrow hat hlt1; have cr8 := cr5.grew hgrow ne1; have cp8 := cp5.grew hgrow ne2; have r80 := cr8.cell 0; have r8f := cr8.free 0; have cp9' := cp8.setOther (B' := RB) (by omega) 0 (.slice (some ⟨g, 0, none⟩) (k + 1) cp9); have p80 := cp9'.cell 0; have p8f := cp9'.free 0)
  have q5 := HQ.out;have hat' : (Value.slice (some ⟨g, 0, none⟩) (k + 1) cp9).ownBlock = v.ownBlock \/ (Value.slice (some ⟨g, 0, none⟩) (k + 1) cp9).ownBlock = some (V.alloc (.cells #[.int .i64 RC, .slice ra n1 rc] 54)).heap.size := hat.elim (fun h => .inl (by rw [h]; rfl)) (fun h => .inr (by rw [h]; rfl));have hown' : w8.ownsRow wb.heap.size 54 2 (.slice (some ⟨g, 0, none⟩) (k + 1) cp9) (k + 1) (ts.flatMap RsV.cs ++ [.int .i64 RC, .slice ra n1 rc]) := by rw [q5.h]; exact hown
  have hlo : 0 < n1 -> wb.heap.size <= AA /\ some AA ≠ v.ownBlock := fun h0 => by
   have h2 := lo1 h0
   exact ⟨by rw [q5.h]; omega, fun e => by have := (hvo _ e.symm).2; omega⟩
  have hnew : 0 < n1 -> ∀ i, i < k -> 0 < (ts[i]?.getD noRs).t.n -> bs i ≠ AA := fun h0 i hi hi0 => by
   have h2 := lo1 h0;have h1 := hbs i (by rw [HK.out]; exact hi) hi0
   omega
  have j6 := q5.j.app (s := ⟨RC, ⟨ra, n1, rc, RT⟩⟩) HK.out o1 z1 hlo hnew hown' hgrow hat';have hsz := q5.h;have j7 := j6.setLow (X := RB) (by omega) cr8 0 (.slice (some ⟨g, 0, none⟩) (k + 1) cp9);have j8 := j7.setLow (X := PB) (by rw [size_setCell]; omega) cp9' 0 (.slice rb m1 rd);have t1 : Touch (fun x => x = RB) w8 (w8.setCell ⟨RB, 0, none⟩ (.slice (some ⟨g, 0, none⟩) (k + 1) cp9)) := (Touch.refl (fun x => x = RB) w8).setCell rfl _;have t2 : Touch (fun x => x = PB) (w8.setCell ⟨RB, 0, none⟩ (.slice (some ⟨g, 0, none⟩) (k + 1) cp9)) ((w8.setCell ⟨RB, 0, none⟩ (.slice (some ⟨g, 0, none⟩) (k + 1) cp9)).setCell ⟨PB, 0, none⟩ (.slice rb m1 rd)) := (Touch.refl (fun x => x = PB) _).setCell rfl _;have u1 : Touch (fun x => x = RB) wb (wb.setCell ⟨RB, 0, none⟩ (.slice (some ⟨g, 0, none⟩) (k + 1) cp9)) := (Touch.refl (fun x => x = RB) wb).setCell rfl _;have u2 : Touch (fun x => x = PB) (wb.setCell ⟨RB, 0, none⟩ (.slice (some ⟨g, 0, none⟩) (k + 1) cp9)) ((wb.setCell ⟨RB, 0, none⟩ (.slice (some ⟨g, 0, none⟩) (k + 1) cp9)).setCell ⟨PB, 0, none⟩ (.slice rb m1 rd)) := (Touch.refl (fun x => x = PB) _).setCell rfl _;refine ⟨(keeps_below A).trans (((q5.j.below A).ksG hgrow).trans ((keeps_touch t1).trans (keeps_touch t2))), trivial, ?_⟩;have hlen : (pre ++ [(⟨RC, ra, n1, rc, RT, rb, m1, rd, RP⟩ : SA)]).length = pre.length + 1 := by rw [qJ]; rfl
  have ow : OwnX w8 rb BB m1 RP := by
   by_cases h0 : 0 < m1
   ·exact OwnX.grown o2 hgrow (fun e => by have := (hvo _ e).2; have := lo2 h0; omega)
   obtain rfl : m1 = 0 := by omega
   exact ⟨o2.1, .inl rfl⟩
  have lo2b : 0 < m1 -> BB < V.heap.size := fun h => o2.lt h;refine ⟨_, _, ts ++ [⟨RC, ⟨ra, n1, rc, RT⟩⟩], _, rb, m1, rd, BB, ⟨?_, ?_, ?_, ?_, j8, ?_, ?_, ?_, z2, ?_⟩, ?_, ?_, ?_⟩
  ·rw [size_setCell, size_setCell]; exact q5.h
  ·exact below_touch (below_touch q5.bw u1) u2
  ·exact (q5.c1.setOther (by omega) 0 _).setOther (by omega) 0 _
  ·exact (q5.c2.setOther (by omega) 0 _).setOther (by omega) 0 _
  ·exact (cr8.set 0 _).setOther (by omega) 0 _
  ·exact cp9'.set 0 _
  ·rw [hlen, HST.out]
   exact (ow.setOther (fun h0 => by have := lo2 h0; omega) 0 _).setOther (fun h0 => by have := lo2 h0; omega) 0 _
  ·intro h0;have h2 := lo2 h0;have h3 := lo2b h0;refine ⟨by omega, by omega, by omega, fun e => ?_, fun j hj hj0 => ?_⟩
   ·rcases hat' with h | h
    ·rw [h] at e;have := (hvo _ e.symm).2
     omega
    rw [h, qA] at e;simp only [Option.some.injEq] at e
    omega
   rw [qJ, HK.out, List.length_singleton] at hj
   by_cases hjk : j < k
   ·rw [if_pos hjk];rw [List.getElem?_append_left (by rw [HK.out]; exact hjk)] at hj0;have := hbs j (by rw [HK.out]; exact hjk) hj0
    omega
   obtain rfl : j = k := by omega
   rw [if_neg hjk];rw [List.getElem?_append_right (by rw [HK.out]; exact qK _), HK.out, Nat.sub_self] at hj0
   exact ne12 hj0 h0
  ·rw [qJ, hlen, HTS.out]; rfl
  ·rw [hlen, HST.out]
   exact ser_ts HTD.out rfl
  intro s hs;rw [List.getLast?_concat] at hs
  cases hs
  exact ⟨rfl, rfl, rfl⟩
 case done =>
  rintro D xs W hD hS ⟨wb, v, ts, bs, b0, m0, mc0, B00, q, hts, htd, -⟩ hK;have gr := q.cr.cell 0;have gp := q.cp.cell 0;have qd := q.below (Below.refl W.heap.size W).drew;have hKd : W.drew.heap[D]? = some (.deferred (some [])) := hK;have q' := qd.past (put_touch (l := D) (o := .deferred none)) (fun k e => by subst e; exact ⟨hD, fun cs ty fr h => by rw [hKd] at h; cases h⟩);have hfs : fs.take xs.length = fs := List.take_of_length_le (by rw [hS, HN.out]; exact qK _);rw [hfs] at q' htd
  go_wp2
  go_region
  all_goals
   go_wp2
   refine ⟨by simp, .inl ⟨_, _, rfl, run_takeDeferred hK, ?_⟩⟩;refine ⟨_, results_tmp2 rfl _ _ _, ?_⟩
   exact ⟨v, ts, bs, b0, m0, mc0, B00, rfl, q'.j.rebase q'.bw, htd, q'.o.1, q'.z, q'.o, fun h => ⟨(q'.f h).1, (q'.f h).2.2.2.1, (q'.f h).2.2.2.2⟩⟩
theorem iser_any (cl : Int) (ad : Option Addr) (N cap : Nat) (ga : Option Addr) (gn gc : Nat) (sa : Option Addr) (sn sc : Nat) (ss : List L2V) (G S : List Int) (la : Option Addr) (ln lc : Nat) (fs : List LgV) {w : World} (hA : PlAt w ad N ss ga gn G sa sn S) (hN : fs.length = ln) (hF : LgSG w la fs) (hz : ln <= 1048576) (hT : Lib.TabBelow Tryz.prog w.heap.size w "internal/strconv.uint64pow10" .u64 Lib.pow10Tab) :
  Calls Tryz.prog 21 #[plV cl ad N cap ga gn gc sa sn sc, .slice la ln lc] w fun r w' => SerD w w' r (serX cl N ss gn G sn S ln fs) :=
 callsIn_wide.1 (iser_in cl ad N cap ga gn gc sa sn sc ss G S la ln lc fs w 0 hA hN hF hz hT)
theorem bnd.snoc {M y : Int} (h : bnd M zs) (h0 : 0 <= M) (h1 : -M <= y) (h2 : y <= M) : bnd M (zs ++ [y]) := by
 intro i
 by_cases hi : i < zs.length
 ·rw [List.getElem?_append_left hi]; exact h i
 by_cases he : i = zs.length
 ·subst he; simp; omega
 rw [List.getElem?_eq_none (by rw [qJ]; simp; omega)]; simp; omega
theorem small_atF {g : LV} {x : List Int} {M : Int} (hs : smallB g.f.n g.f.m g.f.C g.f.D g.f.K = true) (bV : bnd M x) (bU : bnd 9 U) (hM : 0 <= M := by omega) : -(6 * M + 56) <= atF x U g.f /\ atF x U g.f <= 6 * M + 56 := by
 obtain ⟨_, _, bC, bD, k1, k2⟩ := small_elim hs
 exact (small_at bC bD k1 k2 bV bU hM).2.2
theorem goL_tells (U : List Int) (ls : List LV) (h6 : ls.length <= 6) (hall : ls.all LV.ok = true) (bU : bnd 9 U) : ∀ (f i : Nat) (x tl : List Int), (i <= 6 -> bnd (bd i) x) -> tl.length <= i -> tl.length <= 6 -> bnd 13000000000 tl -> (goL U ls f i x tl).2.2.length <= 6 /\ bnd 13000000000 (goL U ls f i x tl).2.2
 | 0, i, x, tl, hx, hi, h, hb => ⟨h, hb⟩
 | f + 1, i, x, tl, hx, hi, h, hb => by
  unfold goL
  split
  ·rename_i hl
   have hok := allL_at hall hl;have hbx := hx (by omega);have hp := bd_pos i;have h2 := bd_six (n := i) (by omega)
   split
   ·rename_i hk
    refine goL_tells U ls h6 hall bU f _ x tl (fun hj => bnd_mono hbx (bd_mono ?_)) ?_ h hb
    ·split <;> omega
    split <;> omega
   split
   ·rename_i hk
    have hs : smallB (ls[i]?.getD noLV).f.n (ls[i]?.getD noLV).f.m (ls[i]?.getD noLV).f.C (ls[i]?.getD noLV).f.D (ls[i]?.getD noLV).f.K = true := by
     have h := hok;simp only [LV.ok, hk] at h
     exact (line_two h).2.2
    have ha := small_atF hs hbx bU;refine goL_tells U ls h6 hall bU f (i + 1) _ tl (fun _ => ?_) (by omega) h hb;have := hbx (ls[i]?.getD noLV).pot.toNat
    exact bnd_set (bnd_mono hbx (bd_succ i)) (by simp only [bd]; omega) (by simp only [bd]; omega)
   split
   ·rename_i hk
    have hs : smallB (ls[i]?.getD noLV).f.n (ls[i]?.getD noLV).f.m (ls[i]?.getD noLV).f.C (ls[i]?.getD noLV).f.D (ls[i]?.getD noLV).f.K = true := by
     have h := hok;simp only [LV.ok, hk] at h
     exact line_three h
    have ha := small_atF hs hbx bU
    exact goL_tells U ls h6 hall bU f (i + 1) x _ (fun _ => bnd_mono hbx (bd_succ i)) (by rw [qJ]; simp; omega) (by rw [qJ]; simp; omega) (hb.snoc (by omega) (by omega) (by omega))
   exact ⟨h, hb⟩
  exact ⟨h, hb⟩
structure RunLeft (c : Int) (tl pl V : List Int) : Prop where
 hc : 1 <= c /\ c <= 3
 hp : okN 3 10000 3 pl = true
 hv : c ≠ 1 -> pl = V /\ tl = []
 hn : tl.length <= 6
 ht : allB 999999999999 tl = true
theorem bnd_allE {m : Int} (h : bnd m zs) : allB m zs = true := by
 unfold allB;rw [List.all_eq_true];intro z hz;obtain ⟨i, hi, rfl⟩ := List.mem_iff_getElem.1 hz;have := h i;rw [List.getElem?_eq_getElem hi] at this
 exact inB_iff.2 this
theorem run_left (hN : ls.length = N) (h : runB N ls 3 V q U = true) (hV : V.length = 3) (hU : U.length = q) : RunLeft (runCode N ls 3 V q U) (runTells N ls 3 V q U) (runPots N ls 3 V q U) V := by
 have h' := h;simp only [runB, Bool.and_eq_true] at h';have h6 := actB_six h'.1.1;have bV := okN_elim (by omega) h'.1.2;have bU := okN_elim (by omega) h'.2;have gt := goL_tells U ls (by omega) h6.2 bU.2 7 0 V [] (fun _ => bV.2) (by simp) (by simp) (fun i => by simp);have gl := (goL_len U ls 7 0 V []).1
 cases hs : (runL U ls V).1
 ·obtain ⟨x, tl, e⟩ : ∃ x tl, runL U ls V = (false, x, tl) := ⟨(runL U ls V).2.1, (runL U ls V).2.2, by rw [<- hs]⟩
  obtain ⟨e1, e2, e3⟩ := run_go h e;have e' : goL U ls 7 0 V [] = (false, x, tl) := e;rw [e'] at gt gl;rw [e1, e2, e3]
  cases hk : okN 3 10000 3 x
  ·have c1 : endCode x = 3 := by rw [endCode, hk]; rfl
   have c2 : endTells x tl = [] := by rw [endTells, hk]; rfl
   have c3 : endPots V x = V := by rw [endPots, hk]; rfl
   rw [c1, c2, c3]
   exact ⟨by omega, h'.1.2, fun _ => ⟨rfl, rfl⟩, by simp, rfl⟩
  have c1 : endCode x = 1 := by rw [endCode, hk]; rfl
  have c2 : endTells x tl = tl := by rw [endTells, hk]; rfl
  have c3 : endPots V x = x := by rw [endPots, hk]; rfl
  rw [c1, c2, c3]
  exact ⟨by omega, hk, fun h => absurd rfl h, gt.1, bnd_allE (bnd_mono gt.2 (by omega))⟩
 obtain ⟨e1, e2, e3⟩ := run_stop h hs;rw [e1, e2, e3]
 exact ⟨by omega, h'.1.2, fun _ => ⟨rfl, rfl⟩, by simp, rfl⟩
theorem runB_threeE {p : Nat} (h : runB N ls p V q U = true) : p = 3 /\ q = 2 /\ ls.all LV.ok = true /\ actB N ls = true := by
 unfold runB at h;simp only [Bool.and_eq_true] at h;have h1 := (okN_elim (by omega) h.1.2).1;have h2 := (okN_elim (by omega) h.2).1
 exact ⟨by omega, by omega, (actB_six h.1.1).2, h.1.1⟩
theorem pots_threeE {p : Nat} (h : runB N ls p V q U = true) (hV : V.length = p) : (runPots N ls p V q U).length = 3 := by
 have h3 := (runB_threeE h).1;have hg := (goL_len U ls 7 0 V []).1;unfold runPots;rw [if_pos h]
 split
 ·omega
 unfold endPots
 split
 ·unfold runL; omega
 omega
def coRB (c d : Int) (xs ys : List Int) : Bool := (c == d) && eqB xs ys
theorem coRB_same {c : Int} {xs : List Int} : coRB c c xs xs = true := by simp [coRB, eqB]
theorem coR_any {c d : Int} {a : Option Addr} {cap : Nat} {b : Option Addr} {m cap' : Nat} (xs ys : List Int) {w : World} (h : Ints w a n xs) (h' : Ints w b m ys) (hn : n <= 1048576) (hm : m <= 1048576) :
  Calls Tryz.prog 59 #[resV c a n cap, resV d b m cap'] w fun e w' => e = .returned (.bool (coRB c d xs ys)) /\ Below w.heap.size w w' := by
 cases h1 : (c == d)
 ·go_enter Tryz.func59, Tryz.ntmps59
  go_wp2
  go_ret
  exact ⟨ret_bool (by simp [coRB, h1]), (bal).alloc (by simp) _⟩
 go_enter Tryz.func59, Tryz.ntmps59
 go_wp2_with fail
 refine (coI_any xs ys ((h.alloc _).alloc _) ((h'.alloc _).alloc _) hn hm).mono ?_;rintro e w1 ⟨rfl, b1⟩
 go_wp2
 go_ret
 exact ⟨ret_bool (by simp [coRB, h1]), ((bal).alloc (by simp) _).trans (b1.mono (by simp; omega))⟩
end Go.Proofs.YtpmihhbgjimpmaaGreatDoor
