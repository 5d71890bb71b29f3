/-
  Lemmas that the claim's last text rests on.
-/
import Derived.OrdersIn
import Derived.OrdersHeld
import Derived.RangeFuncNested
import Derived.RangeFuncBound
import Derived.RangeFuncCalls
import Derived.RangeFuncLeaves
import Derived.Shelf.Abstract
import Derived.Shelf.RegionOpen
import Derived.OwnWalkIn
import Derived.TacticsInMore
import Derived.LoopNIn
import Derived.LoopIn
import Derived.Test.YtemcinobgdphnaaGreatQLO
namespace Go.Proofs.YtemcinobgdphnaaGreat
open Go.RowKit Go.Deep Go.Shelf
open World renaming size_alloc → qA
open List renaming setIfInBounds_toArray → qB, set_cons_zero → qC, set_cons_succ → qD, getElem_cons_zero → qE, getElem_cons_succ → qF, getElem_toArray → qG, length_cons → qH, length_nil → qI, size_toArray → qK
open Nat renaming le_refl → qJ
set_option linter.unusedVariables false
set_option maxRecDepth 100000
set_option maxHeartbeats 25600000
variable {X Y : World} {pre : List RowM}
section
variable {F : Fence} {n : Nat} {P : Program} {ops : Array Oper} {Q : Exit -> Act -> World -> Prop} {md : Region.Mode} {S : World -> Prop}
def Left (o : Oper) (a a' : Act) : Prop := ∃ u ds, a' = ({ a with defers := ds } : Act).put o.dst u
theorem wpIn_left {o : Oper} {a : Act} {w : World} {K : Act -> World -> Prop} (h : o.wpIn F n P a w K Q) : o.wpIn F n P a w (fun a' w' => Left o a a' /\ K a' w') Q := by
 unfold Oper.wpIn at *;refine ⟨h.1, ?_⟩;have h := h.2;generalize (o.semAt F.round a.eval).run P w = r at *
 cases r with
 | ok x w' =>
  cases x <;> simp only [Oper.uponIn] at h ⊢ <;>
   first
    | exact ⟨⟨_, _, rfl⟩, h⟩
    | exact ⟨h.1, CallsIn.mono h.2 (fun e w'' he => by cases e <;> first | exact ⟨⟨_, _, rfl⟩, he⟩ | exact he)⟩
    | exact ⟨h.1, RowsIn.mono h.2 (fun _ _ he => ⟨⟨_, _, rfl⟩, he⟩)⟩
    | exact ⟨h.1, RoundIn.mono h.2 (fun e w'' he => by cases e <;> first | exact ⟨⟨_, _, rfl⟩, he⟩ | exact he)⟩
    | exact h
 | halt x w' => cases x <;> simp only [Oper.uponIn] at h ⊢ <;> exact h
theorem wpOpIn_left {j : Nat} {oj : Oper} (hj : ops[j]? = some oj) {a : Act} {w : World} {K : Act -> World -> Prop} (h : wpOpIn F n P ops Q j K a w) : wpOpIn F n P ops Q j (fun a' w' => Left oj a a' /\ K a' w') a w := by
 unfold wpOpIn at *;simp only [hj] at *
 split
 ·rename_i hw
  simp only [hw, if_true] at h
  exact wpIn_left h
 rename_i hw
 simp only [hw] at h
 exact ⟨h.1, ⟨undef, a.defers, rfl⟩, h.2⟩
def YieldsS (P : Program) (ops : Array Oper) (S : World -> Prop) (o : Oper) (v : Value) (a : Act) : Prop := YieldsIf P ops S o v a /\ ∀ w, o.about P w a.eval = none
theorem YieldsS.left {oi oj : Oper} {v : Value} {a a' : Act} (hy : YieldsS P ops S oi v a) (hap : oi.apart ops oj = true) (hsi : ∀ cs b, oi.op ≠ .select cs b) (h : Left oj a a') : YieldsS P ops S oi v a' := by
 obtain ⟨u, ds, rfl⟩ := h;obtain ⟨h1, h2, h3⟩ := Oper.apart_spec hap;refine ⟨YieldsIf.of_same (a := ({ a with defers := ds } : Act)) (YieldsIf.of_same hy.1 rfl rfl) (execOp_put oi hsi _ oj.dst u h3) (wanted_put oi _ oj.dst u h3), fun w => ?_⟩;rw [about_put oi w _ oj.dst u h3]
 exact hy.2 w
theorem YieldsS.wpOpIn {i : Nat} {o : Oper} {v : Value} {a : Act} (hro : F.round = none) (hi : ops[i]? = some o) (hy : YieldsS P ops S o v a) {K : Act -> World -> Prop} {w : World} (hS : S w) (h : K (a.put o.dst v) w) : wpOpIn F n P ops Q i K a w := by
 unfold Go.wpOpIn;simp only [hi];have hab : ∀ f, o.about P w a.eval = some f -> F.fn f := fun f hf => by rw [hy.2 w] at hf; cases hf
 rcases hy.1 with ⟨hw, hv⟩ | ⟨hw, rfl⟩
 ·simp only [hw, if_true, Oper.wpIn, hro, Oper.semAt_none, hv w hS, Oper.uponIn]; exact ⟨hab, h⟩
 simp only [hw, Bool.false_eq_true, if_false]; exact ⟨hab, h⟩
def still (oi : Oper) (v : Value) : Oper := { oi with op := .move (.const v), guard := none, after := #[] }
theorem still_yields (oi : Oper) (v : Value) (a : Act) : YieldsFenced P ops (still oi v) v a := by
 refine ⟨.inl ⟨rfl, fun w => ?_⟩, fun w => rfl⟩;simp [still, execOp, Act.eval]
theorem still_apart {oi oj : Oper} {v : Value} (h : oi.apart ops oj = true) : (still oi v).apart ops oj = true := by
 simp only [Oper.apart, Bool.and_eq_true] at h ⊢;refine ⟨h.1, ?_⟩
 cases oj.dst with
 | none => rfl
 | some d => simp [still, Oper.looksAt, Op.operands]
theorem wpOpIn_putS {j : Nat} {oi oj : Oper} {v : Value} (hro : F.round = none) (hj : ops[j]? = some oj) (hap : oi.apart ops oj = true)
  (hsi : ∀ cs b, oi.op ≠ .select cs b) (hsj : ∀ cs b, oj.op ≠ .select cs b)
  (hQ : ∀ c a w, Q (.panic c) (a.put oi.dst v) w -> Q (.panic c) a w) {K : Act -> World -> Prop} {a : Act} {w : World}
  (hy : YieldsS P ops S oi v a) (h : wpOpIn F n P ops Q j K (a.put oi.dst v) w) :
  wpOpIn F n P ops Q j (fun a' w' => YieldsS P ops S oi v a' /\ K (a'.put oi.dst v) w') a w :=
 wpOpIn_mono (fun a' w' hh => ⟨hy.left hap hsi hh.1, hh.2.2⟩) (wpOpIn_left hj (wpOpIn_put (oi := still oi v) hro hj (still_apart hap) (fun cs b e => by cases e) hsj hQ (still_yields oi v a) h))
def wpAnyS (F : Fence) (n : Nat) (P : Program) (md : Region.Mode) (ops : Array Oper) (Q : Exit -> Act -> World -> Prop) (S : World -> Prop) : Nat -> Array Bool -> Act -> World -> Prop
 | 0, listed, a, w => Region.ready md ops listed = [] /\ Q .normal a w
 | fuel + 1, listed, a, w =>
  (Region.ready md ops listed = [] -> Q .normal a w) /\
  ∀ i ∈ Region.ready md ops listed, wpOpIn F n P ops Q i (fun a' w' => S w' /\ wpAnyS F n P md ops Q S fuel (listed.setIfInBounds i true) a' w') a w
theorem wpAnyIn_of_S : ∀ (fuel : Nat) (listed : Array Bool) (a : Act) (w : World), wpAnyS F n P md ops Q S fuel listed a w -> wpAnyIn F n P md ops Q fuel listed a w
 | 0, _, _, _, h => h
 | fuel + 1, _, _, _, h => ⟨h.1, fun i hi => wpOpIn_mono (fun a' w' h' => wpAnyIn_of_S fuel _ a' w' h'.2) (h.2 i hi)⟩
theorem wpAnyS_first {i : Nat} {oi : Oper} {v : Value} (hro : F.round = none) (hi : ops[i]? = some oi) (hsel : ∀ (j : Nat) (o : Oper) cs b, ops[j]? = some o -> o.op ≠ .select cs b)
  (hQ : ∀ c a w, Q (.panic c) (a.put oi.dst v) w -> Q (.panic c) a w) :
  ∀ (fuel : Nat) (listed : Array Bool) (a : Act) (w : World),
   (∀ j oj, ops[j]? = some oj -> j ≠ i -> listed.getD j true = false -> (∀ e ∈ oj.after, Region.binds md e = true -> e.on ≠ i) -> oi.apart ops oj = true) ->
   i ∈ Region.ready md ops listed -> YieldsS P ops S oi v a -> S w ->
   wpAnyS F n P md ops Q S fuel (listed.setIfInBounds i true) (a.put oi.dst v) w -> wpAnyS F n P md ops Q S (fuel + 1) listed a w := by
 intro fuel
 induction fuel with
 | zero =>
  intro listed a w _ hr hy hS H;refine ⟨fun h => (by rw [h] at hr; cases hr), fun j hj => ?_⟩
  by_cases hji : j = i
  ·subst hji; exact hy.wpOpIn hro hi hS ⟨hS, H⟩
  have := ready_mono hj hji;rw [H.1] at this
  cases this
 | succ fuel ih =>
  intro listed a w hfree hr hy hS H;refine ⟨fun h => (by rw [h] at hr; cases hr), fun j hj => ?_⟩
  by_cases hji : j = i
  ·subst hji; exact hy.wpOpIn hro hi hS ⟨hS, H⟩
  have h1 := H.2 j (ready_mono hj hji);obtain ⟨hjun, oj, hoj, hall⟩ := mem_ready.1 hj;have h2 := wpOpIn_putS hro hoj (hfree j oj hoj hji hjun (not_waits (i := i) (j := j) hr hall)) (fun cs b => hsel i oi cs b hi) (fun cs b => hsel j oj cs b hoj) hQ hy h1
  have hfree' : ∀ k ok, ops[k]? = some ok -> k ≠ i -> (listed.setIfInBounds j true).getD k true = false ->
    (∀ e ∈ ok.after, Region.binds md e = true -> e.on ≠ i) -> oi.apart ops ok = true := fun k ok hk hki hun hno => by
   refine hfree k ok hk hki ?_ hno
   by_cases hjk : j = k
   ·subst hjk; exact hjun
   rw [getD_set_ne true hjk] at hun; exact hun
  refine wpOpIn_mono (fun a' w' h3 => ⟨h3.2.1, ih (listed.setIfInBounds j true) a' w' hfree' (ready_mono hr (Ne.symm hji)) h3.1 h3.2.1 ?_⟩) h2;rw [Array.setIfInBounds_comm _ _ hji]
  exact h3.2.2
theorem wpAnyS_take {i : Nat} {oi : Oper} {v : Value} {fuel : Nat} {listed : Array Bool} {a : Act} {w : World} (hro : F.round = none) (hi : ops[i]? = some oi)
  (hs : Region.noSelect ops = true) (hf : Region.free md ops listed i = true) (hr : (Region.ready md ops listed).contains i = true)
  (hQ : ∀ c a w, Q (.panic c) (a.put oi.dst v) w -> Q (.panic c) a w) (hy : YieldsIf P ops S oi v a) (hab : ∀ w, oi.about P w a.eval = none) (hS : S w)
  (h : wpAnyS F n P md ops Q S fuel (listed.setIfInBounds i true) (a.put oi.dst v) w) : wpAnyS F n P md ops Q S (fuel + 1) listed a w :=
 wpAnyS_first hro hi (Region.noSelect_spec hs) hQ fuel listed a w (Region.free_spec hi hf) (by simpa using hr) ⟨hy, hab⟩ hS h
theorem tks (i : Nat) {oi : Oper} {v : Value} {fuel : Nat} {listed : Array Bool} {a : Act} {w : World} (hro : F.round = none) (hi : ops[i]? = some oi) (hS : S w)
  (h : wpAnyS F n P md ops Q S fuel (listed.setIfInBounds i true) (a.put oi.dst v) w)
  (hw : Region.wanted oi (yielded ops a.tmps) = true := by rfl)
  (hy : ∀ w, S w -> (execOp a.eval oi).run P w = .ok (.value v) w := by (intro wz hSw; (try dsimp only at hSw); go_simp; try (with_reducible rfl)))
  (hab : ∀ w, oi.about P w a.eval = none := by exact fun _ => rfl)
  (hs : Region.noSelect ops = true := by kernel_rfl) (hf : Region.free md ops listed i = true := by kernel_rfl) (hr : (Region.ready md ops listed).contains i = true := by kernel_rfl)
  (hQ : ∀ c a w, Q (.panic c) (a.put oi.dst v) w -> Q (.panic c) a w := by exact fun _ _ _ h => h) : wpAnyS F n P md ops Q S (fuel + 1) listed a w :=
 wpAnyS_take hro hi hs hf hr hQ (Or.inl ⟨hw, hy⟩) hab hS h
theorem wpAnyS_one {i : Nat} {o : Oper} {fuel : Nat} {listed : Array Bool} {a : Act} {w : World} (hr : Region.ready md ops listed = [i]) (ho : ops[i]? = some o)
  (h : ∀ K' : Act -> World -> Prop, Shut (∀ a w, S w -> wpAnyS F n P md ops Q S fuel (listed.setIfInBounds i true) a w -> K' a w) -> if Region.wanted o (yielded ops a.tmps) = true then Oper.wpIn F n P o a w K' Q else (∀ f, o.about P w a.eval = some f -> F.fn f) /\ K' (a.put o.dst undef) w) : wpAnyS F n P md ops Q S (fuel + 1) listed a w := by
 refine ⟨fun h0 => (by rw [hr] at h0; cases h0), fun j hj => ?_⟩;rw [hr] at hj
 rcases List.mem_cons.1 hj with rfl | hj
 ·exact wpOpIn_step ho (fun K' hK => h K' (fun a w hS hW => hK a w ⟨hS, hW⟩))
 cases hj
theorem wpAnyS_done {listed : Array Bool} {a : Act} {w : World} (hr : Region.ready md ops listed = []) (h : Q .normal a w) : ∀ fuel, wpAnyS F n P md ops Q S fuel listed a w
 | 0 => ⟨hr, h⟩
 | _ + 1 => ⟨fun _ => h, by rw [hr]; simp⟩
theorem wpIn_region_S {id : Nat} {a : Act} {w : World} (S : World -> Prop) (hm : P.follows .mixedOrders = true)
  (h : wpAnyS F n P .any ops Q S ops.size (Array.replicate ops.size false) a w.drew) : (Code.region id ops true).wpIn F n P Q a w :=
 wpIn_region_any hm (wpAnyIn_of_S _ _ _ _ h)
end
section
variable {P : Program} {n : Nat} {α : Type}
def roundOn (B : Nat) (Kp : World -> World -> Prop) (I : List α -> World -> Prop) (xs : List α) (W : World) : Exit -> Act -> World -> Prop
 | .normal, _, W' => KeepsFrom B W W' /\ Kp W W' /\ I xs W'
 | _, _, _ => False
theorem wpIn_rows {g : Operand} {ps : Array Tmp} {assign body : Code} {Q : Exit -> Act -> World -> Prop} {a : Act} {w : World} {gf : Nat} {lb : Array Value}
  (hg : a.eval g = .func (.func gf) #[] lb) (eg : ∀ args w, (callFunc gf args).run P w = .ok (.enter gf args) w)
  {encs : α -> Array Value} (hps : ∀ x, (encs x).size = ps.size) (A : List α -> α -> World -> Prop) (Kp : World -> World -> Prop) (Sx : List α -> Prop) (I : List α -> World -> Prop)
  (hI : ∀ pre X Y, I pre X -> Below X.heap.size X Y -> I pre Y) (hIb : ∀ pre X l r r', I pre X -> X.heap[l]? = some (.loop r) -> w.heap.size < l -> I pre (X.putObj l (.loop r')))
  (hKb : ∀ X l r r', X.heap[l]? = some (.loop r) -> Kp X (X.putObj l (.loop r'))) (hKt : ∀ X Y Z, Kp X Y -> Kp Y Z -> Kp X Z) (h0 : I [] w)
  (hseq : ∀ (l : Nat) (J : List α -> World -> Prop) (W : World), (∀ pre X Y, J pre X -> Below X.heap.size X Y -> J pre Y) -> Below w.heap.size w W -> J [] W ->
   (∀ m pre x X, J pre X -> A pre x X -> YieldAt Fence.wide m P l (encs x) X fun e Y => e = .returned (.bool true) /\ J (pre ++ [x]) Y /\ Kp X Y) ->
   CallsIn Fence.wide (n - 1) P gf (#[.func (.yield l) #[] #[]] ++ lb) W fun e Y => (∃ v, e = .returned v) /\ ∃ xs, Sx xs /\ J xs Y)
  (hround : ∀ (m l : Nat) (pre : List α) (x : α) (X : World) (r : Loop), I pre X -> A pre x X -> X.heap[l]? = some (.loop r) -> w.heap.size < l ->
   assign.wpIn (Fence.wide.inRound l) m P (Exit.then (fun a' Y => KeepsFrom w.heap.size X Y /\ Kp X Y /\ body.wpIn (Fence.wide.inRound l) m P (roundOn w.heap.size Kp I (pre ++ [x]) (Y.putObj l (.loop { r with state := .busy }))) a' (Y.putObj l (.loop { r with state := .busy }))) (fun _ _ _ => False))
    { tmps := (ps.zip (encs x)).foldl (fun t (p, v) => t.setIfInBounds p v) a.tmps, defers := [] } X)
  (hdone : ∀ (D : Nat) (xs : List α) (W : World), w.heap.size <= D -> Sx xs -> I xs W -> W.heap[D]? = some (.deferred (some [])) -> Q .normal { a with defers := { target := .collected D, args := #[] } :: a.defers } W) :
  (Code.rangeFunc g ps assign body).wpIn Fence.wide n P Q a w := by
 refine wpIn_rangeFunc ?_;intro fn _;obtain ⟨r0, hr0⟩ : ∃ r0 : Loop, r0 = { state := .ready, pending := none, fn, tmps := a.tmps, params := ps, assign, body, defers := w.heap.size } := ⟨_, rfl⟩
 obtain ⟨W1, hW1⟩ : ∃ W1, W1 = (w.alloc (.deferred (some []))).alloc (.loop r0) := ⟨_, rfl⟩
 have b1 : Below w.heap.size w W1 := by rw [hW1]; exact ((Below.refl _ w).alloc (qJ _) _).alloc (by simp) _
 have hL : W1.heap[w.heap.size + 1]? = some (.loop r0) := by
  rw [hW1]; have := World.alloc_heap_new (w.alloc (.deferred (some []))) (.loop r0); rwa [qA] at this
 have hD : W1.heap[w.heap.size]? = some (.deferred (some [])) := by
  rw [hW1]; exact (Below.heap_alloc _ _ _ (by simp)).trans (World.alloc_heap_new w _)
 refine ⟨w.heap.size + 1, [{ target := .collected w.heap.size, args := #[] }], W1, { target := .fn (.func gf) lb, args := #[.func (.yield (w.heap.size + 1)) #[] #[]] }, W1, gf, #[.func (.yield (w.heap.size + 1)) #[] #[]] ++ lb, W1, ?_, ?_, ?_, ?_, ?_, ?_⟩
 ·rw [hW1, hr0]; exact run_enterLoop_outer _ _ _ _ _
 ·simp only [resolve, hg];simp [go_sem]
 ·intro f' _; trivial
 ·simp [invoke, go_sem, eg]
 ·intro h; simp [Fence.wide] at h
 refine (hseq (w.heap.size + 1) (fun pre W => I pre W /\ W.heap[w.heap.size + 1]? = some (.loop r0) /\ W.heap[w.heap.size]? = some (.deferred (some []))) W1 ?_ b1 ⟨hI _ _ _ h0 b1, hL, hD⟩ ?_).mono ?_
 ·rintro pre X Y ⟨i1, i2, i3⟩ hb
  exact ⟨hI _ _ _ i1 hb, (hb.block _ (Array.getElem?_eq_some_iff.1 i2).1).trans i2, (hb.block _ (Array.getElem?_eq_some_iff.1 i3).1).trans i3⟩
 ·rintro m pre x X ⟨i1, i2, i3⟩ hA;have hy := run_yield (P := P) (args := encs x) i2 (by rw [hr0]; exact hps x);rw [hr0] at hy;refine ⟨fn, _, assign, body, hy, roundIn_of_wpIn trivial (wpIn_mono (hround m _ pre x X r0 i1 hA i2 (by omega)) ?_)⟩;rintro e a' Y hp
  cases e with
  | normal =>
   obtain ⟨k1, k2, hb⟩ := hp;have j2 := k1.same _ _ (by omega) i2 rfl;have j3 := k1.same _ _ (qJ _) i3 rfl;refine ⟨_, run_beginRound j2 (by rw [hr0]), wpIn_mono hb ?_⟩;rintro e a'' Z hq
   cases e with
   | normal =>
    obtain ⟨q1, q2, q3⟩ := hq;have hl : w.heap.size + 1 < Y.heap.size := (Array.getElem?_eq_some_iff.1 j2).1;have m2 := q1.same _ _ (by omega) (World.putObj_heap_same (o := .loop { r0 with state := .busy }) hl) rfl;have m3 := q1.same _ _ (qJ _) ((World.putObj_heap_other (by omega)).trans j3) rfl;have hz : w.heap.size + 1 < Z.heap.size := (Array.getElem?_eq_some_iff.1 m2).1;refine ⟨_, _, run_endRound none m2, rfl, ⟨hIb _ _ _ _ _ q3 m2 (by omega), ?_, (World.putObj_heap_other (by omega)).trans m3⟩, hKt _ _ _ (hKt _ _ _ (hKt _ _ _ k2 (hKb _ _ _ _ j2)) q2) (hKb _ _ _ _ m2)⟩;rw [World.putObj_heap_same hz, hr0]
    rfl
   | ret => exact hq.elim
   | exit id => exact hq.elim
   | goto t => exact hq.elim
   | panic c => exact hq.elim
   | outgrown => exact hq.elim
  | ret => exact hp.elim
  | exit id => exact hp.elim
  | goto t => exact hp.elim
  | panic c => exact hp.elim
  | outgrown => exact hp.elim
 rintro e W2 ⟨⟨v, rfl⟩, xs, hS, i1, i2, i3⟩
 exact ⟨none, _, by have := run_endLoop (P := P) i2 (by rw [hr0]; simp); rw [hr0] at this; rw [hr0] at i2; exact this, hdone _ xs _ (qJ _) hS (hIb _ _ _ _ _ i1 i2 (by omega)) ((World.putObj_heap_other (by omega)).trans i3)⟩
end
def Loose (o : Option Obj) : Prop := ∀ cs t fr, o = some (.cells cs t fr) -> (t = 4 \/ t = 76 \/ t = 130) /\ ∀ (i : Nat) q, cs[i]? ≠ some (.int .i64 q)
def KpR (X Y : World) : Prop := Touch (fun k => Loose X.heap[k]?) X Y
theorem KpR.refl (X : World) : KpR X X := Touch.refl _ _
theorem KpR.of (h : Below X.heap.size X Y) : KpR X Y := Touch.of h
theorem KpR.trans {Z : World} (h : KpR X Y) (k : KpR Y Z) : KpR X Z :=
 ⟨k.os.trans h.os, k.tape.trans h.tape, k.output.trans h.output, Nat.le_trans h.size k.size, fun i hi hn => by
  have e := h.block i hi hn;rw [k.block i (Nat.lt_of_lt_of_le hi h.size) (fun hl => hn (by rw [e] at hl; exact hl))]
  exact e⟩
theorem KpR.loop (X : World) (l : Nat) (r r' : Loop) (h : X.heap[l]? = some (.loop r)) : KpR X (X.putObj l (.loop r')) := by
 refine ⟨rfl, rfl, rfl, by simp [World.putObj], fun k hk hn => ?_⟩
 by_cases e : k = l
 ·subst e
  exact absurd (fun cs t fr hh => by rw [h] at hh; cases hh) hn
 exact World.putObj_heap_other e
theorem not_loose {b o : Nat} {q : Int} (h : X.cell? ⟨b, o, none⟩ = some (.int .i64 q)) : ¬ Loose X.heap[b]? := fun hl => by
 simp only [World.cell?] at h
 split at h
 ·rename_i c t fr hh
  have := (hl _ _ _ hh).2 o q;simp at h
  exact this (by simpa using h)
 cases h
theorem Ints.keepR {a : Option Addr} {n : Nat} {zs : List Int} (h : Ints X a n zs) (k : KpR X Y) : Ints Y a n zs := by
 refine ⟨h.1, fun i hi => ?_⟩;obtain ⟨b, off, e, hc⟩ := h.2 i hi;refine ⟨b, off, e, ?_⟩;rw [World.cell?_of_block (k.block b (block_lt hc) (not_loose hc))]; exact hc
theorem FormsAt.keepR {a : Option Addr} {fs : List Frm} (h : FormsAt X a fs) (k : KpR X Y) : FormsAt Y a fs := fun i hi => by
 obtain ⟨b, off, e, a', c', ca, cc, c0, c1, c2, iC, iD⟩ := h i hi;have hb := k.block b (block_lt c0) (not_loose c2)
 exact ⟨b, off, e, a', c', ca, cc, by rw [World.cell?_of_block hb]; exact c0, by rw [World.cell?_of_block hb]; exact c1, by rw [World.cell?_of_block hb]; exact c2, iC.keepR k, iD.keepR k⟩
theorem Cel.keepR {B : Nat} {vs : List Value} {t : TypeId} (h : Cel X B vs t) (k : KpR X Y) (h1 : t ≠ 4) (h2 : t ≠ 76) (h3 : t ≠ 130 := by decide) : Cel Y B vs t := by
 have hl := h.lt;unfold Cel at *;rw [k.block B hl (fun hl => by rcases (hl _ _ _ h).1 with e | e | e <;> contradiction)]; exact h
attribute [local go_sem] Oper.semAt_some
abbrev walkV (l : Nat) (sa : Option Addr) (N sc : Nat) : Value := .agg #[.slice sa N sc, .func (.yield l) #[] #[]]
def Went (J D : List RowM -> World -> Prop) (pre gs : List RowM) (b : Bool) (Y : World) : Prop := (b = true /\ J (pre ++ gs) Y) \/ (b = false /\ ∃ ms rest, gs = ms ++ rest /\ D (pre ++ ms) Y)
theorem Went.fst {J D : List RowM -> World -> Prop} {g1 g2 : List RowM} (h : Went J D pre g1 false Y) : Went J D pre (g1 ++ g2) false Y := by
 rcases h with ⟨h, _⟩ | ⟨_, ms, rest, rfl, d⟩
 ·cases h
 exact Or.inr ⟨rfl, ms, rest ++ g2, by rw [List.append_assoc], d⟩
theorem Went.snd {J D : List RowM -> World -> Prop} {g1 g2 : List RowM} {b : Bool} (h : Went J D (pre ++ g1) g2 b Y) : Went J D pre (g1 ++ g2) b Y := by
 rcases h with ⟨rfl, j⟩ | ⟨rfl, ms, rest, rfl, d⟩
 ·exact Or.inl ⟨rfl, by rw [<- List.append_assoc]; exact j⟩
 exact Or.inr ⟨rfl, g1 ++ ms, rest, by rw [List.append_assoc], by rw [<- List.append_assoc]; exact d⟩
theorem Went.on {J D : List RowM -> World -> Prop} {gs : List RowM} (h : Went J D pre gs true Y) : J (pre ++ gs) Y := by
 rcases h with ⟨_, j⟩ | ⟨h, _⟩
 ·exact j
 cases h
def RoundsD (l n₀ : Nat) (J D : List RowM -> World -> Prop) (M : Nat) : Prop := ∀ (m : Nat) (pre : List RowM) (v : Value) (r : RowM) (X : World), J pre X -> RowFit r -> RowX X n₀ v r -> pre.length < M -> YieldAt Fence.wide m Tryz.prog l #[v] X fun e Y => ∃ b : Bool, e = .returned (.bool b) /\ Went J D pre [r] b Y /\ KpR X Y
def Rounds (l n₀ : Nat) (J : List RowM -> World -> Prop) (M : Nat) : Prop := ∀ (m : Nat) (pre : List RowM) (v : Value) (r : RowM) (X : World), J pre X -> RowFit r -> RowX X n₀ v r -> pre.length < M -> YieldAt Fence.wide m Tryz.prog l #[v] X fun e Y => e = .returned (.bool true) /\ J (pre ++ [r]) Y /\ KpR X Y
theorem Rounds.noD {l n₀ : Nat} {J : List RowM -> World -> Prop} {M : Nat} (h : Rounds l n₀ J M) : RoundsD l n₀ J (fun _ _ => False) M := fun m pre v r X a b c d => by
 obtain ⟨fn, tmps, assign, body, hy, hR⟩ := h m pre v r X a b c d
 exact ⟨fn, tmps, assign, body, hy, hR.mono (fun e Y ⟨e1, e2, e3⟩ => ⟨true, e1, Or.inl ⟨rfl, e2⟩, e3⟩)⟩
theorem from_end (l n₀ : Nat) (J D : List RowM -> World -> Prop) (hJ : ∀ pre X Y, J pre X -> Below X.heap.size X Y -> J pre Y) (M : Nat) (hY : RoundsD l n₀ J D M) (sa : Option Addr) (N sc : Nat) (i0 : Nat) (hi : N <= i0) (hi1 : i0 <= 12) (y : Way) (pa : Option Addr) (cp : Nat) (ga : Option Addr) (ng gc : Nat) (ta : Option Addr) (nt tc : Nat) (st : Bool) (q : RowM) (pre : List RowM) (W : World) (n : Nat) (hn0 : n₀ <= W.heap.size) (h0 : J pre W) (hq : RowFit q) (hM : pre.length < M)
  (hrow : ∀ X, Below W.heap.size W X -> Calls Tryz.prog 134 #[wayV ga ng gc pa cp ta nt tc st] X fun e X' => ∃ v, e = .returned v /\ Below X.heap.size X X' /\ RowX X' X.heap.size v q) :
  CallsIn Fence.wide n Tryz.prog 111 #[walkV l sa N sc, .int .i64 (i0 : Int), wayV ga ng gc pa cp ta nt tc st] W fun e W' => ∃ b : Bool, e = .returned (.bool b) /\ Went J D pre [q] b W' /\ KpR W W' := by
 have hge : (N : Int) <= i0 := by omega
 have A : Below W.heap.size W ((W.alloc (.cells #[.slice sa N sc, .func (.yield l) #[] #[]] 141)).alloc (.cells #[.slice ga ng gc, .slice pa 3 cp, .slice ta nt tc, .bool st] 144)) := (bal).alloc (by simp) _;have x0 := (Cel.new W [.slice sa N sc, .func (.yield l) #[] #[]] 141).alloc (.cells #[.slice ga ng gc, .slice pa 3 cp, .slice ta nt tc, .bool st] 144);have y0 := Cel.new (W.alloc (.cells #[.slice sa N sc, .func (.yield l) #[] #[]] 141)) [.slice ga ng gc, .slice pa 3 cp, .slice ta nt tc, .bool st] 144;rw [qA] at y0;refine callsIn_of_wp Tryz.func111 rfl trivial ?_ rfl;simp only [Tryz.ntmps111, qK, qH, qI, Nat.reduceAdd, Nat.reduceSub, Array.replicate_succ, Array.replicate_zero, List.push_toArray, List.append_toArray, List.nil_append, List.cons_append]
 gi_wp2_with fail
 obtain ⟨W0, hW0⟩ : ∃ W0, W0 = (W.alloc (.cells #[.slice sa N sc, .func (.yield l) #[] #[]] 141)).alloc (.cells #[.slice ga ng gc, .slice pa 3 cp, .slice ta nt tc, .bool st] 144) := ⟨_, rfl⟩
 rw [<- hW0] at A x0 y0 ⊢;clear hW0
 have KP : Hid (∀ X, KpR W0 X -> ((X.cell? ⟨W.heap.size, 0, none⟩ = some (.slice sa N sc) /\ X.cell? ⟨W.heap.size, 1, none⟩ = some (.func (.yield l) #[] #[])) /\ (X.cell? ⟨W.heap.size + 1, 0, none⟩ = some (.slice ga ng gc) /\ X.cell? ⟨W.heap.size + 1, 1, none⟩ = some (.slice pa 3 cp) /\ X.cell? ⟨W.heap.size + 1, 2, none⟩ = some (.slice ta nt tc) /\ X.cell? ⟨W.heap.size + 1, 3, none⟩ = some (.bool st)))) := fun X hX => by
  have a1 := x0.keepR hX (by decide) (by decide);have a2 := y0.keepR hX (by decide) (by decide)
  exact ⟨⟨a1.cell 0, a1.cell 1⟩, a2.four⟩
 have e0 : Below W0.heap.size W0 W0.drew := (Below.refl _ _).drew;have hSS := KP.out _ (KpR.of e0);refine wpIn_region_S (fun w' => (w'.cell? ⟨W.heap.size, 0, none⟩ = some (.slice sa N sc) /\ w'.cell? ⟨W.heap.size, 1, none⟩ = some (.func (.yield l) #[] #[])) /\ (w'.cell? ⟨W.heap.size + 1, 0, none⟩ = some (.slice ga ng gc) /\ w'.cell? ⟨W.heap.size + 1, 1, none⟩ = some (.slice pa 3 cp) /\ w'.cell? ⟨W.heap.size + 1, 2, none⟩ = some (.slice ta nt tc) /\ w'.cell? ⟨W.heap.size + 1, 3, none⟩ = some (.bool st))) (by kernel_rfl) ?_;refine tks 0 rfl rfl hSS ?_;refine tks 1 rfl rfl hSS ?_;refine tks 2 rfl rfl hSS ?_;clear hSS;refine wpAnyS_one (i := 3) (by kernel_rfl) rfl (fun K hK => ?_);go_simp;refine ⟨trivial, fun h => by simp [Fence.wide] at h, (callsIn_wide.2 (hrow _ (btr A e0))).mono ?_⟩;rintro e w1 ⟨v, rfl, bd1, rx⟩;have b1 : Below W0.heap.size W0 w1 := below_of_drew bd1;have hS1 := KP.out _ (KpR.of b1);have J1 := hJ _ _ _ h0 (btr A b1);have sA := A.size
 have rx' : RowX w1 n₀ v q := by
  obtain ⟨ga', gc', aa, ac, ta', tc', e, f0, f1, f2⟩ := rx;have hs : n₀ <= W0.drew.heap.size := by show n₀ <= W0.heap.size; omega
  exact ⟨ga', gc', aa, ac, ta', tc', e, f0.mono (fun k hk => by omega), f1.mono (fun k hk => by omega), f2.mono (fun k hk => by omega)⟩
 (try dsimp only);refine hK.out _ _ hS1 ?_;clear hK K bd1 rx;obtain ⟨fn, tmps, assign, body, hy, hR⟩ := hY (n - 1) pre v q w1 J1 hq rx' hM;refine wpAnyS_one (i := 4) (by kernel_rfl) rfl (fun K hK => ?_);go_simp;refine ⟨fun h => by simp [Fence.wide] at h, hR.mono ?_⟩;rintro e w2 ⟨b2, rfl, J2, k2⟩;have K2 := (KpR.of b1).trans k2;have hS2 := KP.out _ K2;(try dsimp only);refine hK.out _ _ hS2 ?_;clear hK K hR hy;refine wpAnyS_one (i := 5) (by kernel_rfl) rfl (fun K hK => ?_);go_simp;refine hK.out _ _ hS2 ?_;refine wpAnyS_done (by kernel_rfl) ?_ _;have KK := (KpR.of A).trans K2;clear KP hS1 hS2 x0 y0
 gi_wp2
 go_ret
 exact ⟨b2, rfl, J2, KK⟩
attribute [local go_sem] Oper.semAt_some
abbrev goV (l : Nat) (sa : Option Addr) (N sc : Nat) : Value := .func (.func 111) #[walkV l sa N sc] #[]
def GoesOn (l : Nat) (sa : Option Addr) (N sc : Nat) (i : Int) (v : Value) (J : Bool -> World -> Prop) (X : World) : Prop := ∀ m, CallsIn Fence.wide m Tryz.prog 111 #[walkV l sa N sc, .int .i64 i, v] X fun e Y => ∃ b : Bool, e = .returned (.bool b) /\ J b Y /\ KpR X Y
theorem is_test_test (v : Value) (w : World) : (Instr.typeAssert (.iface 179 v) 149 179 true).run Tryz.prog w = .ok (.tuple #[v, .bool true]) w := by kernel_rfl
theorem is_add_test (v : Value) (w : World) : (Instr.typeAssert (.iface 181 v) 149 179 true).run Tryz.prog w = .ok (.tuple #[.agg #[.int .i64 0, .slice none 0 0, .slice none 0 0, .int .i64 0], .bool false]) w := by kernel_rfl
theorem is_add_add (v : Value) (w : World) : (Instr.typeAssert (.iface 181 v) 149 181 true).run Tryz.prog w = .ok (.tuple #[v, .bool true]) w := by kernel_rfl
theorem is_add_print (v : Value) (w : World) : (Instr.typeAssert (.iface 181 v) 149 183 true).run Tryz.prog w = .ok (.tuple #[.agg #[.slice none 0 0, .slice none 0 0, .int .i64 0], .bool false]) w := by kernel_rfl
theorem is_print_test (v : Value) (w : World) : (Instr.typeAssert (.iface 183 v) 149 179 true).run Tryz.prog w = .ok (.tuple #[.agg #[.int .i64 0, .slice none 0 0, .slice none 0 0, .int .i64 0], .bool false]) w := by kernel_rfl
theorem is_print_add (v : Value) (w : World) : (Instr.typeAssert (.iface 183 v) 149 181 true).run Tryz.prog w = .ok (.tuple #[.agg #[.int .i64 0, .slice none 0 0, .slice none 0 0, .int .i64 0], .bool false]) w := by kernel_rfl
theorem is_print_print (v : Value) (w : World) : (Instr.typeAssert (.iface 183 v) 149 183 true).run Tryz.prog w = .ok (.tuple #[v, .bool true]) w := by kernel_rfl
theorem is_stop_test (v : Value) (w : World) : (Instr.typeAssert (.iface 184 v) 149 179 true).run Tryz.prog w = .ok (.tuple #[.agg #[.int .i64 0, .slice none 0 0, .slice none 0 0, .int .i64 0], .bool false]) w := by kernel_rfl
theorem is_stop_add (v : Value) (w : World) : (Instr.typeAssert (.iface 184 v) 149 181 true).run Tryz.prog w = .ok (.tuple #[.agg #[.int .i64 0, .slice none 0 0, .slice none 0 0, .int .i64 0], .bool false]) w := by kernel_rfl
theorem is_stop_print (v : Value) (w : World) : (Instr.typeAssert (.iface 184 v) 149 183 true).run Tryz.prog w = .ok (.tuple #[.agg #[.slice none 0 0, .slice none 0 0, .int .i64 0], .bool false]) w := by kernel_rfl
theorem past_stop (l : Nat) {sa : Option Addr} (N sc : Nat) {nx : Int} (ga : Option Addr) (ng gc : Nat) (pa : Option Addr) (cp : Nat) (ta : Option Addr) (nt tc : Nat) {J : Bool -> World -> Prop} (W : World) (n : Nat)
  (hgo : ∀ X, Below W.heap.size W X -> GoesOn l sa N sc 6 (wayV ga ng gc pa cp ta nt tc true) J X) :
  CallsIn Fence.wide n Tryz.prog 135 #[wayV ga ng gc pa cp ta nt tc false, .iface 184 (.agg #[]), .int .i64 nx, goV l sa N sc] W fun e Y => ∃ b : Bool, e = .returned (.bool b) /\ J b Y /\ KpR W Y := by
 have hdd : ∀ k : Nat, (Fence.wide.depth.isSome = true -> 1 <= k) := fun k h => by simp [Fence.wide] at h
 refine callsIn_of_wp Tryz.func135 rfl trivial ?_ rfl;simp only [Tryz.ntmps135, qK, qH, qI, Nat.reduceAdd, Nat.reduceSub, Array.replicate_succ, Array.replicate_zero, List.push_toArray, List.append_toArray, List.nil_append, List.cons_append];have t1 := is_stop_test;have t2 := is_stop_add;have t3 := is_stop_print;have A : Below W.heap.size W (W.alloc (.cells #[.slice ga ng gc, .slice pa 3 cp, .slice ta nt tc, .bool true] 144)) := bal;have hc := hgo _ A
 gi_wp2_with fail
 refine ⟨trivial, hdd _, (hc _).mono ?_⟩;rintro e w1 ⟨z1, rfl, j1, k1⟩;have kk := (KpR.of A).trans k1;clear hc
 gi_wp2
 go_ret
 exact ⟨z1, rfl, j1, kk⟩
theorem past_print (l : Nat) {sa : Option Addr} (N sc : Nat) {nx : Int} (i : Nat) (y : Way) (hy : WayOk i y) (h6 : i <= 5) (g : FV) (hs : smallB g.n g.m g.C g.D g.K = true) (ga : Option Addr) (ng gc : Nat) (pa : Option Addr) (cp : Nat) (ta : Option Addr) (nt tc : Nat) {J : Bool -> World -> Prop} (W : World) (n : Nat) (hA : g.At W) (hP : FormsAt W pa y.pots) (hT : FormsAt W ta y.tells) (htl : y.tells.length = nt)
  (hgo : ∀ X ta' tc', Below W.heap.size W X -> FormsAt X ta' (y.tells ++ [intoX g y.pots]) -> GoesOn l sa N sc nx (wayV ga ng gc pa cp ta' (nt + 1) tc' false) J X) :
  CallsIn Fence.wide n Tryz.prog 135 #[wayV ga ng gc pa cp ta nt tc false, .iface 183 (.agg #[.slice g.a g.n g.cap, .slice g.c g.m g.cap', .int .i64 g.K]), .int .i64 nx, goV l sa N sc] W fun e Y => ∃ b : Bool, e = .returned (.bool b) /\ J b Y /\ KpR W Y := by
 have hdd : ∀ k : Nat, (Fence.wide.depth.isSome = true -> 1 <= k) := fun k h => by simp [Fence.wide] at h
 obtain ⟨fit1, fit2, -⟩ := hy.into (by omega) (f := g) hs hA.D.1;have HF1 : Hid _ := fit1;have HF2 : Hid _ := fit2;have HY : Hid (WayOk i y) := hy;have HTL : Hid (y.tells.length = nt) := htl;have nt1 : nt <= 100 := by have := hy.tl; omega
 obtain ⟨FX, hFX⟩ : ∃ FX, FX = intoX g y.pots := ⟨_, rfl⟩
 have HFX : Hid (intoX g y.pots = FX) := hFX.symm;have lXC := fit2.c;have lXD := fit2.d;rw [<- hFX] at lXC lXD;clear fit1 fit2 hy htl hFX;have A0 : Below W.heap.size W ((W.alloc (.cells #[.slice ga ng gc, .slice pa 3 cp, .slice ta nt tc, .bool false] 144)).alloc (.cells #[.slice g.a g.n g.cap, .slice g.c g.m g.cap', .int .i64 g.K] 183)) := (bal).alloc (by simp) _;have x0 := (Cel.new W [.slice ga ng gc, .slice pa 3 cp, .slice ta nt tc, .bool false] 144).alloc (.cells #[.slice g.a g.n g.cap, .slice g.c g.m g.cap', .int .i64 g.K] 183);have y0 := Cel.new (W.alloc (.cells #[.slice ga ng gc, .slice pa 3 cp, .slice ta nt tc, .bool false] 144)) [.slice g.a g.n g.cap, .slice g.c g.m g.cap', .int .i64 g.K] 183;rw [qA] at y0;have t0 := is_print_test;have t1 := is_print_add;have t2 := is_print_print;refine callsIn_of_wp Tryz.func135 rfl trivial ?_ rfl;simp only [Tryz.ntmps135, qK, qH, qI, Nat.reduceAdd, Nat.reduceSub, Array.replicate_succ, Array.replicate_zero, List.push_toArray, List.append_toArray, List.nil_append, List.cons_append]
 gi_wp2_with fail
 obtain ⟨W0, hW0⟩ : ∃ W0, W0 = (W.alloc (.cells #[.slice ga ng gc, .slice pa 3 cp, .slice ta nt tc, .bool false] 144)).alloc (.cells #[.slice g.a g.n g.cap, .slice g.c g.m g.cap', .int .i64 g.K] 183) := ⟨_, rfl⟩
 rw [<- hW0] at A0 x0 y0 ⊢;clear hW0;have KA : Hid (∀ X, KpR W0 X -> Cel X W.heap.size [.slice ga ng gc, .slice pa 3 cp, .slice ta nt tc, .bool false] 144) := fun X hX => x0.keepR hX (by decide) (by decide);have KB : Hid (∀ X, KpR W0 X -> Cel X (W.heap.size + 1) [.slice g.a g.n g.cap, .slice g.c g.m g.cap', .int .i64 g.K] 183) := fun X hX => y0.keepR hX (by decide) (by decide);have KP : Hid (∀ X, KpR W0 X -> ((X.cell? ⟨W.heap.size, 0, none⟩ = some (.slice ga ng gc) /\ X.cell? ⟨W.heap.size, 1, none⟩ = some (.slice pa 3 cp) /\ X.cell? ⟨W.heap.size, 2, none⟩ = some (.slice ta nt tc) /\ X.cell? ⟨W.heap.size, 3, none⟩ = some (.bool false)) /\ (X.cell? ⟨W.heap.size + 1, 0, none⟩ = some (.slice g.a g.n g.cap) /\ X.cell? ⟨W.heap.size + 1, 1, none⟩ = some (.slice g.c g.m g.cap') /\ X.cell? ⟨W.heap.size + 1, 2, none⟩ = some (.int .i64 g.K)))) := fun X hX => ⟨(KA.out X hX).four, (KB.out X hX).cell 0, (KB.out X hX).cell 1, (KB.out X hX).cell 2⟩
 have e0 : Below W0.heap.size W0 W0.drew := (Below.refl _ _).drew;have hSS := KP.out _ (KpR.of e0);refine wpIn_region_S (fun w' => (w'.cell? ⟨W.heap.size, 0, none⟩ = some (.slice ga ng gc) /\ w'.cell? ⟨W.heap.size, 1, none⟩ = some (.slice pa 3 cp) /\ w'.cell? ⟨W.heap.size, 2, none⟩ = some (.slice ta nt tc) /\ w'.cell? ⟨W.heap.size, 3, none⟩ = some (.bool false)) /\ (w'.cell? ⟨W.heap.size + 1, 0, none⟩ = some (.slice g.a g.n g.cap) /\ w'.cell? ⟨W.heap.size + 1, 1, none⟩ = some (.slice g.c g.m g.cap') /\ w'.cell? ⟨W.heap.size + 1, 2, none⟩ = some (.int .i64 g.K))) (by kernel_rfl) ?_;refine tks 0 rfl rfl hSS ?_;refine tks 1 rfl rfl hSS ?_;refine tks 2 rfl rfl hSS ?_;refine tks 3 rfl rfl hSS ?_;refine tks 4 rfl rfl hSS ?_;refine tks 5 rfl rfl hSS ?_;refine tks 6 rfl rfl hSS ?_;clear hSS;refine wpAnyS_one (i := 7) (by kernel_rfl) rfl (fun K hK => ?_);go_simp;refine ⟨trivial, hdd _, (callsIn_wide.2 (iintoW_any HY.out (by omega) g hs (hA.below (btr A0 e0)) (hP.keep (btr A0 e0)))).mono ?_⟩;rintro e w1 ⟨B1, B2, c1, c2, rfl, bd1, y1, y2, y3, k1, k2⟩;rw [HFX.out] at k1 k2 ⊢;have b1 : Below W0.heap.size W0 w1 := below_of_drew bd1;have E1 := btr A0 b1;clear bd1 y1 y2 y3;(try dsimp only);refine hK.out _ _ (KP.out _ (KpR.of b1)) ?_;refine wpAnyS_one (i := 8) (by kernel_rfl) rfl (fun K hK => ?_);go_simp;refine ⟨trivial, hdd _, (callsIn_wide.2 (itell_any FX y.tells HTL.out nt1 (hT.keep E1) (k1.ints' lXC) (k2.ints' lXD))).mono ?_⟩;rintro e w2 ⟨G, cG, rfl, b2', F2⟩;have b2 := btr b1 b2'
 have E2 := btr A0 b2;have HG2 : Hid _ := hgo w2 _ cG E2 (by rw [HFX.out]; exact F2);clear k1 k2;(try dsimp only);refine hK.out _ _ (KP.out _ (KpR.of b2)) ?_;refine wpAnyS_one (i := 9) (by kernel_rfl) rfl (fun K hK => ?_);go_simp;refine ⟨trivial, hdd _, (HG2.out _).mono ?_⟩;rintro e w3 ⟨z3, rfl, j3, k3⟩;have K3 := (KpR.of b2).trans k3;have KK := (KpR.of A0).trans K3;(try dsimp only);refine hK.out _ _ (KP.out _ K3) ?_;refine wpAnyS_one (i := 10) (by kernel_rfl) rfl (fun K hK => ?_);go_simp;refine hK.out _ _ (KP.out _ K3) ?_;refine wpAnyS_done (by kernel_rfl) ?_ _;clear KP KA KB x0 y0 HG2
 gi_wp2
 go_ret
 exact ⟨z3, rfl, j3, KK⟩
theorem past_add (l : Nat) {sa : Option Addr} (N sc : Nat) {nx : Int} (i : Nat) (y : Way) (hy : WayOk i y) (h6 : i <= 5) (g : FV) (hs : smallB g.n g.m g.C g.D g.K = true) (ga : Option Addr) (ng gc : Nat) (pa : Option Addr) (cp : Nat) (ta : Option Addr) (nt tc : Nat) {J : Bool -> World -> Prop} (W : World) (n : Nat) (hA : g.At W) (hP : FormsAt W pa y.pots) (hT : FormsAt W ta y.tells) (htl : y.tells.length = nt)
  (p : Nat) (hp : p < 3) (hgo : ∀ X pa' cp', Below W.heap.size W X -> FormsAt X pa' (y.add p (intoX g y.pots)).pots -> GoesOn l sa N sc nx (wayV ga ng gc pa' cp' ta nt tc false) J X) :
  CallsIn Fence.wide n Tryz.prog 135 #[wayV ga ng gc pa cp ta nt tc false, .iface 181 (.agg #[.int .i64 (p : Int), .slice g.a g.n g.cap, .slice g.c g.m g.cap', .int .i64 g.K]), .int .i64 nx, goV l sa N sc] W fun e Y => ∃ b : Bool, e = .returned (.bool b) /\ J b Y /\ KpR W Y := by
 have hdd : ∀ k : Nat, (Fence.wide.depth.isSome = true -> 1 <= k) := fun k h => by simp [Fence.wide] at h
 obtain ⟨fit1, fit2, -⟩ := hy.into (by omega) (f := g) hs hA.D.1;have HF1 : Hid _ := fit1;have HF2 : Hid _ := fit2;have HY : Hid (WayOk i y) := hy;have HTL : Hid (y.tells.length = nt) := htl;have nt1 : nt <= 100 := by have := hy.tl; omega
 obtain ⟨FX, hFX⟩ : ∃ FX, FX = intoX g y.pots := ⟨_, rfl⟩
 have HFX : Hid (intoX g y.pots = FX) := hFX.symm;have lXC := fit2.c;have lXD := fit2.d;rw [<- hFX] at lXC lXD;have hw := wb_pos i;have hw6 := wb_six (n := i) (by omega);have hq := hy.pf p hp;rw [show min i 6 = i by omega] at hq;have HQ1 : Hid (fitX 10000000 (y.pots[p]?.getD noX)) := hq.mono (by omega);have HQ3 : Hid (fitX 10000000 (plusX (y.pots[p]?.getD noX) (intoX g y.pots))) := (plusX_fit hq fit1).mono (by omega);clear fit1 fit2 hy htl hFX hq;have A0 : Below W.heap.size W ((W.alloc (.cells #[.slice ga ng gc, .slice pa 3 cp, .slice ta nt tc, .bool false] 144)).alloc (.cells #[.int .i64 (p : Int), .slice g.a g.n g.cap, .slice g.c g.m g.cap', .int .i64 g.K] 181)) := (bal).alloc (by simp) _;have x0 := (Cel.new W [.slice ga ng gc, .slice pa 3 cp, .slice ta nt tc, .bool false] 144).alloc (.cells #[.int .i64 (p : Int), .slice g.a g.n g.cap, .slice g.c g.m g.cap', .int .i64 g.K] 181);have y0 := Cel.new (W.alloc (.cells #[.slice ga ng gc, .slice pa 3 cp, .slice ta nt tc, .bool false] 144)) [.int .i64 (p : Int), .slice g.a g.n g.cap, .slice g.c g.m g.cap', .int .i64 g.K] 181;rw [qA] at y0;have t0 := is_add_test;have t1 := is_add_add;have t2 := is_add_print;refine callsIn_of_wp Tryz.func135 rfl trivial ?_ rfl;simp only [Tryz.ntmps135, qK, qH, qI, Nat.reduceAdd, Nat.reduceSub, Array.replicate_succ, Array.replicate_zero, List.push_toArray, List.append_toArray, List.nil_append, List.cons_append]
 gi_wp2_with fail
 obtain ⟨W0, hW0⟩ : ∃ W0, W0 = (W.alloc (.cells #[.slice ga ng gc, .slice pa 3 cp, .slice ta nt tc, .bool false] 144)).alloc (.cells #[.int .i64 (p : Int), .slice g.a g.n g.cap, .slice g.c g.m g.cap', .int .i64 g.K] 181) := ⟨_, rfl⟩
 rw [<- hW0] at A0 x0 y0 ⊢;clear hW0;have KA : Hid (∀ X, KpR W0 X -> Cel X W.heap.size [.slice ga ng gc, .slice pa 3 cp, .slice ta nt tc, .bool false] 144) := fun X hX => x0.keepR hX (by decide) (by decide);have KB : Hid (∀ X, KpR W0 X -> Cel X (W.heap.size + 1) [.int .i64 (p : Int), .slice g.a g.n g.cap, .slice g.c g.m g.cap', .int .i64 g.K] 181) := fun X hX => y0.keepR hX (by decide) (by decide);have KP : Hid (∀ X, KpR W0 X -> ((X.cell? ⟨W.heap.size, 0, none⟩ = some (.slice ga ng gc) /\ X.cell? ⟨W.heap.size, 1, none⟩ = some (.slice pa 3 cp) /\ X.cell? ⟨W.heap.size, 2, none⟩ = some (.slice ta nt tc) /\ X.cell? ⟨W.heap.size, 3, none⟩ = some (.bool false)) /\ (X.cell? ⟨W.heap.size + 1, 0, none⟩ = some (.int .i64 (p : Int)) /\ X.cell? ⟨W.heap.size + 1, 1, none⟩ = some (.slice g.a g.n g.cap) /\ X.cell? ⟨W.heap.size + 1, 2, none⟩ = some (.slice g.c g.m g.cap') /\ X.cell? ⟨W.heap.size + 1, 3, none⟩ = some (.int .i64 g.K)))) := fun X hX => ⟨(KA.out X hX).four, (KB.out X hX).cell 0, (KB.out X hX).cell 1, (KB.out X hX).cell 2, (KB.out X hX).cell 3⟩
 have e0 : Below W0.heap.size W0 W0.drew := (Below.refl _ _).drew;have hSS := KP.out _ (KpR.of e0);refine wpIn_region_S (fun w' => (w'.cell? ⟨W.heap.size, 0, none⟩ = some (.slice ga ng gc) /\ w'.cell? ⟨W.heap.size, 1, none⟩ = some (.slice pa 3 cp) /\ w'.cell? ⟨W.heap.size, 2, none⟩ = some (.slice ta nt tc) /\ w'.cell? ⟨W.heap.size, 3, none⟩ = some (.bool false)) /\ (w'.cell? ⟨W.heap.size + 1, 0, none⟩ = some (.int .i64 (p : Int)) /\ w'.cell? ⟨W.heap.size + 1, 1, none⟩ = some (.slice g.a g.n g.cap) /\ w'.cell? ⟨W.heap.size + 1, 2, none⟩ = some (.slice g.c g.m g.cap') /\ w'.cell? ⟨W.heap.size + 1, 3, none⟩ = some (.int .i64 g.K))) (by kernel_rfl) ?_;refine tks 0 rfl rfl hSS ?_;refine tks 1 rfl rfl hSS ?_;refine tks 2 rfl rfl hSS ?_;refine tks 3 rfl rfl hSS ?_;refine tks 4 rfl rfl hSS ?_;refine tks 5 rfl rfl hSS ?_;refine tks 6 rfl rfl hSS ?_;refine tks 7 rfl rfl hSS ?_;refine tks 8 rfl rfl hSS ?_;clear hSS;refine wpAnyS_one (i := 9) (by kernel_rfl) rfl (fun K hK => ?_);go_simp;refine ⟨trivial, hdd _, (callsIn_wide.2 (iintoW_any HY.out (by omega) g hs (hA.below (btr A0 e0)) (hP.keep (btr A0 e0)))).mono ?_⟩;rintro e w1 ⟨B1, B2, c1, c2, rfl, bd1, y1, y2, y3, k1, k2⟩;rw [HFX.out] at k1 k2 ⊢;have b1 : Below W0.heap.size W0 w1 := below_of_drew bd1;have E1 := btr A0 b1;clear bd1 y1 y2 y3;(try dsimp only);refine hK.out _ _ (KP.out _ (KpR.of b1)) ?_;refine wpAnyS_one (i := 10) (by kernel_rfl) rfl (fun K hK => ?_);go_simp
 refine ⟨trivial, hdd _, (callsIn_wide.2 (iadding_any y p hp FX HY.out.pl (hP.keep E1) (k1.ints' lXC) (k2.ints' lXD) HQ1.out (by rw [<- HFX.out]; exact HF2.out) (by rw [<- HFX.out]; exact HQ3.out))).mono ?_⟩;rintro e w2 ⟨G, cG, rfl, b2', F2⟩;have b2 := btr b1 b2';have E2 := btr A0 b2;have HG2 : Hid _ := hgo w2 _ cG E2 (by rw [HFX.out]; exact F2);clear k1 k2;(try dsimp only);refine hK.out _ _ (KP.out _ (KpR.of b2)) ?_;refine wpAnyS_one (i := 11) (by kernel_rfl) rfl (fun K hK => ?_);go_simp;refine ⟨trivial, hdd _, (HG2.out _).mono ?_⟩;rintro e w3 ⟨z3, rfl, j3, k3⟩;have K3 := (KpR.of b2).trans k3;have KK := (KpR.of A0).trans K3;(try dsimp only);refine hK.out _ _ (KP.out _ K3) ?_;refine wpAnyS_one (i := 12) (by kernel_rfl) rfl (fun K hK => ?_);go_simp;refine hK.out _ _ (KP.out _ K3) ?_;refine wpAnyS_done (by kernel_rfl) ?_ _;clear KP KA KB x0 y0 HG2
 gi_wp2
 go_ret
 exact ⟨z3, rfl, j3, KK⟩
attribute [local go_sem] Oper.semAt_some
theorem not_true_ofQ {b : Bool} (h : b = false) : ¬ b = true := by rw [h]; decide
theorem past_test (l : Nat) {sa : Option Addr} (N sc : Nat) {nx : Int} (sk : Int) (hnx : 0 <= nx /\ nx <= 100) (hsk : 0 <= sk /\ sk <= 100) (i : Nat) (y : Way) (hy : WayOk i y) (h6 : i <= 5) (g : FV) (hs : smallB g.n g.m g.C g.D g.K = true) (ga : Option Addr) (ng gc : Nat) (pa : Option Addr) (cp : Nat) (ta : Option Addr) (nt tc : Nat) (J1 : Bool -> World -> Prop) {J2 : Bool -> World -> Prop} (hJ1 : ∀ X Y, J1 true X -> Below X.heap.size X Y -> J1 true Y) (hJF : ∀ Y, J1 false Y -> J2 false Y) (W : World) (n : Nat) (hA : g.At W) (hP : FormsAt W pa y.pots) (hG : FormsAt W ga y.guards) (hgl : y.guards.length = ng)
  (hgo1 : ∀ X ga' gc', Below W.heap.size W X -> FormsAt X ga' (y.guards ++ [intoX g y.pots]) -> GoesOn l sa N sc nx (wayV ga' (ng + 1) gc' pa cp ta nt tc false) J1 X)
  (hgo2 : ∀ X ga' gc', KpR W X -> J1 true X -> FormsAt X ga' (y.guards ++ [minusX (intoX g y.pots)]) -> GoesOn l sa N sc (nx + sk) (wayV ga' (ng + 1) gc' pa cp ta nt tc false) J2 X) :
  CallsIn Fence.wide n Tryz.prog 135 #[wayV ga ng gc pa cp ta nt tc false, .iface 179 (.agg #[.int .i64 sk, .slice g.a g.n g.cap, .slice g.c g.m g.cap', .int .i64 g.K]), .int .i64 nx, goV l sa N sc] W fun e Y => ∃ b : Bool, e = .returned (.bool b) /\ J2 b Y /\ KpR W Y := by
 have hdd : ∀ k : Nat, (Fence.wide.depth.isSome = true -> 1 <= k) := fun k h => by simp [Fence.wide] at h
 obtain ⟨hnx0, hnx1⟩ := hnx;obtain ⟨hsk0, hsk1⟩ := hsk;obtain ⟨-, fit2, fit3⟩ := hy.into (by omega) (f := g) hs hA.D.1;have HY : Hid (WayOk i y) := hy;have HGL : Hid (y.guards.length = ng) := hgl;have ng1 : ng <= 100 := by have := hy.gl; omega
 obtain ⟨FX, hFX⟩ : ∃ FX, FX = intoX g y.pots := ⟨_, rfl⟩
 have HFX : Hid (intoX g y.pots = FX) := hFX.symm;rw [<- hFX] at fit2 fit3 hgo1 hgo2;have lXC := fit2.c;have lXD := fit2.d;have bXC := fit2.bc;have bXD := fit2.bd;have bX1 := fit2.k1;have bX2 := fit2.k2;have HF3 : Hid (fitX 10000000 (minusX FX)) := fit3;have hK3 : (minusX FX).2.2 = -FX.2.2 - 1 := by simp only [minusX]; omega
 have HK3 : Hid _ := hK3;have hw : IntKind.i64.wrap (nx + sk) = nx + sk := wrap_id (by omega) (by omega);clear fit2 fit3 hy hgl hFX hK3;have A0 : Below W.heap.size W ((W.alloc (.cells #[.slice ga ng gc, .slice pa 3 cp, .slice ta nt tc, .bool false] 144)).alloc (.cells #[.int .i64 sk, .slice g.a g.n g.cap, .slice g.c g.m g.cap', .int .i64 g.K] 179)) := (bal).alloc (by simp) _;have x0 := (Cel.new W [.slice ga ng gc, .slice pa 3 cp, .slice ta nt tc, .bool false] 144).alloc (.cells #[.int .i64 sk, .slice g.a g.n g.cap, .slice g.c g.m g.cap', .int .i64 g.K] 179);have y0 := Cel.new (W.alloc (.cells #[.slice ga ng gc, .slice pa 3 cp, .slice ta nt tc, .bool false] 144)) [.int .i64 sk, .slice g.a g.n g.cap, .slice g.c g.m g.cap', .int .i64 g.K] 179;rw [qA] at y0;have t1 := is_test_test;refine callsIn_of_wp Tryz.func135 rfl trivial ?_ rfl;simp only [Tryz.ntmps135, qK, qH, qI, Nat.reduceAdd, Nat.reduceSub, Array.replicate_succ, Array.replicate_zero, List.push_toArray, List.append_toArray, List.nil_append, List.cons_append]
 gi_wp2_with fail
 refine ⟨trivial, hdd _, (callsIn_wide.2 (iintoW_any HY.out (by omega) g hs (hA.below A0) (hP.keep A0))).mono ?_⟩;rintro e w1 ⟨B1, B2, c1, c2, rfl, b1, y1, y2, y3, k1, k2⟩;rw [HFX.out] at k1 k2 ⊢;have E1 := btr A0 b1;have x1 := x0.below b1;have y1' := y0.below b1;have A1 : Below w1.heap.size w1 (w1.alloc (.cells #[.slice (some ⟨B1, 0, none⟩) 3 c1, .slice (some ⟨B2, 0, none⟩) 2 c2, .int .i64 FX.2.2] 86)) := bal;have x2 := x1.below A1;have y2' := y1'.below A1;have z2 := Cel.new w1 [.slice (some ⟨B1, 0, none⟩) 3 c1, .slice (some ⟨B2, 0, none⟩) 2 c2, .int .i64 FX.2.2] 86;have E2 := btr E1 A1;have u1 := k1.below A1;have u2 := k2.below A1;clear x0 y0 x1 y1' A0 b1 y1 y2 y3 k1 k2 E1
 gi_wp2_with fail
 obtain ⟨W0, hW0⟩ : ∃ W0, W0 = w1.alloc (.cells #[.slice (some ⟨B1, 0, none⟩) 3 c1, .slice (some ⟨B2, 0, none⟩) 2 c2, .int .i64 FX.2.2] 86) := ⟨_, rfl⟩
 rw [<- hW0] at x2 y2' z2 E2 u1 u2 ⊢;clear hW0 A1
 have KP : Hid (∀ X, KpR W0 X -> ((X.cell? ⟨W.heap.size, 0, none⟩ = some (.slice ga ng gc) /\ X.cell? ⟨W.heap.size, 1, none⟩ = some (.slice pa 3 cp) /\ X.cell? ⟨W.heap.size, 2, none⟩ = some (.slice ta nt tc) /\ X.cell? ⟨W.heap.size, 3, none⟩ = some (.bool false)) /\ (X.cell? ⟨W.heap.size + 1, 0, none⟩ = some (.int .i64 sk) /\ X.cell? ⟨W.heap.size + 1, 1, none⟩ = some (.slice g.a g.n g.cap) /\ X.cell? ⟨W.heap.size + 1, 2, none⟩ = some (.slice g.c g.m g.cap') /\ X.cell? ⟨W.heap.size + 1, 3, none⟩ = some (.int .i64 g.K)) /\ (X.cell? ⟨w1.heap.size, 0, none⟩ = some (.slice (some ⟨B1, 0, none⟩) 3 c1) /\ X.cell? ⟨w1.heap.size, 1, none⟩ = some (.slice (some ⟨B2, 0, none⟩) 2 c2) /\ X.cell? ⟨w1.heap.size, 2, none⟩ = some (.int .i64 FX.2.2)))) := fun X hX => by
  have q1 := x2.keepR hX (by decide) (by decide);have q2 := y2'.keepR hX (by decide) (by decide);have q3 := z2.keepR hX (by decide) (by decide);obtain ⟨m0, m1, m2, -, -, -⟩ := q3.trio
  exact ⟨q1.four, ⟨q2.cell 0, q2.cell 1, q2.cell 2, q2.cell 3⟩, m0, m1, m2⟩
 have e0 : Below W0.heap.size W0 W0.drew := (Below.refl _ _).drew;have hSS := KP.out _ (KpR.of e0);have G0 := hG.keep E2;clear x2 y2' z2;refine wpIn_region_S (fun w' => (w'.cell? ⟨W.heap.size, 0, none⟩ = some (.slice ga ng gc) /\ w'.cell? ⟨W.heap.size, 1, none⟩ = some (.slice pa 3 cp) /\ w'.cell? ⟨W.heap.size, 2, none⟩ = some (.slice ta nt tc) /\ w'.cell? ⟨W.heap.size, 3, none⟩ = some (.bool false)) /\ (w'.cell? ⟨W.heap.size + 1, 0, none⟩ = some (.int .i64 sk) /\ w'.cell? ⟨W.heap.size + 1, 1, none⟩ = some (.slice g.a g.n g.cap) /\ w'.cell? ⟨W.heap.size + 1, 2, none⟩ = some (.slice g.c g.m g.cap') /\ w'.cell? ⟨W.heap.size + 1, 3, none⟩ = some (.int .i64 g.K)) /\ (w'.cell? ⟨w1.heap.size, 0, none⟩ = some (.slice (some ⟨B1, 0, none⟩) 3 c1) /\ w'.cell? ⟨w1.heap.size, 1, none⟩ = some (.slice (some ⟨B2, 0, none⟩) 2 c2) /\ w'.cell? ⟨w1.heap.size, 2, none⟩ = some (.int .i64 FX.2.2))) (by kernel_rfl) ?_;refine tks 0 rfl rfl hSS ?_;refine tks 1 rfl rfl hSS ?_;refine tks 2 rfl rfl hSS ?_;refine tks 3 rfl rfl hSS ?_;clear hSS;refine wpAnyS_one (i := 4) (by kernel_rfl) rfl (fun K hK => ?_);go_simp;refine ⟨trivial, hdd _, (callsIn_wide.2 (iguard_any FX y.guards _ _ _ _ _ _ _ _ _ _ _ _ _ _ HGL.out ng1 (G0.keep e0) ((u1.below e0).ints' lXC) ((u2.below e0).ints' lXD))).mono ?_⟩;rintro e w2 ⟨G, cG, rfl, bd2, F2⟩;have b2 : Below W0.heap.size W0 w2 := below_of_drew bd2;have HG1 : Hid _ := hgo1 w2 _ cG (btr E2 b2) F2;clear bd2 F2 e0;(try dsimp only);refine hK.out _ _ (KP.out _ (KpR.of b2)) ?_
 refine wpAnyS_one (i := 5) (by kernel_rfl) rfl (fun K hK => ?_);go_simp;refine ⟨trivial, hdd _, (HG1.out _).mono ?_⟩;rintro e w3 ⟨z3, rfl, j3, k3⟩;have K3 := (KpR.of b2).trans k3;have hS3 := KP.out _ K3
 cases z3 with
 | false =>
  (try dsimp only);refine hK.out _ _ hS3 ?_;clear hK K HG1 k3;refine wpAnyS_one (i := 6) (by kernel_rfl) rfl (fun K hK => ?_);go_simp;refine hK.out _ _ hS3 ?_;refine wpAnyS_take (i := 7) (v := undef) rfl rfl (by kernel_rfl) (by kernel_rfl) (by kernel_rfl) (fun _ _ _ h => h) (Or.inr ⟨by kernel_rfl, rfl⟩) (fun _ => rfl) hS3 ?_;refine wpAnyS_take (i := 8) (v := undef) rfl rfl (by kernel_rfl) (by kernel_rfl) (by kernel_rfl) (fun _ _ _ h => h) (Or.inr ⟨by kernel_rfl, rfl⟩) (fun _ => rfl) hS3 ?_;refine wpAnyS_take (i := 9) (v := undef) rfl rfl (by kernel_rfl) (by kernel_rfl) (by kernel_rfl) (fun _ _ _ h => h) (Or.inr ⟨by kernel_rfl, rfl⟩) (fun _ => rfl) hS3 ?_;refine wpAnyS_take (i := 10) (v := undef) rfl rfl (by kernel_rfl) (by kernel_rfl) (by kernel_rfl) (fun _ _ _ h => h) (Or.inr ⟨by kernel_rfl, rfl⟩) (fun _ => rfl) hS3 ?_;simp only [Act.put, qB, qD, qC, qG, qF, qE];refine wpAnyS_take (i := 11) (v := undef) rfl rfl (by kernel_rfl) (by kernel_rfl) (by kernel_rfl) (fun _ _ _ h => h) (Or.inr ⟨by kernel_rfl, rfl⟩) (fun _ => rfl) hS3 ?_;refine wpAnyS_take (i := 12) (v := undef) rfl rfl (by kernel_rfl) (by kernel_rfl) (by kernel_rfl) (fun _ _ _ h => h) (Or.inr ⟨by kernel_rfl, rfl⟩) (fun _ => rfl) hS3 ?_;refine wpAnyS_take (i := 13) (v := undef) rfl rfl (by kernel_rfl) (by kernel_rfl) (by kernel_rfl) (fun _ _ _ h => h) (Or.inr ⟨by kernel_rfl, rfl⟩) (fun _ => rfl) hS3 ?_
  simp only [Act.put, qB, qD, qC, qG, qF, qE];refine wpAnyS_one (i := 14) (by kernel_rfl) rfl (fun K hK => ?_);rw [if_neg (not_true_ofQ (by kernel_rfl))];refine ⟨fun f _ => trivial, hK.out _ _ hS3 ?_⟩;refine wpAnyS_one (i := 15) (by kernel_rfl) rfl (fun K hK => ?_);rw [if_neg (not_true_ofQ (by kernel_rfl))];refine ⟨fun f _ => trivial, hK.out _ _ hS3 ?_⟩;refine wpAnyS_one (i := 16) (by kernel_rfl) rfl (fun K hK => ?_);rw [if_neg (not_true_ofQ (by kernel_rfl))];refine ⟨fun f _ => trivial, hK.out _ _ hS3 ?_⟩;simp only [Act.put, qB, qD, qC, qG, qF, qE];refine wpAnyS_one (i := 17) (by kernel_rfl) rfl (fun K hK => ?_);go_simp;refine hK.out _ _ hS3 ?_;refine wpAnyS_one (i := 18) (by kernel_rfl) rfl (fun K hK => ?_);go_simp;refine hK.out _ _ hS3 ?_;refine wpAnyS_done (by kernel_rfl) ?_ _;have KK := (KpR.of E2).trans K3;clear KP
  gi_wp2
  go_ret
  exact ⟨false, rfl, hJF _ j3, KK⟩
 | true =>
  (try dsimp only);refine hK.out _ _ hS3 ?_;clear hK K HG1 k3;refine wpAnyS_one (i := 6) (by kernel_rfl) rfl (fun K hK => ?_);go_simp;refine hK.out _ _ hS3 ?_;refine wpAnyS_take (i := 7) (v := ?dv7) rfl rfl (by kernel_rfl) (by kernel_rfl) (by kernel_rfl) (fun _ _ _ h => h) (Or.inl ⟨by kernel_rfl, ?dy7⟩) (fun _ => rfl) hS3 ?_
  case dy7 => (intro wz hSw; (try dsimp only at hSw); go_simp; try (with_reducible rfl))
  refine wpAnyS_take (i := 8) (v := ?dv8) rfl rfl (by kernel_rfl) (by kernel_rfl) (by kernel_rfl) (fun _ _ _ h => h) (Or.inl ⟨by kernel_rfl, ?dy8⟩) (fun _ => rfl) hS3 ?_
  case dy8 => (intro wz hSw; (try dsimp only at hSw); go_simp; try (with_reducible rfl))
  refine wpAnyS_take (i := 9) (v := ?dv9) rfl rfl (by kernel_rfl) (by kernel_rfl) (by kernel_rfl) (fun _ _ _ h => h) (Or.inl ⟨by kernel_rfl, ?dy9⟩) (fun _ => rfl) hS3 ?_
  case dy9 => (intro wz hSw; (try dsimp only at hSw); go_simp; try (with_reducible rfl))
  refine wpAnyS_take (i := 10) (v := ?dv10) rfl rfl (by kernel_rfl) (by kernel_rfl) (by kernel_rfl) (fun _ _ _ h => h) (Or.inl ⟨by kernel_rfl, ?dy10⟩) (fun _ => rfl) hS3 ?_
  case dy10 => (intro wz hSw; (try dsimp only at hSw); go_simp; try (with_reducible rfl))
  refine wpAnyS_take (i := 11) (v := ?dv11) rfl rfl (by kernel_rfl) (by kernel_rfl) (by kernel_rfl) (fun _ _ _ h => h) (Or.inl ⟨by kernel_rfl, ?dy11⟩) (fun _ => rfl) hS3 ?_
  case dy11 => (intro wz hSw; (try dsimp only at hSw); go_simp; try (with_reducible rfl))
  refine wpAnyS_take (i := 12) (v := ?dv12) rfl rfl (by kernel_rfl) (by kernel_rfl) (by kernel_rfl) (fun _ _ _ h => h) (Or.inl ⟨by kernel_rfl, ?dy12⟩) (fun _ => rfl) hS3 ?_
  case dy12 => (intro wz hSw; (try dsimp only at hSw); go_simp; try (with_reducible rfl))
  refine wpAnyS_take (i := 13) (v := ?dv13) rfl rfl (by kernel_rfl) (by kernel_rfl) (by kernel_rfl) (fun _ _ _ h => h) (Or.inl ⟨by kernel_rfl, ?dy13⟩) (fun _ => rfl) hS3 ?_
  case dy13 => (intro wz hSw; (try dsimp only at hSw); go_simp; try (with_reducible rfl))
  have v1 := (u1.ints' lXC).keepR K3;have v2 := (u2.ints' lXD).keepR K3;have G3 := G0.keepR K3;clear hS3 u1 u2 G0 b2;refine wpAnyS_one (i := 14) (by kernel_rfl) rfl (fun K hK => ?_);go_simp;refine ⟨trivial, hdd _, (callsIn_wide.2 (ilack_any FX.1 FX.2.1 v1 v2 bXC bXD bX1 bX2 HF3.out)).mono ?_⟩;rintro e w4 ⟨M1, M2, rfl, b4, -, -, -, m1, m2⟩;have K4 := K3.trans (KpR.of b4);have j4 := hJ1 _ _ j3 b4;(try dsimp only);refine hK.out _ _ (KP.out _ K4) ?_;clear hK K j3 K3;have hcall := iguard_any (minusX FX) y.guards ga ng gc pa cp ta nt tc false (some ⟨M1, 0, none⟩) 3 (some ⟨M2, 0, none⟩) 2 w4 HGL.out ng1 (G3.keep b4) (m1.ints' (by rw [mulL_len]; exact lXC)) (m2.ints' (by rw [mulL_len]; exact lXD));rw [HK3.out] at hcall;refine wpAnyS_one (i := 15) (by kernel_rfl) rfl (fun K hK => ?_);go_simp;refine ⟨trivial, hdd _, (callsIn_wide.2 hcall).mono ?_⟩;rintro e w5 ⟨G5, c5, rfl, b5, F5⟩;have K5 := K4.trans (KpR.of b5);have HG2 : Hid _ := hgo2 w5 _ c5 ((KpR.of E2).trans K5) (hJ1 _ _ j4 b5) F5;(try dsimp only);refine hK.out _ _ (KP.out _ K5) ?_;clear hK K hcall F5 j4 K4 m1 m2;refine wpAnyS_one (i := 16) (by kernel_rfl) rfl (fun K hK => ?_);go_simp;refine ⟨trivial, hdd _, (HG2.out _).mono ?_⟩;rintro e w6 ⟨z6, rfl, j6, k6⟩;have K6 := K5.trans k6;have KK := (KpR.of E2).trans K6;(try dsimp only);refine hK.out _ _ (KP.out _ K6) ?_;clear hK K HG2;refine wpAnyS_one (i := 17) (by kernel_rfl) rfl (fun K hK => ?_);go_simp;refine hK.out _ _ (KP.out _ K6) ?_
  refine wpAnyS_one (i := 18) (by kernel_rfl) rfl (fun K hK => ?_);go_simp;refine hK.out _ _ (KP.out _ K6) ?_;refine wpAnyS_done (by kernel_rfl) ?_ _;clear KP
  gi_wp2
  go_ret
  exact ⟨z6, rfl, j6, KK⟩
attribute [local go_sem] Oper.semAt_some
theorem from_step (l : Nat) (SG N sc i0 : Nat) (hlt : i0 < N) (hi1 : i0 <= 12) (ga : Option Addr) (ng gc : Nat) (pa : Option Addr) (cp : Nat) (ta : Option Addr) (nt tc : Nat) {ty : TypeId} {sv : Value} (cur : List Value) {J : Bool -> World -> Prop} (W : World) (n : Nat) (hC : Cel W SG cur 149) (hv : cur[i0]? = some (.iface ty sv))
  (hpast : ∀ X m, Below W.heap.size W X -> CallsIn Fence.wide m Tryz.prog 135 #[wayV ga ng gc pa cp ta nt tc false, .iface ty sv, .int .i64 ((i0 : Int) + 1), goV l (some ⟨SG, 0, none⟩) N sc] X fun e Y => ∃ b : Bool, e = .returned (.bool b) /\ J b Y /\ KpR X Y) :
  CallsIn Fence.wide n Tryz.prog 111 #[walkV l (some ⟨SG, 0, none⟩) N sc, .int .i64 (i0 : Int), wayV ga ng gc pa cp ta nt tc false] W fun e Y => ∃ b : Bool, e = .returned (.bool b) /\ J b Y /\ KpR W Y := by
 have hdd : ∀ k : Nat, (Fence.wide.depth.isSome = true -> 1 <= k) := fun k h => by simp [Fence.wide] at h
 have hge : ¬ ((N : Int) <= i0) := by omega
 have hlt' : (i0 : Int) < N := by omega
 have hw : IntKind.i64.wrap ((i0 : Int) + 1) = (i0 : Int) + 1 := wrap_id (by omega) (by omega);have A : Below W.heap.size W ((W.alloc (.cells #[.slice (some ⟨SG, 0, none⟩) N sc, .func (.yield l) #[] #[]] 141)).alloc (.cells #[.slice ga ng gc, .slice pa 3 cp, .slice ta nt tc, .bool false] 144)) := (bal).alloc (by simp) _;have x0 := (Cel.new W [.slice (some ⟨SG, 0, none⟩) N sc, .func (.yield l) #[] #[]] 141).alloc (.cells #[.slice ga ng gc, .slice pa 3 cp, .slice ta nt tc, .bool false] 144);have y0 := Cel.new (W.alloc (.cells #[.slice (some ⟨SG, 0, none⟩) N sc, .func (.yield l) #[] #[]] 141)) [.slice ga ng gc, .slice pa 3 cp, .slice ta nt tc, .bool false] 144;rw [qA] at y0;have s0 := hC.below A;refine callsIn_of_wp Tryz.func111 rfl trivial ?_ rfl;simp only [Tryz.ntmps111, qK, qH, qI, Nat.reduceAdd, Nat.reduceSub, Array.replicate_succ, Array.replicate_zero, List.push_toArray, List.append_toArray, List.nil_append, List.cons_append]
 gi_wp2_with fail
 obtain ⟨W0, hW0⟩ : ∃ W0, W0 = (W.alloc (.cells #[.slice (some ⟨SG, 0, none⟩) N sc, .func (.yield l) #[] #[]] 141)).alloc (.cells #[.slice ga ng gc, .slice pa 3 cp, .slice ta nt tc, .bool false] 144) := ⟨_, rfl⟩
 rw [<- hW0] at A x0 y0 s0 ⊢;clear hW0
 have KP : Hid (∀ X, KpR W0 X -> ((X.cell? ⟨W.heap.size, 0, none⟩ = some (.slice (some ⟨SG, 0, none⟩) N sc) /\ X.cell? ⟨W.heap.size, 1, none⟩ = some (.func (.yield l) #[] #[])) /\ (X.cell? ⟨W.heap.size + 1, 0, none⟩ = some (.slice ga ng gc) /\ X.cell? ⟨W.heap.size + 1, 1, none⟩ = some (.slice pa 3 cp) /\ X.cell? ⟨W.heap.size + 1, 2, none⟩ = some (.slice ta nt tc) /\ X.cell? ⟨W.heap.size + 1, 3, none⟩ = some (.bool false)) /\ X.cell? ⟨SG, i0, none⟩ = some (.iface ty sv))) := fun X hX => by
  have a1 := x0.keepR hX (by decide) (by decide);have a2 := y0.keepR hX (by decide) (by decide);have a3 := s0.keepR hX (by decide) (by decide)
  exact ⟨⟨a1.cell 0, a1.cell 1⟩, a2.four, (a3.cell i0).trans hv⟩
 have e0 : Below W0.heap.size W0 W0.drew := (Below.refl _ _).drew;have hSS := KP.out _ (KpR.of e0);have HP : Hid _ := hpast _ (n - 1) (btr A e0);clear x0 y0 s0 hpast;refine wpIn_region_S (fun w' => (w'.cell? ⟨W.heap.size, 0, none⟩ = some (.slice (some ⟨SG, 0, none⟩) N sc) /\ w'.cell? ⟨W.heap.size, 1, none⟩ = some (.func (.yield l) #[] #[])) /\ (w'.cell? ⟨W.heap.size + 1, 0, none⟩ = some (.slice ga ng gc) /\ w'.cell? ⟨W.heap.size + 1, 1, none⟩ = some (.slice pa 3 cp) /\ w'.cell? ⟨W.heap.size + 1, 2, none⟩ = some (.slice ta nt tc) /\ w'.cell? ⟨W.heap.size + 1, 3, none⟩ = some (.bool false)) /\ w'.cell? ⟨SG, i0, none⟩ = some (.iface ty sv)) (by kernel_rfl) ?_;refine tks 0 rfl rfl hSS ?_;refine tks 1 rfl rfl hSS ?_;refine tks 2 rfl rfl hSS ?_;refine tks 3 rfl rfl hSS ?_;refine tks 4 rfl rfl hSS ?_;refine tks 5 rfl rfl hSS ?_;refine tks 6 rfl rfl hSS ?_;refine tks 7 rfl rfl hSS ?_;refine tks 8 rfl rfl hSS ?_;refine tks 9 rfl rfl hSS ?_;clear hSS;refine wpAnyS_one (i := 10) (by kernel_rfl) rfl (fun K hK => ?_);go_simp;refine ⟨trivial, hdd _, CallsIn.mono HP.out ?_⟩;rintro e w1 ⟨z1, rfl, j1, k1⟩;have K1 : KpR W0 w1 := (KpR.of e0).trans k1;have KK := (KpR.of A).trans K1;(try dsimp only);refine hK.out _ _ (KP.out _ K1) ?_;clear hK K HP;refine wpAnyS_one (i := 11) (by kernel_rfl) rfl (fun K hK => ?_);go_simp;refine hK.out _ _ (KP.out _ K1) ?_;refine wpAnyS_done (by kernel_rfl) ?_ _;clear KP
 gi_wp2
 go_ret
 exact ⟨z1, rfl, j1, KK⟩
end Go.Proofs.YtemcinobgdphnaaGreat
