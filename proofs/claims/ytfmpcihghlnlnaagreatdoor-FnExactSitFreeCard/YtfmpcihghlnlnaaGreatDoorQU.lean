/-
  Lemmas that the claim's last text rests on.
-/
import Derived.OrdersIn
import Derived.OrdersHeld
import Derived.RangeFuncNested
import Derived.RangeFuncBound
import Derived.RangeFuncCalls
import Derived.RangeFuncLeaves
import Derived.Shelf.Abstract
import Derived.Shelf.RegionOpen
import Derived.OwnWalkIn
import Derived.TacticsInMore
import Derived.LoopNIn
import Derived.LoopIn
import Derived.Test.YtfmpcihghlnlnaaGreatDoorQT
namespace Go.Proofs.YtfmpcihghlnlnaaGreatDoor
open Go.RowKit Go.Deep Go.Shelf
open Nat renaming le_refl → qA
set_option linter.unusedVariables false
set_option maxRecDepth 100000
set_option maxHeartbeats 25600000
variable {X Y : World} {pre : List RowM}
section
variable {F : Fence} {n : Nat} {P : Program} {ops : Array Oper} {Q : Exit -> Act -> World -> Prop} {md : Region.Mode} {S : World -> Prop}
def Left (o : Oper) (a a' : Act) : Prop := ∃ u ds, a' = ({ a with defers := ds } : Act).put o.dst u
theorem wpIn_left {o : Oper} {a : Act} {w : World} {K : Act -> World -> Prop} (h : o.wpIn F n P a w K Q) : o.wpIn F n P a w (fun a' w' => Left o a a' /\ K a' w') Q := by
 unfold Oper.wpIn at *;refine ⟨h.1, ?_⟩;have h := h.2;generalize (o.semAt F.round a.eval).run P w = r at *
 cases r with
 | ok x w' =>
  cases x <;> simp only [Oper.uponIn] at h ⊢ <;>
   first
    | exact ⟨⟨_, _, rfl⟩, h⟩
    | exact ⟨h.1, CallsIn.mono h.2 (fun e w'' he => by cases e <;> first | exact ⟨⟨_, _, rfl⟩, he⟩ | exact he)⟩
    | exact ⟨h.1, RowsIn.mono h.2 (fun _ _ he => ⟨⟨_, _, rfl⟩, he⟩)⟩
    | exact ⟨h.1, RoundIn.mono h.2 (fun e w'' he => by cases e <;> first | exact ⟨⟨_, _, rfl⟩, he⟩ | exact he)⟩
    | exact h
 | halt x w' => cases x <;> simp only [Oper.uponIn] at h ⊢ <;> exact h
theorem wpOpIn_left {j : Nat} {oj : Oper} (hj : ops[j]? = some oj) {a : Act} {w : World} {K : Act -> World -> Prop} (h : wpOpIn F n P ops Q j K a w) : wpOpIn F n P ops Q j (fun a' w' => Left oj a a' /\ K a' w') a w := by
 unfold wpOpIn at *;simp only [hj] at *
 split
 ·rename_i hw
  simp only [hw, if_true] at h
  exact wpIn_left h
 rename_i hw
 simp only [hw] at h
 exact ⟨h.1, ⟨undef, a.defers, rfl⟩, h.2⟩
def YieldsS (P : Program) (ops : Array Oper) (S : World -> Prop) (o : Oper) (v : Value) (a : Act) : Prop := YieldsIf P ops S o v a /\ ∀ w, o.about P w a.eval = none
theorem YieldsS.left {oi oj : Oper} {v : Value} {a a' : Act} (hy : YieldsS P ops S oi v a) (hap : oi.apart ops oj = true) (hsi : ∀ cs b, oi.op ≠ .select cs b) (h : Left oj a a') : YieldsS P ops S oi v a' := by
 obtain ⟨u, ds, rfl⟩ := h;obtain ⟨h1, h2, h3⟩ := Oper.apart_spec hap;refine ⟨YieldsIf.of_same (a := ({ a with defers := ds } : Act)) (YieldsIf.of_same hy.1 rfl rfl) (execOp_put oi hsi _ oj.dst u h3) (wanted_put oi _ oj.dst u h3), fun w => ?_⟩;rw [about_put oi w _ oj.dst u h3]
 exact hy.2 w
theorem YieldsS.wpOpIn {i : Nat} {o : Oper} {v : Value} {a : Act} (hro : F.round = none) (hi : ops[i]? = some o) (hy : YieldsS P ops S o v a) {K : Act -> World -> Prop} {w : World} (hS : S w) (h : K (a.put o.dst v) w) : wpOpIn F n P ops Q i K a w := by
 unfold Go.wpOpIn;simp only [hi];have hab : ∀ f, o.about P w a.eval = some f -> F.fn f := fun f hf => by rw [hy.2 w] at hf; cases hf
 rcases hy.1 with ⟨hw, hv⟩ | ⟨hw, rfl⟩
 ·simp only [hw, if_true, Oper.wpIn, hro, Oper.semAt_none, hv w hS, Oper.uponIn]; exact ⟨hab, h⟩
 simp only [hw, Bool.false_eq_true, if_false]; exact ⟨hab, h⟩
def still (oi : Oper) (v : Value) : Oper := { oi with op := .move (.const v), guard := none, after := #[] }
theorem still_yields (oi : Oper) (v : Value) (a : Act) : YieldsFenced P ops (still oi v) v a := by
 refine ⟨.inl ⟨rfl, fun w => ?_⟩, fun w => rfl⟩;simp [still, execOp, Act.eval]
theorem still_apart {oi oj : Oper} {v : Value} (h : oi.apart ops oj = true) : (still oi v).apart ops oj = true := by
 simp only [Oper.apart, Bool.and_eq_true] at h ⊢;refine ⟨h.1, ?_⟩
 cases oj.dst with
 | none => rfl
 | some d => simp [still, Oper.looksAt, Op.operands]
theorem wpOpIn_putS {j : Nat} {oi oj : Oper} {v : Value} (hro : F.round = none) (hj : ops[j]? = some oj) (hap : oi.apart ops oj = true)
  (hsi : ∀ cs b, oi.op ≠ .select cs b) (hsj : ∀ cs b, oj.op ≠ .select cs b)
  (hQ : ∀ c a w, Q (.panic c) (a.put oi.dst v) w -> Q (.panic c) a w) {K : Act -> World -> Prop} {a : Act} {w : World}
  (hy : YieldsS P ops S oi v a) (h : wpOpIn F n P ops Q j K (a.put oi.dst v) w) :
  wpOpIn F n P ops Q j (fun a' w' => YieldsS P ops S oi v a' /\ K (a'.put oi.dst v) w') a w :=
 wpOpIn_mono (fun a' w' hh => ⟨hy.left hap hsi hh.1, hh.2.2⟩) (wpOpIn_left hj (wpOpIn_put (oi := still oi v) hro hj (still_apart hap) (fun cs b e => by cases e) hsj hQ (still_yields oi v a) h))
def wpAnyS (F : Fence) (n : Nat) (P : Program) (md : Region.Mode) (ops : Array Oper) (Q : Exit -> Act -> World -> Prop) (S : World -> Prop) : Nat -> Array Bool -> Act -> World -> Prop
 | 0, listed, a, w => Region.ready md ops listed = [] /\ Q .normal a w
 | fuel + 1, listed, a, w =>
  (Region.ready md ops listed = [] -> Q .normal a w) /\
  ∀ i ∈ Region.ready md ops listed, wpOpIn F n P ops Q i (fun a' w' => S w' /\ wpAnyS F n P md ops Q S fuel (listed.setIfInBounds i true) a' w') a w
theorem wpAnyIn_of_S : ∀ (fuel : Nat) (listed : Array Bool) (a : Act) (w : World), wpAnyS F n P md ops Q S fuel listed a w -> wpAnyIn F n P md ops Q fuel listed a w
 | 0, _, _, _, h => h
 | fuel + 1, _, _, _, h => ⟨h.1, fun i hi => wpOpIn_mono (fun a' w' h' => wpAnyIn_of_S fuel _ a' w' h'.2) (h.2 i hi)⟩
theorem wpAnyS_first {i : Nat} {oi : Oper} {v : Value} (hro : F.round = none) (hi : ops[i]? = some oi) (hsel : ∀ (j : Nat) (o : Oper) cs b, ops[j]? = some o -> o.op ≠ .select cs b)
  (hQ : ∀ c a w, Q (.panic c) (a.put oi.dst v) w -> Q (.panic c) a w) :
  ∀ (fuel : Nat) (listed : Array Bool) (a : Act) (w : World),
   (∀ j oj, ops[j]? = some oj -> j ≠ i -> listed.getD j true = false -> (∀ e ∈ oj.after, Region.binds md e = true -> e.on ≠ i) -> oi.apart ops oj = true) ->
   i ∈ Region.ready md ops listed -> YieldsS P ops S oi v a -> S w ->
   wpAnyS F n P md ops Q S fuel (listed.setIfInBounds i true) (a.put oi.dst v) w -> wpAnyS F n P md ops Q S (fuel + 1) listed a w := by
 intro fuel
 induction fuel with
 | zero =>
  intro listed a w _ hr hy hS H;refine ⟨fun h => (by rw [h] at hr; cases hr), fun j hj => ?_⟩
  by_cases hji : j = i
  ·subst hji; exact hy.wpOpIn hro hi hS ⟨hS, H⟩
  have := ready_mono hj hji;rw [H.1] at this
  cases this
 | succ fuel ih =>
  intro listed a w hfree hr hy hS H;refine ⟨fun h => (by rw [h] at hr; cases hr), fun j hj => ?_⟩
  by_cases hji : j = i
  ·subst hji; exact hy.wpOpIn hro hi hS ⟨hS, H⟩
  have h1 := H.2 j (ready_mono hj hji);obtain ⟨hjun, oj, hoj, hall⟩ := mem_ready.1 hj;have h2 := wpOpIn_putS hro hoj (hfree j oj hoj hji hjun (not_waits (i := i) (j := j) hr hall)) (fun cs b => hsel i oi cs b hi) (fun cs b => hsel j oj cs b hoj) hQ hy h1
  have hfree' : ∀ k ok, ops[k]? = some ok -> k ≠ i -> (listed.setIfInBounds j true).getD k true = false ->
    (∀ e ∈ ok.after, Region.binds md e = true -> e.on ≠ i) -> oi.apart ops ok = true := fun k ok hk hki hun hno => by
   refine hfree k ok hk hki ?_ hno
   by_cases hjk : j = k
   ·subst hjk; exact hjun
   rw [getD_set_ne true hjk] at hun; exact hun
  refine wpOpIn_mono (fun a' w' h3 => ⟨h3.2.1, ih (listed.setIfInBounds j true) a' w' hfree' (ready_mono hr (Ne.symm hji)) h3.1 h3.2.1 ?_⟩) h2;rw [Array.setIfInBounds_comm _ _ hji]
  exact h3.2.2
theorem wpAnyS_take {i : Nat} {oi : Oper} {v : Value} {fuel : Nat} {listed : Array Bool} {a : Act} {w : World} (hro : F.round = none) (hi : ops[i]? = some oi)
  (hs : Region.noSelect ops = true) (hf : Region.free md ops listed i = true) (hr : (Region.ready md ops listed).contains i = true)
  (hQ : ∀ c a w, Q (.panic c) (a.put oi.dst v) w -> Q (.panic c) a w) (hy : YieldsIf P ops S oi v a) (hab : ∀ w, oi.about P w a.eval = none) (hS : S w)
  (h : wpAnyS F n P md ops Q S fuel (listed.setIfInBounds i true) (a.put oi.dst v) w) : wpAnyS F n P md ops Q S (fuel + 1) listed a w :=
 wpAnyS_first hro hi (Region.noSelect_spec hs) hQ fuel listed a w (Region.free_spec hi hf) (by simpa using hr) ⟨hy, hab⟩ hS h
theorem tks (i : Nat) {oi : Oper} {v : Value} {fuel : Nat} {listed : Array Bool} {a : Act} {w : World} (hro : F.round = none) (hi : ops[i]? = some oi) (hS : S w)
  (h : wpAnyS F n P md ops Q S fuel (listed.setIfInBounds i true) (a.put oi.dst v) w)
  (hw : Region.wanted oi (yielded ops a.tmps) = true := by rfl)
  (hy : ∀ w, S w -> (execOp a.eval oi).run P w = .ok (.value v) w := by (intro wz hSw; (try dsimp only at hSw); go_simp; try (with_reducible rfl)))
  (hab : ∀ w, oi.about P w a.eval = none := by exact fun _ => rfl)
  (hs : Region.noSelect ops = true := by kernel_rfl) (hf : Region.free md ops listed i = true := by kernel_rfl) (hr : (Region.ready md ops listed).contains i = true := by kernel_rfl)
  (hQ : ∀ c a w, Q (.panic c) (a.put oi.dst v) w -> Q (.panic c) a w := by exact fun _ _ _ h => h) : wpAnyS F n P md ops Q S (fuel + 1) listed a w :=
 wpAnyS_take hro hi hs hf hr hQ (Or.inl ⟨hw, hy⟩) hab hS h
theorem wpAnyS_one {i : Nat} {o : Oper} {fuel : Nat} {listed : Array Bool} {a : Act} {w : World} (hr : Region.ready md ops listed = [i]) (ho : ops[i]? = some o)
  (h : ∀ K' : Act -> World -> Prop, Shut (∀ a w, S w -> wpAnyS F n P md ops Q S fuel (listed.setIfInBounds i true) a w -> K' a w) -> if Region.wanted o (yielded ops a.tmps) = true then Oper.wpIn F n P o a w K' Q else (∀ f, o.about P w a.eval = some f -> F.fn f) /\ K' (a.put o.dst undef) w) : wpAnyS F n P md ops Q S (fuel + 1) listed a w := by
 refine ⟨fun h0 => (by rw [hr] at h0; cases h0), fun j hj => ?_⟩;rw [hr] at hj
 rcases List.mem_cons.1 hj with rfl | hj
 ·exact wpOpIn_step ho (fun K' hK => h K' (fun a w hS hW => hK a w ⟨hS, hW⟩))
 cases hj
theorem wpAnyS_done {listed : Array Bool} {a : Act} {w : World} (hr : Region.ready md ops listed = []) (h : Q .normal a w) : ∀ fuel, wpAnyS F n P md ops Q S fuel listed a w
 | 0 => ⟨hr, h⟩
 | _ + 1 => ⟨fun _ => h, by rw [hr]; simp⟩
theorem wpIn_region_S {id : Nat} {a : Act} {w : World} (S : World -> Prop) (hm : P.follows .mixedOrders = true)
  (h : wpAnyS F n P .any ops Q S ops.size (Array.replicate ops.size false) a w.drew) : (Code.region id ops true).wpIn F n P Q a w :=
 wpIn_region_any hm (wpAnyIn_of_S _ _ _ _ h)
end
section
variable {P : Program} {n : Nat} {α : Type}
def roundOn (B : Nat) (Kp : World -> World -> Prop) (I : List α -> World -> Prop) (xs : List α) (W : World) : Exit -> Act -> World -> Prop
 | .normal, _, W' => KeepsFrom B W W' /\ Kp W W' /\ I xs W'
 | _, _, _ => False
theorem wpIn_rows {g : Operand} {ps : Array Tmp} {assign body : Code} {Q : Exit -> Act -> World -> Prop} {a : Act} {w : World} {gf : Nat} {lb : Array Value}
  (hg : a.eval g = .func (.func gf) #[] lb) (eg : ∀ args w, (callFunc gf args).run P w = .ok (.enter gf args) w)
  {encs : α -> Array Value} (hps : ∀ x, (encs x).size = ps.size) (A : List α -> α -> World -> Prop) (Kp : World -> World -> Prop) (Sx : List α -> Prop) (I : List α -> World -> Prop)
  (hI : ∀ pre X Y, I pre X -> Below X.heap.size X Y -> I pre Y) (hIb : ∀ pre X l r r', I pre X -> X.heap[l]? = some (.loop r) -> w.heap.size < l -> I pre (X.putObj l (.loop r')))
  (hKb : ∀ X l r r', X.heap[l]? = some (.loop r) -> Kp X (X.putObj l (.loop r'))) (hKt : ∀ X Y Z, Kp X Y -> Kp Y Z -> Kp X Z) (h0 : I [] w)
  (hseq : ∀ (l : Nat) (J : List α -> World -> Prop) (W : World), (∀ pre X Y, J pre X -> Below X.heap.size X Y -> J pre Y) -> Below w.heap.size w W -> J [] W ->
   (∀ m pre x X, J pre X -> A pre x X -> YieldAt Fence.wide m P l (encs x) X fun e Y => e = .returned (.bool true) /\ J (pre ++ [x]) Y /\ Kp X Y) ->
   CallsIn Fence.wide (n - 1) P gf (#[.func (.yield l) #[] #[]] ++ lb) W fun e Y => (∃ v, e = .returned v) /\ ∃ xs, Sx xs /\ J xs Y)
  (hround : ∀ (m l : Nat) (pre : List α) (x : α) (X : World) (r : Loop), I pre X -> A pre x X -> X.heap[l]? = some (.loop r) -> w.heap.size < l ->
   assign.wpIn (Fence.wide.inRound l) m P (Exit.then (fun a' Y => KeepsFrom w.heap.size X Y /\ Kp X Y /\ body.wpIn (Fence.wide.inRound l) m P (roundOn w.heap.size Kp I (pre ++ [x]) (Y.putObj l (.loop { r with state := .busy }))) a' (Y.putObj l (.loop { r with state := .busy }))) (fun _ _ _ => False))
    { tmps := (ps.zip (encs x)).foldl (fun t (p, v) => t.setIfInBounds p v) a.tmps, defers := [] } X)
  (hdone : ∀ (D : Nat) (xs : List α) (W : World), w.heap.size <= D -> Sx xs -> I xs W -> W.heap[D]? = some (.deferred (some [])) -> Q .normal { a with defers := { target := .collected D, args := #[] } :: a.defers } W) :
  (Code.rangeFunc g ps assign body).wpIn Fence.wide n P Q a w := by
 refine wpIn_rangeFunc ?_;intro fn _;obtain ⟨r0, hr0⟩ : ∃ r0 : Loop, r0 = { state := .ready, pending := none, fn, tmps := a.tmps, params := ps, assign, body, defers := w.heap.size } := ⟨_, rfl⟩
 obtain ⟨W1, hW1⟩ : ∃ W1, W1 = (w.alloc (.deferred (some []))).alloc (.loop r0) := ⟨_, rfl⟩
 have b1 : Below w.heap.size w W1 := by rw [hW1]; exact ((Below.refl _ w).alloc (qA _) _).alloc (by simp) _
 have hL : W1.heap[w.heap.size + 1]? = some (.loop r0) := by
  rw [hW1]; have := World.alloc_heap_new (w.alloc (.deferred (some []))) (.loop r0); rwa [World.size_alloc] at this
 have hD : W1.heap[w.heap.size]? = some (.deferred (some [])) := by
  rw [hW1]; exact (Below.heap_alloc _ _ _ (by simp)).trans (World.alloc_heap_new w _)
 refine ⟨w.heap.size + 1, [{ target := .collected w.heap.size, args := #[] }], W1, { target := .fn (.func gf) lb, args := #[.func (.yield (w.heap.size + 1)) #[] #[]] }, W1, gf, #[.func (.yield (w.heap.size + 1)) #[] #[]] ++ lb, W1, ?_, ?_, ?_, ?_, ?_, ?_⟩
 ·rw [hW1, hr0]; exact run_enterLoop_outer _ _ _ _ _
 ·simp only [resolve, hg];simp [go_sem]
 ·intro f' _; trivial
 ·simp [invoke, go_sem, eg]
 ·intro h; simp [Fence.wide] at h
 refine (hseq (w.heap.size + 1) (fun pre W => I pre W /\ W.heap[w.heap.size + 1]? = some (.loop r0) /\ W.heap[w.heap.size]? = some (.deferred (some []))) W1 ?_ b1 ⟨hI _ _ _ h0 b1, hL, hD⟩ ?_).mono ?_
 ·rintro pre X Y ⟨i1, i2, i3⟩ hb
  exact ⟨hI _ _ _ i1 hb, (hb.block _ (Array.getElem?_eq_some_iff.1 i2).1).trans i2, (hb.block _ (Array.getElem?_eq_some_iff.1 i3).1).trans i3⟩
 ·rintro m pre x X ⟨i1, i2, i3⟩ hA;have hy := run_yield (P := P) (args := encs x) i2 (by rw [hr0]; exact hps x);rw [hr0] at hy;refine ⟨fn, _, assign, body, hy, roundIn_of_wpIn trivial (wpIn_mono (hround m _ pre x X r0 i1 hA i2 (by omega)) ?_)⟩;rintro e a' Y hp
  cases e with
  | normal =>
   obtain ⟨k1, k2, hb⟩ := hp;have j2 := k1.same _ _ (by omega) i2 rfl;have j3 := k1.same _ _ (qA _) i3 rfl;refine ⟨_, run_beginRound j2 (by rw [hr0]), wpIn_mono hb ?_⟩;rintro e a'' Z hq
   cases e with
   | normal =>
    obtain ⟨q1, q2, q3⟩ := hq;have hl : w.heap.size + 1 < Y.heap.size := (Array.getElem?_eq_some_iff.1 j2).1;have m2 := q1.same _ _ (by omega) (World.putObj_heap_same (o := .loop { r0 with state := .busy }) hl) rfl;have m3 := q1.same _ _ (qA _) ((World.putObj_heap_other (by omega)).trans j3) rfl;have hz : w.heap.size + 1 < Z.heap.size := (Array.getElem?_eq_some_iff.1 m2).1;refine ⟨_, _, run_endRound none m2, rfl, ⟨hIb _ _ _ _ _ q3 m2 (by omega), ?_, (World.putObj_heap_other (by omega)).trans m3⟩, hKt _ _ _ (hKt _ _ _ (hKt _ _ _ k2 (hKb _ _ _ _ j2)) q2) (hKb _ _ _ _ m2)⟩;rw [World.putObj_heap_same hz, hr0]
    rfl
   | ret => exact hq.elim
   | exit id => exact hq.elim
   | goto t => exact hq.elim
   | panic c => exact hq.elim
   | outgrown => exact hq.elim
  | ret => exact hp.elim
  | exit id => exact hp.elim
  | goto t => exact hp.elim
  | panic c => exact hp.elim
  | outgrown => exact hp.elim
 rintro e W2 ⟨⟨v, rfl⟩, xs, hS, i1, i2, i3⟩
 exact ⟨none, _, by have := run_endLoop (P := P) i2 (by rw [hr0]; simp); rw [hr0] at this; rw [hr0] at i2; exact this, hdone _ xs _ (qA _) hS (hIb _ _ _ _ _ i1 i2 (by omega)) ((World.putObj_heap_other (by omega)).trans i3)⟩
end
def Loose (o : Option Obj) : Prop := ∀ cs t fr, o = some (.cells cs t fr) -> (t = 4 \/ t = 113 \/ t = 108) /\ ∀ (i : Nat) q, cs[i]? ≠ some (.int .i64 q)
def KpR (X Y : World) : Prop := Touch (fun k => Loose X.heap[k]?) X Y
theorem KpR.refl (X : World) : KpR X X := Touch.refl _ _
theorem KpR.of (h : Below X.heap.size X Y) : KpR X Y := Touch.of h
theorem KpR.trans {Z : World} (h : KpR X Y) (k : KpR Y Z) : KpR X Z :=
 ⟨k.os.trans h.os, k.tape.trans h.tape, k.output.trans h.output, Nat.le_trans h.size k.size, fun i hi hn => by
  have e := h.block i hi hn;rw [k.block i (Nat.lt_of_lt_of_le hi h.size) (fun hl => hn (by rw [e] at hl; exact hl))]
  exact e⟩
theorem KpR.loop (X : World) (l : Nat) (r r' : Loop) (h : X.heap[l]? = some (.loop r)) : KpR X (X.putObj l (.loop r')) := by
 refine ⟨rfl, rfl, rfl, by simp [World.putObj], fun k hk hn => ?_⟩
 by_cases e : k = l
 ·subst e
  exact absurd (fun cs t fr hh => by rw [h] at hh; cases hh) hn
 exact World.putObj_heap_other e
theorem not_loose {b o : Nat} {q : Int} (h : X.cell? ⟨b, o, none⟩ = some (.int .i64 q)) : ¬ Loose X.heap[b]? := fun hl => by
 simp only [World.cell?] at h
 split at h
 ·rename_i c t fr hh
  have := (hl _ _ _ hh).2 o q;simp at h
  exact this (by simpa using h)
 cases h
theorem Ints.keepR {a : Option Addr} {n : Nat} {zs : List Int} (h : Ints X a n zs) (k : KpR X Y) : Ints Y a n zs := by
 refine ⟨h.1, fun i hi => ?_⟩;obtain ⟨b, off, e, hc⟩ := h.2 i hi;refine ⟨b, off, e, ?_⟩;rw [World.cell?_of_block (k.block b (block_lt hc) (not_loose hc))]; exact hc
theorem FormsAt.keepR {a : Option Addr} {fs : List Frm} (h : FormsAt X a fs) (k : KpR X Y) : FormsAt Y a fs := fun i hi => by
 obtain ⟨b, off, e, a', c', ca, cc, c0, c1, c2, iC, iD⟩ := h i hi;have hb := k.block b (block_lt c0) (not_loose c2)
 exact ⟨b, off, e, a', c', ca, cc, by rw [World.cell?_of_block hb]; exact c0, by rw [World.cell?_of_block hb]; exact c1, by rw [World.cell?_of_block hb]; exact c2, iC.keepR k, iD.keepR k⟩
theorem Cel.keepR {B : Nat} {vs : List Value} {t : TypeId} (h : Cel X B vs t) (k : KpR X Y) (h1 : t ≠ 4) (h2 : t ≠ 113) (h3 : t ≠ 108 := by decide) : Cel Y B vs t := by
 have hl := h.lt;unfold Cel at *;rw [k.block B hl (fun hl => by rcases (hl _ _ _ h).1 with e | e | e <;> contradiction)]; exact h
attribute [local go_sem] Oper.semAt_some
abbrev walkV (l : Nat) (sa : Option Addr) (N sc : Nat) : Value := .agg #[.slice sa N sc, .func (.yield l) #[] #[]]
def Went (J D : List RowM -> World -> Prop) (pre gs : List RowM) (b : Bool) (Y : World) : Prop := (b = true /\ J (pre ++ gs) Y) \/ (b = false /\ ∃ ms rest, gs = ms ++ rest /\ D (pre ++ ms) Y)
theorem Went.fst {J D : List RowM -> World -> Prop} {g1 g2 : List RowM} (h : Went J D pre g1 false Y) : Went J D pre (g1 ++ g2) false Y := by
 rcases h with ⟨h, _⟩ | ⟨_, ms, rest, rfl, d⟩
 ·cases h
 exact Or.inr ⟨rfl, ms, rest ++ g2, by rw [List.append_assoc], d⟩
theorem Went.snd {J D : List RowM -> World -> Prop} {g1 g2 : List RowM} {b : Bool} (h : Went J D (pre ++ g1) g2 b Y) : Went J D pre (g1 ++ g2) b Y := by
 rcases h with ⟨rfl, j⟩ | ⟨rfl, ms, rest, rfl, d⟩
 ·exact Or.inl ⟨rfl, by rw [<- List.append_assoc]; exact j⟩
 exact Or.inr ⟨rfl, g1 ++ ms, rest, by rw [List.append_assoc], by rw [<- List.append_assoc]; exact d⟩
theorem Went.on {J D : List RowM -> World -> Prop} {gs : List RowM} (h : Went J D pre gs true Y) : J (pre ++ gs) Y := by
 rcases h with ⟨_, j⟩ | ⟨h, _⟩
 ·exact j
 cases h
def RoundsD (l n₀ : Nat) (J D : List RowM -> World -> Prop) (M : Nat) : Prop := ∀ (m : Nat) (pre : List RowM) (v : Value) (r : RowM) (X : World), J pre X -> RowFit r -> RowX X n₀ v r -> pre.length < M -> YieldAt Fence.wide m Tryz.prog l #[v] X fun e Y => ∃ b : Bool, e = .returned (.bool b) /\ Went J D pre [r] b Y /\ KpR X Y
def Rounds (l n₀ : Nat) (J : List RowM -> World -> Prop) (M : Nat) : Prop := ∀ (m : Nat) (pre : List RowM) (v : Value) (r : RowM) (X : World), J pre X -> RowFit r -> RowX X n₀ v r -> pre.length < M -> YieldAt Fence.wide m Tryz.prog l #[v] X fun e Y => e = .returned (.bool true) /\ J (pre ++ [r]) Y /\ KpR X Y
theorem Rounds.noD {l n₀ : Nat} {J : List RowM -> World -> Prop} {M : Nat} (h : Rounds l n₀ J M) : RoundsD l n₀ J (fun _ _ => False) M := fun m pre v r X a b c d => by
 obtain ⟨fn, tmps, assign, body, hy, hR⟩ := h m pre v r X a b c d
 exact ⟨fn, tmps, assign, body, hy, hR.mono (fun e Y ⟨e1, e2, e3⟩ => ⟨true, e1, Or.inl ⟨rfl, e2⟩, e3⟩)⟩
theorem from_end (l n₀ : Nat) (J D : List RowM -> World -> Prop) (hJ : ∀ pre X Y, J pre X -> Below X.heap.size X Y -> J pre Y) (M : Nat) (hY : RoundsD l n₀ J D M) (sa : Option Addr) (N sc : Nat) (i0 : Nat) (hi : N <= i0) (hi1 : i0 <= 12) (y : Way) (pa : Option Addr) (cp : Nat) (ga : Option Addr) (ng gc : Nat) (ta : Option Addr) (nt tc : Nat) (st : Bool) (q : RowM) (pre : List RowM) (W : World) (n : Nat) (hn0 : n₀ <= W.heap.size) (h0 : J pre W) (hq : RowFit q) (hM : pre.length < M)
  (hrow : ∀ X, Below W.heap.size W X -> Calls Tryz.prog 156 #[wayV ga ng gc pa cp ta nt tc st] X fun e X' => ∃ v, e = .returned v /\ Below X.heap.size X X' /\ RowX X' X.heap.size v q) :
  CallsIn Fence.wide n Tryz.prog 142 #[walkV l sa N sc, .int .i64 (i0 : Int), wayV ga ng gc pa cp ta nt tc st] W fun e W' => ∃ b : Bool, e = .returned (.bool b) /\ Went J D pre [q] b W' /\ KpR W W' := by
 have hge : (N : Int) <= i0 := by omega
 have A : Below W.heap.size W ((W.alloc (.cells #[.slice sa N sc, .func (.yield l) #[] #[]] 197)).alloc (.cells #[.slice ga ng gc, .slice pa 3 cp, .slice ta nt tc, .bool st] 200)) := (bal).alloc (by simp) _;have x0 := (Cel.new W [.slice sa N sc, .func (.yield l) #[] #[]] 197).alloc (.cells #[.slice ga ng gc, .slice pa 3 cp, .slice ta nt tc, .bool st] 200);have y0 := Cel.new (W.alloc (.cells #[.slice sa N sc, .func (.yield l) #[] #[]] 197)) [.slice ga ng gc, .slice pa 3 cp, .slice ta nt tc, .bool st] 200;rw [World.size_alloc] at y0;refine callsIn_of_wp Tryz.func142 rfl trivial ?_ rfl;simp only [Tryz.ntmps142, List.size_toArray, List.length_cons, List.length_nil, Nat.reduceAdd, Nat.reduceSub, Array.replicate_succ, Array.replicate_zero, List.push_toArray, List.append_toArray, List.nil_append, List.cons_append]
 gi_wp2_with fail
 obtain ⟨W0, hW0⟩ : ∃ W0, W0 = (W.alloc (.cells #[.slice sa N sc, .func (.yield l) #[] #[]] 197)).alloc (.cells #[.slice ga ng gc, .slice pa 3 cp, .slice ta nt tc, .bool st] 200) := ⟨_, rfl⟩
 rw [<- hW0] at A x0 y0 ⊢;clear hW0
 have KP : Hid (∀ X, KpR W0 X -> ((X.cell? ⟨W.heap.size, 0, none⟩ = some (.slice sa N sc) /\ X.cell? ⟨W.heap.size, 1, none⟩ = some (.func (.yield l) #[] #[])) /\ (X.cell? ⟨W.heap.size + 1, 0, none⟩ = some (.slice ga ng gc) /\ X.cell? ⟨W.heap.size + 1, 1, none⟩ = some (.slice pa 3 cp) /\ X.cell? ⟨W.heap.size + 1, 2, none⟩ = some (.slice ta nt tc) /\ X.cell? ⟨W.heap.size + 1, 3, none⟩ = some (.bool st)))) := fun X hX => by
  have a1 := x0.keepR hX (by decide) (by decide);have a2 := y0.keepR hX (by decide) (by decide)
  exact ⟨⟨a1.cell 0, a1.cell 1⟩, a2.four⟩
 have e0 : Below W0.heap.size W0 W0.drew := (Below.refl _ _).drew;have hSS := KP.out _ (KpR.of e0);refine wpIn_region_S (fun w' => (w'.cell? ⟨W.heap.size, 0, none⟩ = some (.slice sa N sc) /\ w'.cell? ⟨W.heap.size, 1, none⟩ = some (.func (.yield l) #[] #[])) /\ (w'.cell? ⟨W.heap.size + 1, 0, none⟩ = some (.slice ga ng gc) /\ w'.cell? ⟨W.heap.size + 1, 1, none⟩ = some (.slice pa 3 cp) /\ w'.cell? ⟨W.heap.size + 1, 2, none⟩ = some (.slice ta nt tc) /\ w'.cell? ⟨W.heap.size + 1, 3, none⟩ = some (.bool st))) (by kernel_rfl) ?_;refine tks 0 rfl rfl hSS ?_;refine tks 1 rfl rfl hSS ?_;refine tks 2 rfl rfl hSS ?_;clear hSS;refine wpAnyS_one (i := 3) (by kernel_rfl) rfl (fun K hK => ?_);go_simp;refine ⟨trivial, fun h => by simp [Fence.wide] at h, (callsIn_wide.2 (hrow _ (btr A e0))).mono ?_⟩;rintro e w1 ⟨v, rfl, bd1, rx⟩;have b1 : Below W0.heap.size W0 w1 := below_of_drew bd1;have hS1 := KP.out _ (KpR.of b1);have J1 := hJ _ _ _ h0 (btr A b1);have sA := A.size
 have rx' : RowX w1 n₀ v q := by
  obtain ⟨ga', gc', aa, ac, ta', tc', e, f0, f1, f2⟩ := rx;have hs : n₀ <= W0.drew.heap.size := by show n₀ <= W0.heap.size; omega
  exact ⟨ga', gc', aa, ac, ta', tc', e, f0.mono (fun k hk => by omega), f1.mono (fun k hk => by omega), f2.mono (fun k hk => by omega)⟩
 (try dsimp only);refine hK.out _ _ hS1 ?_;clear hK K bd1 rx;obtain ⟨fn, tmps, assign, body, hy, hR⟩ := hY (n - 1) pre v q w1 J1 hq rx' hM;refine wpAnyS_one (i := 4) (by kernel_rfl) rfl (fun K hK => ?_);go_simp;refine ⟨fun h => by simp [Fence.wide] at h, hR.mono ?_⟩;rintro e w2 ⟨b2, rfl, J2, k2⟩;have K2 := (KpR.of b1).trans k2;have hS2 := KP.out _ K2;(try dsimp only);refine hK.out _ _ hS2 ?_;clear hK K hR hy;refine wpAnyS_one (i := 5) (by kernel_rfl) rfl (fun K hK => ?_);go_simp;refine hK.out _ _ hS2 ?_;refine wpAnyS_done (by kernel_rfl) ?_ _;have KK := (KpR.of A).trans K2;clear KP hS1 hS2 x0 y0
 gi_wp2
 go_ret
 exact ⟨b2, rfl, J2, KK⟩
end Go.Proofs.YtfmpcihghlnlnaaGreatDoor
