/-
  Lemmas that the claim's last text rests on.
-/
import Derived.Deep.RegionHeld3
import Derived.RegionTactic
import Derived.BigRegion
import Derived.Test.YtpmihhbgjimpmaaGreatDoorSxA
namespace Go.Proofs.YtpmihhbgjimpmaaGreatDoor
open Go.RowKit
open Option.some renaming injEq → qA
open Addr.mk renaming injEq → qB
open World renaming size_alloc → qC
open List renaming getElem?_eq_getElem → qD, getElem?_cons_zero → qE, getElem?_cons_succ → qF, length_cons → qG, length_nil → qH
open Nat renaming le_refl → qI, zero_le → qJ
set_option linter.unusedVariables false
set_option maxRecDepth 100000
set_option maxHeartbeats 25600000
variable {B1 B2 R cap lo n : Nat} {C D bs xs ys zs : List Int} {S : Nat -> Prop} {W w : World} {a : Option Addr} {p : Int} {v : Value}
section
variable {P : Program} {ops : Array Oper} {Q : Exit -> Act -> World -> Prop} {md : Region.Mode} {S0 S : World -> Prop} {s : Nat}
def wpAnyE (P : Program) (md : Region.Mode) (ops : Array Oper) (Q : Exit -> Act -> World -> Prop) (S0 S : World -> Prop) (s : Nat) : Nat -> Array Bool -> Act -> World -> Prop
 | 0, listed, a, w => Region.ready md ops listed = [] /\ Q .normal a w
 | fuel + 1, listed, a, w =>
  (Region.ready md ops listed = [] -> Q .normal a w) /\
  ∀ i ∈ Region.ready md ops listed, wpOp P ops Q i (fun a' w' => (S0 w' /\ ((listed.setIfInBounds i true).getD s true = false -> S w')) /\ wpAnyE P md ops Q S0 S s fuel (listed.setIfInBounds i true) a' w') a w
theorem wpAny_of_ends : ∀ (fuel : Nat) (listed : Array Bool) (a : Act) (w : World), wpAnyE P md ops Q S0 S s fuel listed a w -> wpAny P md ops Q fuel listed a w
 | 0, _, _, _, h => h
 | fuel + 1, _, _, _, h => ⟨h.1, fun i hi => wpOp_mono (fun a' w' h' => wpAny_of_ends fuel _ a' w' h'.2) (h.2 i hi)⟩
theorem not_waits {i j : Nat} {listed : Array Bool} {oj : Oper} (hr : i ∈ Region.ready md ops listed) (hall : ∀ e ∈ oj.after, Region.binds md e = true -> listed.getD e.on false = true) : ∀ e ∈ oj.after, Region.binds md e = true -> e.on ≠ i := fun e he hb heq => by
 have h1 := hall e he hb;have h0 := (mem_ready.1 hr).1;rw [heq] at h1
 rcases Nat.lt_or_ge i listed.size with h' | h'
 ·simp [h'] at h0 h1; rw [h0] at h1; cases h1
 simp [Array.getElem?_eq_none h'] at h1
theorem wpAnyE_first0 {i : Nat} {oi : Oper} {v : Value} (hi : ops[i]? = some oi) (hsel : ∀ (j : Nat) (o : Oper) cs b, ops[j]? = some o -> o.op ≠ .select cs b)
  (hQ : ∀ c a w, Q (.panic c) (a.put oi.dst v) w -> Q (.panic c) a w) (his : i ≠ s) :
  ∀ (fuel : Nat) (listed : Array Bool) (a : Act) (w : World),
   (∀ j oj, ops[j]? = some oj -> j ≠ i -> listed.getD j true = false -> (∀ e ∈ oj.after, Region.binds md e = true -> e.on ≠ i) -> oi.apart ops oj = true) ->
   i ∈ Region.ready md ops listed -> YieldsIf P ops S0 oi v a -> (S0 w /\ (listed.getD s true = false -> S w)) ->
   wpAnyE P md ops Q S0 S s fuel (listed.setIfInBounds i true) (a.put oi.dst v) w -> wpAnyE P md ops Q S0 S s (fuel + 1) listed a w := by
 intro fuel
 induction fuel with
 | zero =>
  intro listed a w _ hr hy hS H;refine ⟨fun h => (by rw [h] at hr; cases hr), fun j hj => ?_⟩
  by_cases hji : j = i
  ·subst hji; exact hy.wpOp hi hS.1 ⟨⟨hS.1, fun h => hS.2 (by rw [getD_set_ne true his] at h; exact h)⟩, H⟩
  have := ready_mono hj hji;rw [H.1] at this
  cases this
 | succ fuel ih =>
  intro listed a w hfree hr hy hS H;refine ⟨fun h => (by rw [h] at hr; cases hr), fun j hj => ?_⟩
  by_cases hji : j = i
  ·subst hji; exact hy.wpOp hi hS.1 ⟨⟨hS.1, fun h => hS.2 (by rw [getD_set_ne true his] at h; exact h)⟩, H⟩
  have h1 := H.2 j (ready_mono hj hji);obtain ⟨hjun, oj, hoj, hall⟩ := mem_ready.1 hj;have h2 := wpOp_putIf hoj (hfree j oj hoj hji hjun (not_waits (i := i) (j := j) hr hall)) (fun cs b => hsel i oi cs b hi) (fun cs b => hsel j oj cs b hoj) hQ hy h1
  have hfree' : ∀ k ok, ops[k]? = some ok -> k ≠ i -> (listed.setIfInBounds j true).getD k true = false ->
    (∀ e ∈ ok.after, Region.binds md e = true -> e.on ≠ i) -> oi.apart ops ok = true := fun k ok hk hki hun hno => by
   refine hfree k ok hk hki ?_ hno
   by_cases hjk : j = k
   ·subst hjk; exact hjun
   rw [getD_set_ne true hjk] at hun; exact hun
  refine wpOp_mono (fun a' w' h3 => ?_) h2;have hS' : S0 w' /\ ((listed.setIfInBounds j true).getD s true = false -> S w') := ⟨h3.2.1.1, fun h => h3.2.1.2 (by rw [Array.setIfInBounds_comm _ _ (Ne.symm hji), getD_set_ne true his]; exact h)⟩
  refine ⟨hS', ih (listed.setIfInBounds j true) a' w' hfree' (ready_mono hr (Ne.symm hji)) h3.1 hS' ?_⟩;rw [Array.setIfInBounds_comm _ _ hji]
  exact h3.2.2
theorem wpAnyE_first1 {i : Nat} {oi os : Oper} {v : Value} (hi : ops[i]? = some oi) (hsel : ∀ (j : Nat) (o : Oper) cs b, ops[j]? = some o -> o.op ≠ .select cs b)
  (hQ : ∀ c a w, Q (.panic c) (a.put oi.dst v) w -> Q (.panic c) a w) (his : i ≠ s) (hos : ops[s]? = some os) (hw : ∃ e ∈ os.after, Region.binds md e = true /\ e.on = i) :
  ∀ (fuel : Nat) (listed : Array Bool) (a : Act) (w : World),
   (∀ j oj, ops[j]? = some oj -> j ≠ i -> listed.getD j true = false -> (∀ e ∈ oj.after, Region.binds md e = true -> e.on ≠ i) -> oi.apart ops oj = true) ->
   i ∈ Region.ready md ops listed -> listed.getD s true = false -> YieldsIf P ops S oi v a -> (S0 w /\ (listed.getD s true = false -> S w)) ->
   wpAnyE P md ops Q S0 S s fuel (listed.setIfInBounds i true) (a.put oi.dst v) w -> wpAnyE P md ops Q S0 S s (fuel + 1) listed a w := by
 intro fuel
 induction fuel with
 | zero =>
  intro listed a w _ hr hls hy hS H;refine ⟨fun h => (by rw [h] at hr; cases hr), fun j hj => ?_⟩
  by_cases hji : j = i
  ·subst hji; exact hy.wpOp hi (hS.2 hls) ⟨⟨hS.1, fun h => hS.2 (by rw [getD_set_ne true his] at h; exact h)⟩, H⟩
  have := ready_mono hj hji;rw [H.1] at this
  cases this
 | succ fuel ih =>
  intro listed a w hfree hr hls hy hS H;refine ⟨fun h => (by rw [h] at hr; cases hr), fun j hj => ?_⟩
  by_cases hji : j = i
  ·subst hji; exact hy.wpOp hi (hS.2 hls) ⟨⟨hS.1, fun h => hS.2 (by rw [getD_set_ne true his] at h; exact h)⟩, H⟩
  have h1 := H.2 j (ready_mono hj hji);obtain ⟨hjun, oj, hoj, hall⟩ := mem_ready.1 hj;have hnot := not_waits (i := i) (j := j) hr hall
  have hjs : j ≠ s := fun e => by
   subst e;rw [hos] at hoj;obtain ⟨x, hx, hb, ho⟩ := hw;rw [qA] at hoj;subst hoj
   exact hnot x hx hb ho
  have h2 := wpOp_putIf hoj (hfree j oj hoj hji hjun hnot) (fun cs b => hsel i oi cs b hi) (fun cs b => hsel j oj cs b hoj) hQ hy h1
  have hfree' : ∀ k ok, ops[k]? = some ok -> k ≠ i -> (listed.setIfInBounds j true).getD k true = false ->
    (∀ e ∈ ok.after, Region.binds md e = true -> e.on ≠ i) -> oi.apart ops ok = true := fun k ok hk hki hun hno => by
   refine hfree k ok hk hki ?_ hno
   by_cases hjk : j = k
   ·subst hjk; exact hjun
   rw [getD_set_ne true hjk] at hun; exact hun
  have hls' : (listed.setIfInBounds j true).getD s true = false := by rw [getD_set_ne true hjs]; exact hls
  refine wpOp_mono (fun a' w' h3 => ?_) h2;have hS' : S0 w' /\ ((listed.setIfInBounds j true).getD s true = false -> S w') := ⟨h3.2.1.1, fun h => h3.2.1.2 (by rw [Array.setIfInBounds_comm _ _ (Ne.symm hji), getD_set_ne true his]; exact h)⟩
  refine ⟨hS', ih (listed.setIfInBounds j true) a' w' hfree' (ready_mono hr (Ne.symm hji)) hls' h3.1 hS' ?_⟩;rw [Array.setIfInBounds_comm _ _ hji]
  exact h3.2.2
theorem wpAnyE_take0 {i : Nat} {oi : Oper} {v : Value} {fuel : Nat} {listed : Array Bool} {a : Act} {w : World} (hi : ops[i]? = some oi)
  (hs : Region.noSelect ops = true) (hf : Region.free md ops listed i = true) (hr : (Region.ready md ops listed).contains i = true) (his : i ≠ s)
  (hQ : ∀ c a w, Q (.panic c) (a.put oi.dst v) w -> Q (.panic c) a w) (hy : YieldsIf P ops S0 oi v a) (hS : S0 w /\ S w)
  (h : wpAnyE P md ops Q S0 S s fuel (listed.setIfInBounds i true) (a.put oi.dst v) w) : wpAnyE P md ops Q S0 S s (fuel + 1) listed a w :=
 wpAnyE_first0 hi (Region.noSelect_spec hs) hQ his fuel listed a w (Region.free_spec hi hf) (by simpa using hr) hy ⟨hS.1, fun _ => hS.2⟩ h
theorem wpAnyE_take1 {i : Nat} {oi os : Oper} {v : Value} {fuel : Nat} {listed : Array Bool} {a : Act} {w : World} (hi : ops[i]? = some oi) (hos : ops[s]? = some os)
  (hs : Region.noSelect ops = true) (hf : Region.free md ops listed i = true) (hr : (Region.ready md ops listed).contains i = true) (his : i ≠ s) (hls : listed.getD s true = false)
  (hw : ∃ e ∈ os.after, Region.binds md e = true /\ e.on = i)
  (hQ : ∀ c a w, Q (.panic c) (a.put oi.dst v) w -> Q (.panic c) a w) (hy : YieldsIf P ops S oi v a) (hS : S0 w /\ S w)
  (h : wpAnyE P md ops Q S0 S s fuel (listed.setIfInBounds i true) (a.put oi.dst v) w) : wpAnyE P md ops Q S0 S s (fuel + 1) listed a w :=
 wpAnyE_first1 hi (Region.noSelect_spec hs) hQ his hos hw fuel listed a w (Region.free_spec hi hf) (by simpa using hr) hls hy ⟨hS.1, fun _ => hS.2⟩ h
theorem kk0 {S0 : World -> Prop} {c : Prop} {R K : Act -> World -> Prop} (hK : Shut (∀ a w, (S0 w /\ (c -> True)) -> R a w -> K a w)) {a : Act} {w : World} (h : S0 w) (hr : R a w) : K a w := hK.out a w ⟨h, fun _ => trivial⟩ hr
theorem tkE {i : Nat} {oi : Oper} {v : Value} {fuel : Nat} {listed : Array Bool} {a : Act} {w : World} (hi : ops[i]? = some oi) (hy : YieldsIf P ops S0 oi v a) (hS : S0 w /\ S w)
  (h : wpAnyE P md ops Q S0 S s fuel (listed.setIfInBounds i true) (a.put oi.dst v) w)
  (hs : Region.noSelect ops = true := by kernel_rfl) (hf : Region.free md ops listed i = true := by kernel_rfl) (hr : (Region.ready md ops listed).contains i = true := by kernel_rfl) (his : i ≠ s := by decide)
  (hQ : ∀ c a w, Q (.panic c) (a.put oi.dst v) w -> Q (.panic c) a w := by exact fun _ _ _ h => h) : wpAnyE P md ops Q S0 S s (fuel + 1) listed a w :=
 wpAnyE_take0 hi hs hf hr his hQ hy hS h
theorem tkl (i : Nat) {oi : Oper} {v : Value} {fuel : Nat} {listed : Array Bool} {a : Act} {w : World} (hi : ops[i]? = some oi) (hS : S0 w /\ S w)
  (h : wpAnyE P md ops Q S0 S s fuel (listed.setIfInBounds i true) (a.put oi.dst v) w)
  (hw : Region.wanted oi (yielded ops a.tmps) = true := by rfl)
  (hy : ∀ w, S0 w -> (execOp a.eval oi).run P w = .ok (.value v) w := by (intro wz hSw; (try dsimp only at hSw); go_simp; try (with_reducible rfl)))
  (hs : Region.noSelect ops = true := by kernel_rfl) (hf : Region.free md ops listed i = true := by kernel_rfl) (hr : (Region.ready md ops listed).contains i = true := by kernel_rfl) (his : i ≠ s := by decide)
  (hQ : ∀ c a w, Q (.panic c) (a.put oi.dst v) w -> Q (.panic c) a w := by exact fun _ _ _ h => h) : wpAnyE P md ops Q S0 S s (fuel + 1) listed a w :=
 wpAnyE_take0 hi hs hf hr his hQ (Or.inl ⟨hw, hy⟩) hS h
theorem tku (i : Nat) {oi : Oper} {fuel : Nat} {listed : Array Bool} {a : Act} {w : World} (hi : ops[i]? = some oi) (hS : S0 w /\ S w)
  (h : wpAnyE P md ops Q S0 S s fuel (listed.setIfInBounds i true) (a.put oi.dst undef) w)
  (hw : Region.wanted oi (yielded ops a.tmps) = false := by kernel_rfl)
  (hs : Region.noSelect ops = true := by kernel_rfl) (hf : Region.free md ops listed i = true := by kernel_rfl) (hr : (Region.ready md ops listed).contains i = true := by kernel_rfl) (his : i ≠ s := by decide)
  (hQ : ∀ c a w, Q (.panic c) (a.put oi.dst undef) w -> Q (.panic c) a w := by exact fun _ _ _ h => h) : wpAnyE P md ops Q S0 S s (fuel + 1) listed a w :=
 wpAnyE_take0 hi hs hf hr his hQ (Or.inr ⟨hw, rfl⟩) hS h
theorem tkM {i : Nat} {oi os : Oper} {v : Value} {fuel : Nat} {listed : Array Bool} {a : Act} {w : World} (hi : ops[i]? = some oi) (hos : ops[s]? = some os) (hS : S0 w /\ S w)
  (h : wpAnyE P md ops Q S0 S s fuel (listed.setIfInBounds i true) (a.put oi.dst v) w)
  (hw : Region.wanted oi (yielded ops a.tmps) = true := by rfl)
  (hy : ∀ w, S w -> (execOp a.eval oi).run P w = .ok (.value v) w := by (intro wz hSw; (try dsimp only at hSw); go_simp; try (with_reducible rfl)))
  (hs : Region.noSelect ops = true := by kernel_rfl) (hf : Region.free md ops listed i = true := by kernel_rfl) (hr : (Region.ready md ops listed).contains i = true := by kernel_rfl) (his : i ≠ s := by decide)
  (hls : listed.getD s true = false := by rfl) (hb : ∃ e ∈ os.after, Region.binds md e = true /\ e.on = i := by simp [Region.binds])
  (hQ : ∀ c a w, Q (.panic c) (a.put oi.dst v) w -> Q (.panic c) a w := by exact fun _ _ _ h => h) : wpAnyE P md ops Q S0 S s (fuel + 1) listed a w :=
 wpAnyE_take1 hi hos hs hf hr his hls hb hQ (Or.inl ⟨hw, hy⟩) hS h
theorem wpAnyE_one {i : Nat} {o : Oper} {fuel : Nat} {listed : Array Bool} {a : Act} {w : World} (hr : Region.ready md ops listed = [i]) (ho : ops[i]? = some o)
  (h : ∀ K' : Act -> World -> Prop, Shut (∀ a w, (S0 w /\ ((listed.setIfInBounds i true).getD s true = false -> S w)) -> wpAnyE P md ops Q S0 S s fuel (listed.setIfInBounds i true) a w -> K' a w) -> if Region.wanted o (yielded ops a.tmps) = true then Oper.wp P o a w K' Q else K' (a.put o.dst undef) w) : wpAnyE P md ops Q S0 S s (fuel + 1) listed a w := by
 refine ⟨fun h0 => (by rw [hr] at h0; cases h0), fun j hj => ?_⟩;rw [hr] at hj
 rcases List.mem_cons.1 hj with rfl | hj
 ·exact wpOp_step ho (fun K' hK => h K' (fun a w hS hW => hK a w ⟨hS, hW⟩))
 cases hj
theorem wo1 (i : Nat) {o : Oper} {fuel : Nat} {listed : Array Bool} {a : Act} {w : World} (ho : ops[i]? = some o)
  (h : ∀ K' : Act -> World -> Prop, Shut (∀ a w, (S0 w /\ ((listed.setIfInBounds i true).getD s true = false -> S w)) -> wpAnyE P md ops Q S0 S s fuel (listed.setIfInBounds i true) a w -> K' a w) -> if Region.wanted o (yielded ops a.tmps) = true then Oper.wp P o a w K' Q else K' (a.put o.dst undef) w) (hr : Region.ready md ops listed = [i] := by kernel_rfl) : wpAnyE P md ops Q S0 S s (fuel + 1) listed a w := by
 refine ⟨fun h0 => (by rw [hr] at h0; cases h0), fun j hj => ?_⟩;rw [hr] at hj
 rcases List.mem_cons.1 hj with rfl | hj
 ·exact wpOp_step ho (fun K' hK => h K' (fun a w hS hW => hK a w ⟨hS, hW⟩))
 cases hj
theorem wpAnyE_two {i j : Nat} {oi oj : Oper} {fuel : Nat} {listed : Array Bool} {a : Act} {w : World} (hr : Region.ready md ops listed = [i, j]) (hi : ops[i]? = some oi) (hj : ops[j]? = some oj)
  (h1 : ∀ K' : Act -> World -> Prop, Shut (∀ a w, (S0 w /\ ((listed.setIfInBounds i true).getD s true = false -> S w)) -> wpAnyE P md ops Q S0 S s fuel (listed.setIfInBounds i true) a w -> K' a w) -> if Region.wanted oi (yielded ops a.tmps) = true then Oper.wp P oi a w K' Q else K' (a.put oi.dst undef) w)
  (h2 : ∀ K' : Act -> World -> Prop, Shut (∀ a w, (S0 w /\ ((listed.setIfInBounds j true).getD s true = false -> S w)) -> wpAnyE P md ops Q S0 S s fuel (listed.setIfInBounds j true) a w -> K' a w) -> if Region.wanted oj (yielded ops a.tmps) = true then Oper.wp P oj a w K' Q else K' (a.put oj.dst undef) w) : wpAnyE P md ops Q S0 S s (fuel + 1) listed a w := by
 refine ⟨fun h0 => (by rw [hr] at h0; cases h0), fun z hz => ?_⟩;rw [hr] at hz
 rcases List.mem_cons.1 hz with rfl | hz
 ·exact wpOp_step hi (fun K' hK => h1 K' (fun a w hS hW => hK a w ⟨hS, hW⟩))
 rcases List.mem_cons.1 hz with rfl | hz
 ·exact wpOp_step hj (fun K' hK => h2 K' (fun a w hS hW => hK a w ⟨hS, hW⟩))
 cases hz
theorem wo2 (i j : Nat) {oi oj : Oper} {fuel : Nat} {listed : Array Bool} {a : Act} {w : World} (hi : ops[i]? = some oi) (hj : ops[j]? = some oj)
  (h1 : ∀ K' : Act -> World -> Prop, Shut (∀ a w, (S0 w /\ ((listed.setIfInBounds i true).getD s true = false -> S w)) -> wpAnyE P md ops Q S0 S s fuel (listed.setIfInBounds i true) a w -> K' a w) -> if Region.wanted oi (yielded ops a.tmps) = true then Oper.wp P oi a w K' Q else K' (a.put oi.dst undef) w)
  (h2 : ∀ K' : Act -> World -> Prop, Shut (∀ a w, (S0 w /\ ((listed.setIfInBounds j true).getD s true = false -> S w)) -> wpAnyE P md ops Q S0 S s fuel (listed.setIfInBounds j true) a w -> K' a w) -> if Region.wanted oj (yielded ops a.tmps) = true then Oper.wp P oj a w K' Q else K' (a.put oj.dst undef) w) (hr : Region.ready md ops listed = [i, j] := by kernel_rfl) : wpAnyE P md ops Q S0 S s (fuel + 1) listed a w := by
 refine ⟨fun h0 => (by rw [hr] at h0; cases h0), fun z hz => ?_⟩;rw [hr] at hz
 rcases List.mem_cons.1 hz with rfl | hz
 ·exact wpOp_step hi (fun K' hK => h1 K' (fun a w hS hW => hK a w ⟨hS, hW⟩))
 rcases List.mem_cons.1 hz with rfl | hz
 ·exact wpOp_step hj (fun K' hK => h2 K' (fun a w hS hW => hK a w ⟨hS, hW⟩))
 cases hz
theorem wpAnyE_done {listed : Array Bool} {a : Act} {w : World} (hr : Region.ready md ops listed = []) (h : Q .normal a w) : ∀ fuel, wpAnyE P md ops Q S0 S s fuel listed a w
 | 0 => ⟨hr, h⟩
 | _ + 1 => ⟨fun _ => h, by rw [hr]; simp⟩
theorem wp_region_ends {id : Nat} {a : Act} {w : World} (S0 S : World -> Prop) (s : Nat) (hm : P.follows .mixedOrders = true)
  (h : wpAnyE P .any ops Q S0 S s ops.size (Array.replicate ops.size false) a w.drew) : (Code.region id ops true).wp P Q a w :=
 wp_region_any hm (wpAny_of_ends _ _ _ _ h)
theorem wod {listed : Array Bool} {a : Act} {w : World} (h : Q .normal a w) (fuel : Nat) (hr : Region.ready md ops listed = [] := by kernel_rfl) : wpAnyE P md ops Q S0 S s fuel listed a w := wpAnyE_done hr h fuel
end
structure F32 (w : World) (lo B1 B2 : Nat) (C D : List Int) : Prop where
 k1 : Blk w B1 C
 k2 : Blk w B2 D
 l1 : C.length = 3
 l2 : D.length = 2
 b1 : lo <= B1
 b2 : lo <= B2
 ne : B1 ≠ B2
theorem F32.below {w' : World} (h : F32 w lo B1 B2 C D) (b : Below w.heap.size w w') : F32 w' lo B1 B2 C D := ⟨h.k1.below b, h.k2.below b, h.l1, h.l2, h.b1, h.b2, h.ne⟩
theorem F32.setOther {X : Nat} (h : F32 w lo B1 B2 C D) (h1 : B1 ≠ X) (h2 : B2 ≠ X) (i : Nat) (v : Value) : F32 (w.setCell ⟨X, i, none⟩ v) lo B1 B2 C D := ⟨h.k1.setOther h1 _ _, h.k2.setOther h2 _ _, h.l1, h.l2, h.b1, h.b2, h.ne⟩
theorem F32.setD (h : F32 w lo B1 B2 C D) (i : Nat) (x : Int) : F32 (w.setCell ⟨B2, i, none⟩ (.int .i64 x)) lo B1 B2 C (D.set i x) := ⟨h.k1.setOther h.ne _ _, h.k2.set i x, h.l1, by rw [List.length_set]; exact h.l2, h.b1, h.b2, h.ne⟩
theorem F32.setC (h : F32 w lo B1 B2 C D) (i : Nat) (x : Int) : F32 (w.setCell ⟨B1, i, none⟩ (.int .i64 x)) lo B1 B2 (C.set i x) D := ⟨h.k1.set i x, h.k2.setOther (fun e => h.ne e.symm) _ _, by rw [List.length_set]; exact h.l1, h.l2, h.b1, h.b2, h.ne⟩
theorem F32.mono {lo' : Nat} (h : F32 w lo B1 B2 C D) (hl : lo' <= lo) : F32 w lo' B1 B2 C D := ⟨h.k1, h.k2, h.l1, h.l2, Nat.le_trans hl h.b1, Nat.le_trans hl h.b2, h.ne⟩
theorem szero_f : Calls Tryz.prog 172 #[] w fun e w' => ∃ B1 B2, e = .returned (formV (some ⟨B1, 0, none⟩) 3 3 (some ⟨B2, 0, none⟩) 2 2 0) /\ Below w.heap.size w w' /\ F32 w' w.heap.size B1 B2 [0, 0, 0] [0, 0] :=
 (szero_any w).mono fun e w' ⟨B1, B2, he, hb, h1, h2, h3, k1, k2⟩ => ⟨B1, B2, he, hb, k1, k2, rfl, rfl, h1, h3, h2⟩
theorem num_f (a b k : Int) {w : World} : Calls Tryz.prog 170 #[.int .i64 a, .int .i64 b, .int .i64 k] w fun e w' => ∃ B1 B2, e = .returned (formV (some ⟨B1, 0, none⟩) 3 3 (some ⟨B2, 0, none⟩) 2 2 k) /\ Below w.heap.size w w' /\ F32 w' w.heap.size B1 B2 [0, 0, 0] [a, b] := by
 have bx := Cel.new w [.slice none 0 0, .slice none 0 0, .int .i64 0] 95;have B0 := (Below.refl w.heap.size w).alloc (qI _) (.cells #[.slice none 0 0, .slice none 0 0, .int .i64 0] 95)
 go_enter Tryz.func170, Tryz.ntmps170
 go_wp2_with fail
 refine (szero_f).mono ?_;rintro e w1 ⟨B1, B2, rfl, b1, f1⟩;have al := (Below.refl w1.heap.size w1).alloc (qI _) (.cells #[.slice (some ⟨B1, 0, none⟩) 3 3, .slice (some ⟨B2, 0, none⟩) 2 2, .int .i64 0] 95);have b2 := btr b1 al;have bx2 := bx.below b2;have BW := btr B0 b2;have f2 := f1.below al;have cb := Cel.new w1 [.slice (some ⟨B1, 0, none⟩) 3 3, .slice (some ⟨B2, 0, none⟩) 2 2, .int .i64 0] 95;have z1 := f1.b1;have z2 := f1.b2;rw [qC] at z1 z2;have lt1 := f1.k1.lt;have lt2 := f1.k2.lt;obtain ⟨W1, hW1⟩ : ∃ W, W = w1.alloc (.cells #[.slice (some ⟨B1, 0, none⟩) 3 3, .slice (some ⟨B2, 0, none⟩) 2 2, .int .i64 0] 95) := ⟨_, rfl⟩
 have hbw := bx.lt;have hlw : w.heap.size < w1.heap.size := (bx.below b1).lt
 go_upto_region 2 with fail
 rw [<- hW1] at bx2 BW f2 cb ⊢;clear hW1 bx B0 b1 al b2 f1;have c0 := cb.cell 0;have c1 := cb.cell 1;have c2 := cb.cell 2;simp only [qE, qF] at c0 c1 c2;have d0 := f2.k2.cell 0 (by decide);have d1 := f2.k2.cell 1 (by decide);have e0 := f2.k2.free 0;have e1 := f2.k2.free 1;have q2 := cb.free 2;have r0 := bx2.cell 0;have r1 := bx2.cell 1;have r2 := bx2.cell 2;have g0 := bx2.free 0;have g1 := bx2.free 1;have g2 := bx2.free 2;simp only [qE, qF] at r0 r1 r2;have lt3 := bx2.lt;have lt4 := cb.lt;have lt5 := f2.k2.lt;have n1 : ¬ B2 = w1.heap.size := by omega
 have n2 : ¬ B2 = w.heap.size := by omega
 have n3 : ¬ w1.heap.size = w.heap.size := by omega
 have n4 : ¬ w1.heap.size = B2 := by omega
 have n5 : ¬ w.heap.size = B2 := by omega
 have n6 : ¬ w.heap.size = w1.heap.size := by omega
 go_wp2
 refine bodyPost_ret (v := formV (some ⟨B1, 0, none⟩) 3 3 (some ⟨B2, 0, none⟩) 2 2 k) (by simp [results, Tryz.results170, go_sem, r0, r1, r2]) rfl ⟨B1, B2, rfl, ?_, ?_⟩
 ·exact (((((BW.setCell (p := ⟨B2, 0, none⟩) (by show w.heap.size <= B2; omega) _).setCell (p := ⟨B2, 1, none⟩) (by show w.heap.size <= B2; omega) _).setCell (p := ⟨w1.heap.size, 2, none⟩) (by show w.heap.size <= w1.heap.size; omega) _).setCell (qI _) _).setCell (qI _) _).setCell (qI _) _
 have m1 : B1 ≠ w1.heap.size := by omega
 have m2 : B1 ≠ w.heap.size := by omega
 exact ((((((f2.setD 0 a).setD 1 b).setOther m1 n1 2 _).setOther m2 n2 0 _).setOther m2 n2 1 _).setOther m2 n2 2 _).mono (by rw [qC]; omega)
theorem Touch.setNewF (h : Touch S w W) {B : Nat} (hB : w.heap.size <= B) (i : Nat) (v : Value) : Touch S w (W.setCell ⟨B, i, none⟩ v) :=
 ⟨h.os, h.tape, h.output, by rw [size_setCell]; exact h.size, fun k hk hs => by rw [Below.heap_setCell _ _ _ _ (by simp only []; omega)]; exact h.block k hk hs⟩
theorem with_f (B1 B2 v : Nat) (x K : Int) {lo : Nat} {C D : List Int} {w : World} (hf : F32 w lo B1 B2 C D) (hv : v < 3 := by omega) :
  Calls Tryz.prog 169 #[formV (some ⟨B1, 0, none⟩) 3 3 (some ⟨B2, 0, none⟩) 2 2 K, .int .i64 v, .int .i64 x] w fun e w' => e = .returned (formV (some ⟨B1, 0, none⟩) 3 3 (some ⟨B2, 0, none⟩) 2 2 K) /\ Touch (fun z => z = B1) w w' /\ F32 w' lo B1 B2 (C.set v x) D := by
 have lt1 := hf.k1.lt;have lt2 := hf.k2.lt;have al := ((Below.refl w.heap.size w).alloc (qI _) (.cells #[.slice (some ⟨B1, 0, none⟩) 3 3, .slice (some ⟨B2, 0, none⟩) 2 2, .int .i64 K] 95)).alloc (by simp) (.cells #[.slice none 0 0, .slice none 0 0, .int .i64 0] 95);have pb := (Cel.new w [.slice (some ⟨B1, 0, none⟩) 3 3, .slice (some ⟨B2, 0, none⟩) 2 2, .int .i64 K] 95).alloc (.cells #[.slice none 0 0, .slice none 0 0, .int .i64 0] 95);have rb := Cel.new (w.alloc (.cells #[.slice (some ⟨B1, 0, none⟩) 3 3, .slice (some ⟨B2, 0, none⟩) 2 2, .int .i64 K] 95)) [.slice none 0 0, .slice none 0 0, .int .i64 0] 95;rw [qC] at rb;have f2 := hf.below al;obtain ⟨W1, hW1⟩ : ∃ W, W = (w.alloc (.cells #[.slice (some ⟨B1, 0, none⟩) 3 3, .slice (some ⟨B2, 0, none⟩) 2 2, .int .i64 K] 95)).alloc (.cells #[.slice none 0 0, .slice none 0 0, .int .i64 0] 95) := ⟨_, rfl⟩
 have hv3 : (v : Int) < 3 := by omega
 go_enter Tryz.func169, Tryz.ntmps169
 go_upto_region 1 with fail
 rw [<- hW1] at al pb rb f2 ⊢;clear hW1 hf;have c0 := pb.cell 0;have c1 := pb.cell 1;have c2 := pb.cell 2;have r0 := rb.cell 0;have r1 := rb.cell 1;have r2 := rb.cell 2;have g0 := rb.free 0;have g1 := rb.free 1;have g2 := rb.free 2;simp only [qE, qF] at c0 c1 c2 r0 r1 r2;have d0 := f2.k1.cell v (by rw [f2.l1]; exact hv);have e0 := f2.k1.free v;have lt3 := pb.lt;have lt4 := rb.lt;have lt5 := f2.k1.lt;have n1 : ¬ B1 = w.heap.size := by omega
 have n2 : ¬ B1 = w.heap.size + 1 := by omega
 have n3 : ¬ w.heap.size = B1 := by omega
 have n4 : ¬ w.heap.size + 1 = B1 := by omega
 go_wp2
 refine bodyPost_ret (v := formV (some ⟨B1, 0, none⟩) 3 3 (some ⟨B2, 0, none⟩) 2 2 K) (by simp [results, Tryz.results169, go_sem, r0, r1, r2]) rfl ⟨rfl, ?_, ?_⟩
 ·have t1 : Touch (fun z => z = B1) w (W1.setCell ⟨B1, v, none⟩ (.int .i64 x)) := Touch.setCell (S := fun z => z = B1) (Touch.of al) rfl _
  exact ((t1.setNewF (B := w.heap.size + 1) (by omega) 0 _).setNewF (B := w.heap.size + 1) (by omega) 1 _).setNewF (B := w.heap.size + 1) (by omega) 2 _
 have m1 : B1 ≠ w.heap.size + 1 := n2;have m2 : B2 ≠ w.heap.size + 1 := by omega
 exact (((f2.setC v x).setOther m1 m2 0 _).setOther m1 m2 1 _).setOther m1 m2 2 _
def dot (xs ys : List Int) : Nat -> Int
 | 0 => 0
 | k + 1 => dot xs ys k + xs[k]?.getD 0 * ys[k]?.getD 0
def bndP (P : Int) (xs ys : List Int) : Prop := ∀ i : Nat, -P <= xs[i]?.getD 0 * ys[i]?.getD 0 /\ xs[i]?.getD 0 * ys[i]?.getD 0 <= P
theorem dot_bnd {P : Int} (h : bndP P xs ys) : ∀ k : Nat, -(k * P) <= dot xs ys k /\ dot xs ys k <= k * P
 | 0 => by simp [dot]
 | k + 1 => by
  have ih := dot_bnd h k;have hk := h k;have e : ((k + 1 : Nat) : Int) * P = k * P + P := by rw [Int.natCast_add, Int.add_mul]; simp
  rw [e];simp only [dot]
  omega
theorem bndP_of {M M' : Int} (hx : bnd M xs) (hy : bnd M' ys) (h0 : 0 <= M) (h1 : 0 <= M') : bndP (M * M') xs ys := by
 intro i;obtain ⟨a1, a2⟩ := hx i;obtain ⟨b1, b2⟩ := hy i;generalize xs[i]?.getD 0 = x at *;generalize ys[i]?.getD 0 = y at *;have hx' : x.natAbs <= M.toNat := by omega
 have hy' : y.natAbs <= M'.toNat := by omega
 have hm : (x * y).natAbs <= M.toNat * M'.toNat := by rw [Int.natAbs_mul]; exact Nat.mul_le_mul hx' hy'
 have e : ((M.toNat * M'.toNat : Nat) : Int) = M * M' := by rw [Int.natCast_mul, Int.toNat_of_nonneg h0, Int.toNat_of_nonneg h1]
 omega
theorem allB_bnd {m : Int} (hm : 0 <= m) (h : allB m zs = true) : bnd m zs := by
 intro i
 by_cases hi : i < zs.length
 ·unfold allB at h;rw [List.all_eq_true] at h;have := inB_iff.1 (h zs[i] (List.getElem_mem hi));rw [qD hi];simpa using this
 rw [List.getElem?_eq_none (by omega)];simp; omega
theorem okN_elim {c m : Int} (hm : 0 <= m) (h : okN c m n zs = true) : (n : Int) = c /\ bnd m zs := by
 simp only [okN, Bool.and_eq_true, decide_eq_true_eq] at h
 exact ⟨h.1, allB_bnd hm h.2⟩
theorem psum_any {c : Option Addr} {cap' : Nat} (xs ys : List Int) {P : Int} {w : World} (h : Ints w a n xs) (h' : Ints w c n ys) (hn : n <= 1000) (hP : bndP P xs ys) (h0 : 0 <= P := by omega) (hb : P <= 1000000000000 := by omega) :
  Calls Tryz.prog 155 #[.slice a n cap, .slice c n cap'] w fun e w' => e = .returned (.int .i64 (dot xs ys n)) /\ w' = w := by
 go_enter Tryz.func155, Tryz.ntmps155
 go_wp2_with fail
 go_loop [5, 6, 7, 10] (fun s _ _ i => ∃ k : Nat, k <= n /\ i = .int .i64 k /\ s = .int .i64 (dot xs ys k)) (fun _ _ _ i => n - (intOf i).toNat)
 case atStart => exact ⟨0, qJ _, rfl, rfl⟩
 case round =>
  obtain ⟨k, hk, rfl, rfl⟩ := hrel
  by_cases hlt : k < n
  ·obtain ⟨b, off, rfl, hcell⟩ := h.pos (by omega);obtain ⟨b', off', rfl, hcell'⟩ := h'.pos (by omega);have hck := hcell k hlt;have hck' := hcell' k hlt;have hlt' : (k : Int) < (n : Int) := by omega
   obtain ⟨p1, p2⟩ := hP k;have d := dot_bnd hP k;have kP : (k : Int) * P <= 1000 * P := Int.mul_le_mul_of_nonneg_right (by omega) h0;have d1 : -1000000000000000 <= dot xs ys k := by omega
   have d2 : dot xs ys k <= 1000000000000000 := by omega
   have d3 : -1000000000000 <= xs[k]?.getD 0 * ys[k]?.getD 0 := by omega
   have d4 : xs[k]?.getD 0 * ys[k]?.getD 0 <= 1000000000000 := by omega
   clear hcell hcell' h h' d kP p1 p2 hP hb h0
   go_wp2
   go_round
   case rel => exact ⟨k + 1, by omega, by go_num, by simp only [dot]⟩
   case measure => simp [intOf]; omega
  go_wp2
  go_ret
  obtain rfl : k = n := by omega
  exact ⟨rfl, rfl⟩
def atV (C D : List Int) (K : Int) (V A : List Int) : Int := dot C V 3 + dot D A 2 + K
theorem bnd.set {M : Int} (h : bnd M zs) (i : Nat) {x : Int} (h1 : -M <= x) (h2 : x <= M) : bnd M (zs.set i x) := by
 intro j;have hj := h j
 by_cases e : i = j
 ·subst e
  by_cases hl : i < zs.length
  ·rw [List.getElem?_set_self hl]; simp; omega
  rw [List.getElem?_eq_none (by rw [List.length_set]; omega)];rw [List.getElem?_eq_none (by omega)] at hj
  exact hj
 rw [List.getElem?_set_ne e]; exact hj
structure SmI (w W : World) (R : Nat) (a : Option Addr) (n cap : Nat) (bs : List Int) (q : Int) (fb B1 B2 : Nat) (C D : List Int) (K M : Int) : Prop where
 t : Touch (fun x => x = R) w W
 r : Rd W R a n cap bs q
 f : F32 W (w.heap.size + 1) B1 B2 C D
 cb : Cel W fb [.slice (some ⟨B1, 0, none⟩) 3 3, .slice (some ⟨B2, 0, none⟩) 2 2, .int .i64 K] 95
 rb : Cel W w.heap.size [.slice none 0 0, .slice none 0 0, .int .i64 0] 95
 hf : w.heap.size < fb
 n1 : B1 ≠ fb
 n2 : B2 ≠ fb
 hR : R < w.heap.size
 ha : 0 < n -> ∀ b o, a = some ⟨b, o, none⟩ -> b < w.heap.size
 sC : bnd M C
 sD : bnd M D
section
variable {w W W' : World} {R : Nat} {a : Option Addr} {n cap : Nat} {bs : List Int} {q : Int} {fb B1 B2 : Nat} {C D : List Int} {K M : Int}
theorem SmI.below (s : SmI w W R a n cap bs q fb B1 B2 C D K M) (b : Below W.heap.size W W') : SmI w W' R a n cap bs q fb B1 B2 C D K M :=
 ⟨s.t.trans (Touch.of b), s.r.below b, s.f.below b, s.cb.below b, s.rb.below b, s.hf, s.n1, s.n2, s.hR, s.ha, s.sC, s.sD⟩
theorem Blk.touchF {B : Nat} (h : Blk W B zs) (t : Touch S W W') (hn : ¬ S B) : Blk W' B zs := by
 have hl := h.lt;unfold Blk at *;rw [t.block B hl hn]; exact h
theorem SmI.pick {q' : Int} (s : SmI w W R a n cap bs q fb B1 B2 C D K M) (t : Touch (fun x => x = R) W W') (r : Rd W' R a n cap bs q') : SmI w W' R a n cap bs q' fb B1 B2 C D K M := by
 have h1 := s.f.b1;have h2 := s.f.b2;have h3 := s.hR;have h4 := s.hf
 exact ⟨s.t.trans t, r, ⟨s.f.k1.touchF t (by omega), s.f.k2.touchF t (by omega), s.f.l1, s.f.l2, s.f.b1, s.f.b2, s.f.ne⟩, s.cb.touch t (by omega), s.rb.touch t (by omega), s.hf, s.n1, s.n2, s.hR, s.ha, s.sC, s.sD⟩
theorem Rd.setNew (h : Rd W R a n cap bs q) {B : Nat} (hB : B ≠ R) (ha : 0 < n -> ∀ b o, a = some ⟨b, o, none⟩ -> b ≠ B) (i : Nat) (v : Value) : Rd (W.setCell ⟨B, i, none⟩ v) R a n cap bs q := by
 have t : Touch (fun x => x = B) W (W.setCell ⟨B, i, none⟩ v) := Touch.setCell (S := fun x => x = B) (Touch.refl _ _) rfl _
 exact h.touch t (fun e => hB e.symm) (fun h0 b o e => ha h0 b o e)
theorem SmI.setC (s : SmI w W R a n cap bs q fb B1 B2 C D K M) (i : Nat) {x : Int} (x1 : -M <= x) (x2 : x <= M) : SmI w (W.setCell ⟨B1, i, none⟩ (.int .i64 x)) R a n cap bs q fb B1 B2 (C.set i x) D K M := by
 have h1 := s.f.b1;have h3 := s.hR
 exact ⟨s.t.setNewF (by omega) i _, s.r.setNew (by omega) (fun h0 b o e => by have := s.ha h0 b o e; omega) i _, s.f.setC i x, s.cb.setOther (fun e => s.n1 e.symm) _ _, s.rb.so, s.hf, s.n1, s.n2, s.hR, s.ha, s.sC.set i x1 x2, s.sD⟩
theorem SmI.setD (s : SmI w W R a n cap bs q fb B1 B2 C D K M) (i : Nat) {x : Int} (x1 : -M <= x) (x2 : x <= M) : SmI w (W.setCell ⟨B2, i, none⟩ (.int .i64 x)) R a n cap bs q fb B1 B2 C (D.set i x) K M := by
 have h1 := s.f.b2;have h3 := s.hR
 exact ⟨s.t.setNewF (by omega) i _, s.r.setNew (by omega) (fun h0 b o e => by have := s.ha h0 b o e; omega) i _, s.f.setD i x, s.cb.setOther (fun e => s.n2 e.symm) _ _, s.rb.so, s.hf, s.n1, s.n2, s.hR, s.ha, s.sC, s.sD.set i x1 x2⟩
theorem lit_cell {L j : Nat} {t : TypeId} (h : Cel W L (xs.map (Value.int .i64)) t) (hj : j < xs.length) : W.cell? ⟨L, j, none⟩ = some (.int .i64 (xs[j]?.getD 0)) := by
 have := h.cell j;rw [List.getElem?_map, qD hj] at this;rw [qD hj]
 exact this
end
theorem lit_6 (j : Nat) (hj : j < 6) : -2 <= ([0, 0, 0, 1, -1, 2] : List Int)[j]?.getD 0 /\ ([0, 0, 0, 1, -1, 2] : List Int)[j]?.getD 0 <= 2 := by
 rcases j with _ | _ | _ | _ | _ | _ | _ | _ | j <;> first | omega | simp
theorem lit_5 (j : Nat) (hj : j < 5) : -2 <= ([0, 0, 1, -1, 2] : List Int)[j]?.getD 0 /\ ([0, 0, 1, -1, 2] : List Int)[j]?.getD 0 <= 2 := by
 rcases j with _ | _ | _ | _ | _ | _ | _ | _ | j <;> first | omega | simp
theorem lit_8 (j : Nat) (hj : j < 8) : -20 <= ([0, 0, 1, -1, 5, -5, 20, -20] : List Int)[j]?.getD 0 /\ ([0, 0, 1, -1, 5, -5, 20, -20] : List Int)[j]?.getD 0 <= 20 := by
 rcases j with _ | _ | _ | _ | _ | _ | _ | _ | j <;> first | omega | simp
theorem small_f (R : Nat) (a : Option Addr) (n cap : Nat) (bs : List Int) (p : Int) {w : World} (hR : Rd w R a n cap bs p) (hp : 0 <= p) (hp1 : p <= 9000000) (ha : 0 < n -> ∀ b o, a = some ⟨b, o, none⟩ -> b < w.heap.size) :
  Calls Tryz.prog 151 #[.pointer (some ⟨R, 0, none⟩)] w fun e w' => ∃ B1 B2 C D K, e = .returned (formV (some ⟨B1, 0, none⟩) 3 3 (some ⟨B2, 0, none⟩) 2 2 K) /\ Touch (fun x => x = R) w w' /\ Rd w' R a n cap bs (p + 6) /\ F32 w' w.heap.size B1 B2 C D /\ bnd 2 C /\ bnd 2 D /\ -20 <= K /\ K <= 20 := by
 have hRl := hR.c.lt;have bx := Cel.new w [.slice none 0 0, .slice none 0 0, .int .i64 0] 95;have B0 := (Below.refl w.heap.size w).alloc (qI _) (.cells #[.slice none 0 0, .slice none 0 0, .int .i64 0] 95)
 go_enter Tryz.func151, Tryz.ntmps151
 go_wp2_with fail
 refine (szero_f).mono ?_;rintro e w1 ⟨B1, B2, rfl, b1, f1⟩;have al := (Below.refl w1.heap.size w1).alloc (qI _) (.cells #[.slice (some ⟨B1, 0, none⟩) 3 3, .slice (some ⟨B2, 0, none⟩) 2 2, .int .i64 0] 95);have z1 := f1.b1;have z2 := f1.b2;rw [qC] at z1 z2;have lt1 := f1.k1.lt;have lt2 := f1.k2.lt;have b2 := btr b1 al;have BW := btr B0 b2;have hlw : w.heap.size < w1.heap.size := (bx.below b1).lt
 have s0 : SmI w (w1.alloc (.cells #[.slice (some ⟨B1, 0, none⟩) 3 3, .slice (some ⟨B2, 0, none⟩) 2 2, .int .i64 0] 95)) R a n cap bs (p + ((0 : Nat) : Int)) w1.heap.size B1 B2 [0, 0, 0] [0, 0] 0 2 :=
  ⟨Touch.of BW, by have h := hR.below BW; rw [show p + ((0 : Nat) : Int) = p by omega]; exact h, (f1.below al).mono (by rw [qC]; omega), Cel.new w1 _ _, bx.below b2, hlw, by omega, by omega, hRl, ha, fun i => by rcases i with _ | _ | _ | i <;> simp, fun i => by rcases i with _ | _ | i <;> simp⟩
 obtain ⟨fb, hfb⟩ : ∃ x, x = w1.heap.size := ⟨_, rfl⟩
 rw [<- hfb] at s0
 go_wp2_with fail
 rw [<- hfb];clear hfb hR bx B0 b1 f1 al b2 BW z1 z2 lt1 lt2 hlw
 go_loopw [4] (fun i wr => ∃ (k : Nat) (C : List Int), k <= 3 /\ i = .int .i64 k /\ SmI w wr R a n cap bs (p + (k : Int)) fb B1 B2 C [0, 0] 0 2) (fun i _ => 3 - (intOf i).toNat)
 case atStart => exact ⟨0, _, qJ _, rfl, s0⟩
 case round =>
  clear s0;obtain ⟨k, C, hk, rfl, s⟩ := hrel
  by_cases hlt : k < 3
  ·have hk3 : (k : Int) < 3 := by omega
   go_upto_region 5 with fail
   refine wp_region_ends (fun X => X.cell? ⟨fb, 0, none⟩ = some (.slice (some ⟨B1, 0, none⟩) 3 3)) (fun _ => True) 9 (by kernel_rfl) ?_;have sd := s.below ((Below.refl _ _).drew);obtain ⟨V0, hV0⟩ : ∃ V, V = wr.drew := ⟨_, rfl⟩
   rw [<- hV0] at sd ⊢;clear hV0 s;have hS0 : (fun X : World => X.cell? ⟨fb, 0, none⟩ = some (.slice (some ⟨B1, 0, none⟩) 3 3)) V0 /\ True := ⟨sd.cb.cell 0, trivial⟩
   refine tkl 0 rfl hS0 ?_;refine tkl 1 rfl hS0 ?_;refine tkl 2 rfl hS0 ?_;refine tkl 4 rfl hS0 ?_;refine wpAnyE_two (i := 3) (j := 5) (by kernel_rfl) rfl rfl (fun Kn hK => ?_) (fun Kn hK => ?_)
   ·go_simp;have al := (Below.refl V0.heap.size V0).alloc (qI _) (.cells #[.int .i64 0, .int .i64 0, .int .i64 0, .int .i64 1, .int .i64 (-1), .int .i64 2] 3);have lb0 := Cel.new V0 [.int .i64 0, .int .i64 0, .int .i64 0, .int .i64 1, .int .i64 (-1), .int .i64 2] 3;have s4 := sd.below al;refine kk0 hK (s4.cb.cell 0) ?_;clear hK;refine wpAnyE_one (i := 5) (by kernel_rfl) rfl (fun Kn hK => ?_);go_simp;refine (pick_any R a n cap bs _ 6 s4.r).mono ?_;rintro e w5 ⟨r, r0, r1, rfl, t5, R5⟩;obtain ⟨j, rfl⟩ := Int.eq_ofNat_of_zero_le r0;have hj : j < 6 := by omega
    have hj' : (j : Int) < 6 := by omega
    have s5 := s4.pick t5 R5;have lb := lb0.touch t5 (by have h1 := sd.hR; have h2 := sd.t.size; omega);dsimp only;have hS5 : (fun X : World => X.cell? ⟨fb, 0, none⟩ = some (.slice (some ⟨B1, 0, none⟩) 3 3)) w5 /\ True := ⟨s5.cb.cell 0, trivial⟩
    refine kk0 hK (hS5.1) ?_;clear hK hS0;refine tkl 6 rfl hS5 ?_;have hc := lit_cell (xs := [0, 0, 0, 1, -1, 2]) lb hj;have hy := lit_6 j hj;generalize ([0, 0, 0, 1, -1, 2] : List Int)[j]?.getD 0 = y at hc hy;refine wpAnyE_one (i := 7) (by kernel_rfl) rfl (fun Kn hK => ?_);go_simp;refine kk0 hK (hS5.1) ?_;clear hK;refine tkl 8 rfl hS5 ?_;have s6 := s5.setC k hy.1 hy.2;have kc := s5.f.k1.cell k (by rw [s5.f.l1]; omega);have kf := s5.f.k1.free k;have kl := s5.f.k1.lt;refine wpAnyE_one (i := 9) (by kernel_rfl) rfl (fun Kn hK => ?_);go_simp;refine kk0 hK (s6.cb.cell 0) ?_;clear hK;refine wod ?_ _;clear hS5 hc kc kf
    go_wp2
    go_roundw
    case rel => exact ⟨k + 1, _, by omega, by go_num, by have h := s6; rw [show p + (k : Int) + 1 = p + ((k + 1 : Nat) : Int) by omega] at h; exact h⟩
    case measure => simp [intOf]; omega
   go_simp;refine (pick_any R a n cap bs _ 6 sd.r).mono ?_;rintro e w5 ⟨r, r0, r1, rfl, t5, R5⟩;obtain ⟨j, rfl⟩ := Int.eq_ofNat_of_zero_le r0;have hj : j < 6 := by omega
   have hj' : (j : Int) < 6 := by omega
   have s5a := sd.pick t5 R5;dsimp only;refine kk0 hK (s5a.cb.cell 0) ?_;clear hK;refine wpAnyE_one (i := 3) (by kernel_rfl) rfl (fun Kn hK => ?_);go_simp;have al := (Below.refl w5.heap.size w5).alloc (qI _) (.cells #[.int .i64 0, .int .i64 0, .int .i64 0, .int .i64 1, .int .i64 (-1), .int .i64 2] 3);have lb := Cel.new w5 [.int .i64 0, .int .i64 0, .int .i64 0, .int .i64 1, .int .i64 (-1), .int .i64 2] 3;have s5 := s5a.below al;have hS5 : (fun X : World => X.cell? ⟨fb, 0, none⟩ = some (.slice (some ⟨B1, 0, none⟩) 3 3)) (w5.alloc (.cells #[.int .i64 0, .int .i64 0, .int .i64 0, .int .i64 1, .int .i64 (-1), .int .i64 2] 3)) /\ True := ⟨s5.cb.cell 0, trivial⟩
   refine kk0 hK (hS5.1) ?_;clear hK hS0;refine tkl 6 rfl hS5 ?_;have hc := lit_cell (xs := [0, 0, 0, 1, -1, 2]) lb hj;have hy := lit_6 j hj;generalize ([0, 0, 0, 1, -1, 2] : List Int)[j]?.getD 0 = y at hc hy;refine wpAnyE_one (i := 7) (by kernel_rfl) rfl (fun Kn hK => ?_);go_simp;refine kk0 hK (hS5.1) ?_;clear hK;refine tkl 8 rfl hS5 ?_;have s6 := s5.setC k hy.1 hy.2;have kc := s5.f.k1.cell k (by rw [s5.f.l1]; omega);have kf := s5.f.k1.free k;have kl := s5.f.k1.lt;refine wpAnyE_one (i := 9) (by kernel_rfl) rfl (fun Kn hK => ?_);go_simp;refine kk0 hK (s6.cb.cell 0) ?_;clear hK;refine wod ?_ _;clear hS5 hc kc kf
   go_wp2
   go_roundw
   case rel => exact ⟨k + 1, _, by omega, by go_num, by have h := s6; rw [show p + (k : Int) + 1 = p + ((k + 1 : Nat) : Int) by omega] at h; exact h⟩
   case measure => simp [intOf]; omega
  have HK : Hid (k = 3) := show k = 3 by omega
  have hlt' : ¬ (k : Int) < 3 := by omega
  have s0 : SmI w wr R a n cap bs (p + 3 + ((0 : Nat) : Int)) fb B1 B2 C [0, 0] 0 2 := by have h := s; rw [show p + (k : Int) = p + 3 + ((0 : Nat) : Int) by have := HK.out; omega] at h; exact h
  clear s hk
  go_wp2_with fail
  go_loopw [5] (fun i wx => ∃ (l : Nat) (D : List Int), l <= 2 /\ i = .int .i64 l /\ SmI w wx R a n cap bs (p + 3 + (l : Int)) fb B1 B2 C D 0 2) (fun i _ => 2 - (intOf i).toNat)
  case atStart => exact ⟨0, _, qJ _, rfl, s0⟩
  case round =>
   clear s0 HK;obtain ⟨l, D, hl, rfl, s⟩ := hrel
   by_cases hl2 : l < 2
   ·have hk3 : (l : Int) < 2 := by omega
    go_upto_region 9 with fail
    refine wp_region_ends (fun X => X.cell? ⟨fb, 1, none⟩ = some (.slice (some ⟨B2, 0, none⟩) 2 2)) (fun _ => True) 9 (by kernel_rfl) ?_;have sd := s.below ((Below.refl _ _).drew);obtain ⟨V0, hV0⟩ : ∃ V, V = wr.drew := ⟨_, rfl⟩
    rw [<- hV0] at sd ⊢;clear hV0 s;have hS0 : (fun X : World => X.cell? ⟨fb, 1, none⟩ = some (.slice (some ⟨B2, 0, none⟩) 2 2)) V0 /\ True := ⟨sd.cb.cell 1, trivial⟩
    refine tkl 0 rfl hS0 ?_;refine tkl 1 rfl hS0 ?_;refine tkl 2 rfl hS0 ?_;refine tkl 4 rfl hS0 ?_;refine wpAnyE_two (i := 3) (j := 5) (by kernel_rfl) rfl rfl (fun Kn hK => ?_) (fun Kn hK => ?_)
    ·go_simp;have al := (Below.refl V0.heap.size V0).alloc (qI _) (.cells #[.int .i64 0, .int .i64 0, .int .i64 1, .int .i64 (-1), .int .i64 2] 3);have lb0 := Cel.new V0 [.int .i64 0, .int .i64 0, .int .i64 1, .int .i64 (-1), .int .i64 2] 3;have s4 := sd.below al;refine kk0 hK (s4.cb.cell 1) ?_;clear hK;refine wpAnyE_one (i := 5) (by kernel_rfl) rfl (fun Kn hK => ?_);go_simp;refine (pick_any R a n cap bs _ 5 s4.r).mono ?_;rintro e w5 ⟨r, r0, r1, rfl, t5, R5⟩;obtain ⟨j, rfl⟩ := Int.eq_ofNat_of_zero_le r0;have hj : j < 5 := by omega
     have hj' : (j : Int) < 5 := by omega
     have s5 := s4.pick t5 R5;have lb := lb0.touch t5 (by have h1 := sd.hR; have h2 := sd.t.size; omega);dsimp only;have hS5 : (fun X : World => X.cell? ⟨fb, 1, none⟩ = some (.slice (some ⟨B2, 0, none⟩) 2 2)) w5 /\ True := ⟨s5.cb.cell 1, trivial⟩
     refine kk0 hK (hS5.1) ?_;clear hK hS0;refine tkl 6 rfl hS5 ?_;have hc := lit_cell (xs := [0, 0, 1, -1, 2]) lb hj;have hy := lit_5 j hj;generalize ([0, 0, 1, -1, 2] : List Int)[j]?.getD 0 = y at hc hy;refine wpAnyE_one (i := 7) (by kernel_rfl) rfl (fun Kn hK => ?_);go_simp;refine kk0 hK (hS5.1) ?_;clear hK;refine tkl 8 rfl hS5 ?_;have s6 := s5.setD l hy.1 hy.2;have kc := s5.f.k2.cell l (by rw [s5.f.l2]; omega);have kf := s5.f.k2.free l;have kl := s5.f.k2.lt;refine wpAnyE_one (i := 9) (by kernel_rfl) rfl (fun Kn hK => ?_);go_simp;refine kk0 hK (s6.cb.cell 1) ?_;clear hK;refine wod ?_ _;clear hS5 hc kc kf
     go_wp2
     go_roundw
     case rel => exact ⟨l + 1, _, by omega, by go_num, by have h := s6; rw [show p + 3 + (l : Int) + 1 = p + 3 + ((l + 1 : Nat) : Int) by omega] at h; exact h⟩
     case measure => simp [intOf]; omega
    go_simp;refine (pick_any R a n cap bs _ 5 sd.r).mono ?_;rintro e w5 ⟨r, r0, r1, rfl, t5, R5⟩;obtain ⟨j, rfl⟩ := Int.eq_ofNat_of_zero_le r0;have hj : j < 5 := by omega
    have hj' : (j : Int) < 5 := by omega
    have s5a := sd.pick t5 R5;dsimp only;refine kk0 hK (s5a.cb.cell 1) ?_;clear hK;refine wpAnyE_one (i := 3) (by kernel_rfl) rfl (fun Kn hK => ?_);go_simp;have al := (Below.refl w5.heap.size w5).alloc (qI _) (.cells #[.int .i64 0, .int .i64 0, .int .i64 1, .int .i64 (-1), .int .i64 2] 3);have lb := Cel.new w5 [.int .i64 0, .int .i64 0, .int .i64 1, .int .i64 (-1), .int .i64 2] 3;have s5 := s5a.below al;have hS5 : (fun X : World => X.cell? ⟨fb, 1, none⟩ = some (.slice (some ⟨B2, 0, none⟩) 2 2)) (w5.alloc (.cells #[.int .i64 0, .int .i64 0, .int .i64 1, .int .i64 (-1), .int .i64 2] 3)) /\ True := ⟨s5.cb.cell 1, trivial⟩
    refine kk0 hK (hS5.1) ?_;clear hK hS0;refine tkl 6 rfl hS5 ?_;have hc := lit_cell (xs := [0, 0, 1, -1, 2]) lb hj;have hy := lit_5 j hj;generalize ([0, 0, 1, -1, 2] : List Int)[j]?.getD 0 = y at hc hy;refine wpAnyE_one (i := 7) (by kernel_rfl) rfl (fun Kn hK => ?_);go_simp;refine kk0 hK (hS5.1) ?_;clear hK;refine tkl 8 rfl hS5 ?_;have s6 := s5.setD l hy.1 hy.2;have kc := s5.f.k2.cell l (by rw [s5.f.l2]; omega);have kf := s5.f.k2.free l;have kl := s5.f.k2.lt;refine wpAnyE_one (i := 9) (by kernel_rfl) rfl (fun Kn hK => ?_);go_simp;refine kk0 hK (s6.cb.cell 1) ?_;clear hK;refine wod ?_ _;clear hS5 hc kc kf
    go_wp2
    go_roundw
    case rel => exact ⟨l + 1, _, by omega, by go_num, by have h := s6; rw [show p + 3 + (l : Int) + 1 = p + 3 + ((l + 1 : Nat) : Int) by omega] at h; exact h⟩
    case measure => simp [intOf]; omega
   have hl2' : ¬ (l : Int) < 2 := by omega
   have s4 := s.below ((Below.refl wr.heap.size wr).alloc (qI _) (.cells #[.int .i64 0, .int .i64 0, .int .i64 1, .int .i64 (-1), .int .i64 5, .int .i64 (-5), .int .i64 20, .int .i64 (-20)] 3));have lb0 := Cel.new wr [.int .i64 0, .int .i64 0, .int .i64 1, .int .i64 (-1), .int .i64 5, .int .i64 (-5), .int .i64 20, .int .i64 (-20)] 3;have hRR := s.hR;have hsz := s.t.size;clear s
   go_wp2_with fail
   refine (pick_any R a n cap bs _ 8 s4.r).mono ?_;rintro e w5 ⟨r, r0, r1, rfl, t5, R5⟩;obtain ⟨j, rfl⟩ := Int.eq_ofNat_of_zero_le r0;have hj : j < 8 := by omega
   have hj' : (j : Int) < 8 := by omega
   have s5 := s4.pick t5 R5;have lb := lb0.touch t5 (by omega);have hc := lit_cell (xs := [0, 0, 1, -1, 5, -5, 20, -20]) lb hj;have hy := lit_8 j hj;generalize ([0, 0, 1, -1, 5, -5, 20, -20] : List Int)[j]?.getD 0 = y at hc hy;have d0 := s5.cb.cell 0;have d1 := s5.cb.cell 1;have d2 := s5.cb.cell 2;have e2 := s5.cb.free 2;have r0 := s5.rb.cell 0;have r1 := s5.rb.cell 1;have r2 := s5.rb.cell 2;have g0 := s5.rb.free 0;have g1 := s5.rb.free 1;have g2 := s5.rb.free 2;simp only [qE, qF] at d0 d1 d2 r0 r1 r2;have l1 := s5.cb.lt;have l2 := s5.rb.lt;have h4 := s5.hf;have n3 : ¬ w.heap.size = fb := by omega
   have n4 : ¬ fb = w.heap.size := by omega
   have q1 := s5.f.b1;have q2 := s5.f.b2;have F5 := s5.f;have RR := s5.r;have TT := s5.t;have m1 := s5.n1;have m2 := s5.n2;have a5 := s5.ha;have c5 := s5.sC;have c6 := s5.sD;clear s4 s5 t5 R5 lb lb0
   go_wp2
   refine bodyPost_ret (v := formV (some ⟨B1, 0, none⟩) 3 3 (some ⟨B2, 0, none⟩) 2 2 y) (by simp [results, Tryz.results151, go_sem, r0, r1, r2]) rfl ⟨B1, B2, C, D, y, rfl, ?_, ?_, ?_, c5, c6, hy.1, hy.2⟩
   ·exact (((TT.setNewF (B := fb) (by omega) 2 _).setNewF (B := w.heap.size) (by omega) 0 _).setNewF (B := w.heap.size) (by omega) 1 _).setNewF (B := w.heap.size) (by omega) 2 _
   ·have h := (((RR.setNew (B := fb) (by omega) (fun h0 b o e => by have := a5 h0 b o e; omega) 2 (.int .i64 y)).setNew (B := w.heap.size) (by omega) (fun h0 b o e => by have := a5 h0 b o e; omega) 0 (.slice (some ⟨B1, 0, none⟩) 3 3)).setNew (B := w.heap.size) (by omega) (fun h0 b o e => by have := a5 h0 b o e; omega) 1 (.slice (some ⟨B2, 0, none⟩) 2 2)).setNew (B := w.heap.size) (by omega) (fun h0 b o e => by have := a5 h0 b o e; omega) 2 (.int .i64 y);rw [show p + 3 + (l : Int) + 1 = p + 6 by omega] at h
    exact h
   exact ((((F5.setOther m1 m2 2 _).setOther (by omega) (by omega) 0 _).setOther (by omega) (by omega) 1 _).setOther (by omega) (by omega) 2 _).mono (by omega)
theorem ownsRow_touch {W' : World} {base : Nat} {e : TypeId} {size : Nat} {xs : List Value} (h : W.ownsRow base e size v n xs) (t : Touch S W W') (hS : ∀ k, S k -> k < base) : W'.ownsRow base e size v n xs := by
 obtain ⟨h1, h2⟩ := h;refine ⟨h1, ?_⟩
 rcases h2 with h2 | ⟨g, cap, cur, hv, hg, hh, r⟩
 ·exact Or.inl h2
 refine Or.inr ⟨g, cap, cur, hv, hg, ?_, r⟩;rw [t.block g (lt_of_block hh) (fun hs => by have := hS g hs; omega)]; exact hh
theorem Touch.grown {W' : World} {row : Option Nat} (h : Touch S w W) (g : W.grownBy W' row) (hr : ∀ k, row = some k -> w.heap.size <= k) : Touch S w W' :=
 ⟨g.os.trans h.os, g.tape.trans h.tape, g.output.trans h.output, Nat.le_trans h.size g.size, fun k hk hs => (g.block k (Nat.lt_of_lt_of_le hk h.size) (fun e => by have := hr k e.symm; omega)).trans (h.block k hk hs)⟩
structure J (w : World) (R : Nat) (a : Option Addr) (n cap : Nat) (bs : List Int) (p : Int) (v : Value) (xs : List Int) (W : World) : Prop where
 t : Touch (fun x => x = R) w W
 r : Rd W R a n cap bs p
 o : W.ownsRow w.heap.size 3 1 v xs.length (xs.map (Value.int .i64))
 lR : R < w.heap.size
 lb : 0 < n -> ∀ b o, a = some ⟨b, o, none⟩ -> b < w.heap.size
section
variable {w W W' : World} {R : Nat} {a : Option Addr} {n cap : Nat} {bs : List Int} {p : Int} {v : Value} {xs : List Int}
theorem J.alloc (j : J w R a n cap bs p v xs W) (o : Obj) : J w R a n cap bs p v xs (W.alloc o) :=
 ⟨j.t.trans (Touch.of (bal)), j.r.below (bal), j.o.alloc o, j.lR, j.lb⟩
theorem J.pick {q : Int} (j : J w R a n cap bs p v xs W) (t : Touch (fun x => x = R) W W') (r : Rd W' R a n cap bs q) : J w R a n cap bs q v xs W' :=
 ⟨j.t.trans t, r, ownsRow_touch j.o t (fun k h => by have := j.lR; omega), j.lR, j.lb⟩
theorem J.own {v' : Value} (j : J w R a n cap bs p v xs W) (o : W'.ownsRow w.heap.size 3 1 v' ys.length (ys.map (Value.int .i64))) (g : W.grownBy W' v.ownBlock) : J w R a n cap bs p v' ys W' := by
 have hr : ∀ k, v.ownBlock = some k -> w.heap.size <= k := fun k hk => (j.o.lt k hk).1;have lR := j.lR;have T : Touch (fun x => w.heap.size <= x) W W' := ⟨g.os, g.tape, g.output, g.size, fun k hk hs => g.block k hk (fun e => hs (hr k e.symm))⟩
 exact ⟨j.t.grown g hr, j.r.touch T (by omega) (fun h0 b o hab => by have := j.lb h0 b o hab; omega), o, j.lR, j.lb⟩
theorem J.ints (j : J w R a n cap bs p v xs W) (h0 : 0 < xs.length) : ∃ g cap', v = .slice (some ⟨g, 0, none⟩) xs.length cap' /\ xs.length <= cap' /\ w.heap.size <= g /\ Ints W (some ⟨g, 0, none⟩) xs.length xs /\ ∀ i, W.frozen? ⟨g, i, none⟩ = false := by
 rcases j.o.2 with ⟨_, h⟩ | ⟨g, cap', cur, rfl, hg, hh, hl, _, _⟩
 ·omega
 refine ⟨g, cap', rfl, hl, hg, ⟨rfl, fun i hi => ⟨g, 0, rfl, ?_⟩⟩, fun i => j.o.frozenAt i⟩;have := j.o.cellAt i (by omega);rw [Nat.zero_add, this];simp [hi]
end
theorem Touch.setNewD (h : Touch S w W) {B : Nat} (hB : w.heap.size <= B) (i : Nat) (v : Value) : Touch S w (W.setCell ⟨B, i, none⟩ v) :=
 ⟨h.os, h.tape, h.output, by rw [size_setCell]; exact h.size, fun k hk hs => by rw [Below.heap_setCell _ _ _ _ (by simp only []; omega)]; exact h.block k hk hs⟩
theorem ints_set {g s : Nat} (h : Ints W (some ⟨g, 0, none⟩) n xs) (hs : s < n) (y : Int) : Ints (W.setCell ⟨g, s, none⟩ (.int .i64 y)) (some ⟨g, 0, none⟩) n (xs.set s y) := by
 refine ⟨by rw [List.length_set]; exact h.1, fun i hi => ⟨g, 0, rfl, ?_⟩⟩
 have hc : ∀ i, i < n -> W.cell? ⟨g, i, none⟩ = some (.int .i64 (xs.getD i 0)) := fun i hi => by
  obtain ⟨b, o, e, hh⟩ := h.2 i hi;simp only [qA, qB, and_true] at e;obtain ⟨rfl, rfl⟩ := e;simpa using hh
 rw [Nat.zero_add]
 by_cases e : i = s
 ·subst e;rw [World.cell?_setCell_same' W ⟨g, i, none⟩ _ (by rw [hc i hi]; rfl)];simp [h.1, hi]
 have ho : (W.setCell ⟨g, s, none⟩ (.int .i64 y)).cell? ⟨g, i, none⟩ = W.cell? ⟨g, i, none⟩ := by
  first
   | exact World.cell?_setCell_other W ⟨g, s, none⟩ ⟨g, i, none⟩ (.int .i64 y) (by intro hh; simp only [qB] at hh; omega)
   | exact World.cell?_setCell_other W ⟨g, s, none⟩ (.int .i64 y) ⟨g, i, none⟩ (by intro hh; simp only [qB] at hh; omega)
   | exact World.cell?_setCell_other W ⟨g, s, none⟩ (.int .i64 y) (by intro hh; simp only [qB] at hh; omega)
   | exact World.cell?_setCell_other (by intro hh; simp only [qB] at hh; omega)
 rw [ho, hc i hi];simp [Ne.symm e]
structure Dn (w w' : World) (R : Nat) (a : Option Addr) (n cap : Nat) (bs : List Int) (p q : Int) (a' : Option Addr) (n' : Nat) (zs : List Int) : Prop where
 t : Touch (fun x => x = R) w w'
 r : Rd w' R a n cap bs q
 i : Ints w' a' n' zs
 h4 : n' <= 4
 h1 : 1 <= n'
 lo : ∀ b o, a' = some ⟨b, o, none⟩ -> w.heap.size <= b
 q0 : p <= q
 q1 : q <= p + 8
theorem Dn.hi {w' : World} {q : Int} {a' : Option Addr} {n' : Nat} (h : Dn w w' R a n cap bs p q a' n' zs) : ∀ b o, a' = some ⟨b, o, none⟩ -> b < w'.heap.size := fun b o e => by
 obtain ⟨b', o', e', hc⟩ := h.i.2 0 (by have := h.h1; omega);rw [e] at e';simp only [qA, qB, and_true] at e';have := block_lt hc
 omega
theorem J.setR (j : J w R a n cap bs p v xs W) {g : Nat} (hg : w.heap.size <= g) (i : Nat) (x : Value) : Rd (W.setCell ⟨g, i, none⟩ x) R a n cap bs p := by
 have lR := j.lR;have T : Touch (fun x => x = g) W (W.setCell ⟨g, i, none⟩ x) := Touch.setCell (S := fun x => x = g) (Touch.refl _ _) rfl _
 exact j.r.touch T (by omega) (fun h0 b o hab => by have := j.lb h0 b o hab; omega)
theorem J.start (hR : Rd w R a n cap bs p) (hlb : 0 < n -> ∀ b o, a = some ⟨b, o, none⟩ -> b < w.heap.size) : J w R a n cap bs p (.slice none 0 0) [] w :=
 ⟨Touch.refl _ _, hR, World.ownsRow_nil _ _ _ _, hR.c.lt, hlb⟩
theorem J.lit (j : J w R a n cap bs p v xs W) (x y : Int) : J w R a n cap bs p (.slice (some ⟨W.heap.size, 0, none⟩) 2 2) [x, y] (W.alloc (.cells #[.int .i64 x, .int .i64 y] 3)) :=
 ⟨(j.alloc _).t, (j.alloc _).r, World.ownsRow_lit W #[.int .i64 x, .int .i64 y] 2 j.t.size (by unfold maxLen; omega) rfl, j.lR, j.lb⟩
theorem args_gen (R : Nat) (a : Option Addr) (n cap : Nat) (bs : List Int) (p N : Int) {w : World} (hR : Rd w R a n cap bs p) (hp : 0 <= p) (hp1 : p <= 9000000) (hN : 1 <= N) (hN1 : N <= 1000) (hlb : 0 < n -> ∀ b o, a = some ⟨b, o, none⟩ -> b < w.heap.size) :
  Calls Tryz.prog 103 #[.pointer (some ⟨R, 0, none⟩), .int .i64 N] w fun e w' => ∃ a' n' cap' zs q, e = .returned (.slice a' n' cap') /\ Dn w w' R a n cap bs p q a' n' zs := by
 have j := J.start hR hlb;obtain ⟨i0, hi, hz0, hz1, hz2⟩ := info_parts Tryz.infoInt;clear hR hlb
 go_enter Tryz.func103, Tryz.ntmps103
 go_wp2_with fail
 refine (pick_any R a n cap bs p 19 j.r).mono ?_;rintro e w1 ⟨x, x0, x1, rfl, t1, R1⟩;have j1 := j.pick t1 R1;clear t1 R1 j
 go_wp2_with fail
 refine (pick_any R a n cap bs (p + 1) 19 j1.r).mono ?_;rintro e w2 ⟨y, y0, y1, rfl, t2, R2⟩;have j2 := (j1.pick t2 R2).lit (x - 9) (y - 9);have lw2 := (j1.pick t2 R2).t.size;clear t2 R2 j1
 go_wp2_with fail
 refine (pick_any R a n cap bs (p + 1 + 1) N j2.r).mono ?_;rintro e w3 ⟨r, r0, r2, rfl, t3, R3⟩;have j3 := j2.pick t3 R3;clear t3 R3 j2
 by_cases hr : r = 0
 ·subst hr
  go_wp2_with fail
  refine (pick_any R a n cap bs (p + 1 + 1 + 1) 3 j3.r).mono ?_;rintro e w4 ⟨s, s0, s3, rfl, t4, R4⟩;have j4 := j3.pick t4 R4;clear t4 R4 j3;obtain ⟨g, cap', hv, hcap, hg, hI, hfz⟩ := j4.ints (by simp);simp only [Value.slice.injEq, qA, qB, and_true, true_and, qG, qH] at hv;obtain ⟨rfl, _, rfl⟩ := hv
  rcases (show s = 0 \/ s = 1 \/ s = 2 from by omega) with rfl | rfl | rfl
  ·go_wp2
   go_ret
   refine ⟨_, 1, 2, [x - 9], _, rfl, j4.t, j4.r, ⟨rfl, fun i hi => ?_⟩, by omega, by first | omega | simp, fun b o e => by simp only [qA, qB] at e; omega, by omega, by omega⟩;obtain rfl : i = 0 := by omega
   obtain ⟨b, o, h1, h2⟩ := hI.2 0 (by simp)
   exact ⟨b, o, h1, h2⟩
  ·go_wp2_with (at_builtin; refine wpList_append_own _ rfl (.tmp 34) (.tmp 35) 24 rfl w.heap.size 3 i0 (.int .i64 0) 1 8 Tryz.underlying24 hi hz0 hz1 hz2 rfl (by decide) _ _ _ rfl (j4.alloc _).o ⟨w4.heap.size, 0, none⟩ 1 1 [.int .i64 0] rfl rfl ?d1 ?d2 ?d3 ?d4 ?d5 ?_)
   case d1 =>
    intro i u hu
    match i, hu with
    | 0, hu => simp at hu; subst hu; simp [Addr.add]
   case d2 => intro u hu; simp at hu; subst hu; rfl
   case d3 => unfold maxLen; simp
   case d4 => simp
   case d5 => have := j4.t.size; simp; omega
   intro v' w5 hown' hgrow _;have j5 : J w R a n cap bs (p + 1 + 1 + 1 + 1) v' ([x - 9, y - 9] ++ [0]) w5 := (j4.alloc _).own (by simpa using hown') hgrow;obtain ⟨g', cap2, hv', hcap2, hg', hI', hfz'⟩ := j5.ints (by simp);subst hv';clear hown' hgrow j4 hI hfz
   go_wp2
   go_ret
   exact ⟨_, _, cap2, _, _, rfl, j5.t, j5.r, hI', by simp, by first | omega | simp, fun b o e => by simp only [qA, qB] at e; omega, by omega, by omega⟩
  go_wp2_with fail
  refine (pick_any R a n cap bs (p + 1 + 1 + 1 + 1) 2 j4.r).mono ?_;rintro e w5 ⟨s, s0, s3, rfl, t5, R5⟩;have j5 := j4.pick t5 R5;obtain ⟨sn, rfl⟩ := Int.eq_ofNat_of_zero_le s0;clear t5 R5 j4 hI hfz
  go_wp2_with fail
  refine (pick_any R a n cap bs (p + 1 + 1 + 1 + 1 + 1) 2 (j5.alloc _).r).mono ?_;rintro e w6 ⟨u, u0, u2, rfl, t6, R6⟩;have j6 := (j5.alloc _).pick t6 R6;have tb := (Cel.new w5 _ _).touch t6 (by have := j5.t.size; have := j5.lR; omega);obtain ⟨un, rfl⟩ := Int.eq_ofNat_of_zero_le u0
  have ct : w6.cell? ⟨w5.heap.size, un, none⟩ = some (.int .i64 ([10, -10][un]?.getD 0)) := by
   rw [tb.cell un]
   match un, u2 with
   | 0, _ => rfl
   | 1, _ => rfl
   | (m + 2), h => omega
  obtain ⟨g2, cap2, hv2, hcap2, hg2, hI2, hfz2⟩ := j6.ints (by simp);simp only [Value.slice.injEq, qA, qB, and_true, true_and, qG, qH] at hv2;obtain ⟨rfl, _, rfl⟩ := hv2;simp only [qG, qH] at hI2
  have cg : w6.cell? ⟨w2.heap.size, sn, none⟩ = some (.int .i64 ([x - 9, y - 9][sn]?.getD 0)) := by
   obtain ⟨b, o, e1, hh⟩ := hI2.2 sn (by omega);simp only [qA, qB, and_true] at e1;obtain ⟨rfl, rfl⟩ := e1;simpa using hh
  have fg := hfz2 sn;have IS := ints_set hI2 (s := sn) (by omega) ([10, -10][un]?.getD 0);have TS := j6.t.setNewD hg2 sn (.int .i64 ([10, -10][un]?.getD 0));have RS := j6.setR hg2 sn (.int .i64 ([10, -10][un]?.getD 0));clear t6 R6 j5 j6 tb hI2 hfz2
  go_wp2
  go_ret
  exact ⟨_, _, 2, _, _, rfl, TS, RS, IS, by omega, by first | omega | simp, fun b o e => by simp only [qA, qB] at e; omega, by omega, by omega⟩
 obtain ⟨g, cap', hv, hcap, hg, hI, hfz⟩ := j3.ints (by simp);simp only [Value.slice.injEq, qA, qB, and_true, true_and, qG, qH] at hv;obtain ⟨rfl, _, rfl⟩ := hv;have hr' : (r == 0) = false := by simpa using hr
 go_wp2
 go_ret
 exact ⟨_, _, 2, _, _, rfl, j3.t, j3.r, hI, by simp, by first | omega | simp, fun b o e => by simp only [qA, qB] at e; omega, by omega, by omega⟩
end Go.Proofs.YtpmihhbgjimpmaaGreatDoor
