/-
  Lemmas that the claim's last text rests on.
-/
import Derived.RegionTactic
import Derived.Test.YtfmpcihghlnlnaaGreatDoorQL
namespace Go.Proofs.YtfmpcihghlnlnaaGreatDoor
open Go.RowKit Go.Deep
open Option.some renaming injEq → qA
open World renaming size_alloc → qB
set_option linter.unusedVariables false
set_option maxRecDepth 100000
set_option maxHeartbeats 25600000
variable {G cap n : Nat} {S : Nat -> Prop} {W W' w : World} {fs : List Frm} {xs : List Value}
section
variable {P : Program} {ops : Array Oper} {Q : Exit -> Act -> World -> Prop} {md : Region.Mode} {S0 S : World -> Prop} {s : Nat}
def wpAnyE (P : Program) (md : Region.Mode) (ops : Array Oper) (Q : Exit -> Act -> World -> Prop) (S0 S : World -> Prop) (s : Nat) : Nat -> Array Bool -> Act -> World -> Prop
 | 0, listed, a, w => Region.ready md ops listed = [] /\ Q .normal a w
 | fuel + 1, listed, a, w =>
  (Region.ready md ops listed = [] -> Q .normal a w) /\
  ∀ i ∈ Region.ready md ops listed, wpOp P ops Q i (fun a' w' => (S0 w' /\ ((listed.setIfInBounds i true).getD s true = false -> S w')) /\ wpAnyE P md ops Q S0 S s fuel (listed.setIfInBounds i true) a' w') a w
theorem wpAny_of_ends : ∀ (fuel : Nat) (listed : Array Bool) (a : Act) (w : World), wpAnyE P md ops Q S0 S s fuel listed a w -> wpAny P md ops Q fuel listed a w
 | 0, _, _, _, h => h
 | fuel + 1, _, _, _, h => ⟨h.1, fun i hi => wpOp_mono (fun a' w' h' => wpAny_of_ends fuel _ a' w' h'.2) (h.2 i hi)⟩
theorem not_waits {i j : Nat} {listed : Array Bool} {oj : Oper} (hr : i ∈ Region.ready md ops listed) (hall : ∀ e ∈ oj.after, Region.binds md e = true -> listed.getD e.on false = true) : ∀ e ∈ oj.after, Region.binds md e = true -> e.on ≠ i := fun e he hb heq => by
 have h1 := hall e he hb;have h0 := (mem_ready.1 hr).1;rw [heq] at h1
 rcases Nat.lt_or_ge i listed.size with h' | h'
 ·simp [h'] at h0 h1; rw [h0] at h1; cases h1
 simp [Array.getElem?_eq_none h'] at h1
theorem wpAnyE_first0 {i : Nat} {oi : Oper} {v : Value} (hi : ops[i]? = some oi) (hsel : ∀ (j : Nat) (o : Oper) cs b, ops[j]? = some o -> o.op ≠ .select cs b)
  (hQ : ∀ c a w, Q (.panic c) (a.put oi.dst v) w -> Q (.panic c) a w) (his : i ≠ s) :
  ∀ (fuel : Nat) (listed : Array Bool) (a : Act) (w : World),
   (∀ j oj, ops[j]? = some oj -> j ≠ i -> listed.getD j true = false -> (∀ e ∈ oj.after, Region.binds md e = true -> e.on ≠ i) -> oi.apart ops oj = true) ->
   i ∈ Region.ready md ops listed -> YieldsIf P ops S0 oi v a -> (S0 w /\ (listed.getD s true = false -> S w)) ->
   wpAnyE P md ops Q S0 S s fuel (listed.setIfInBounds i true) (a.put oi.dst v) w -> wpAnyE P md ops Q S0 S s (fuel + 1) listed a w := by
 intro fuel
 induction fuel with
 | zero =>
  intro listed a w _ hr hy hS H;refine ⟨fun h => (by rw [h] at hr; cases hr), fun j hj => ?_⟩
  by_cases hji : j = i
  ·subst hji; exact hy.wpOp hi hS.1 ⟨⟨hS.1, fun h => hS.2 (by rw [getD_set_ne true his] at h; exact h)⟩, H⟩
  have := ready_mono hj hji;rw [H.1] at this
  cases this
 | succ fuel ih =>
  intro listed a w hfree hr hy hS H;refine ⟨fun h => (by rw [h] at hr; cases hr), fun j hj => ?_⟩
  by_cases hji : j = i
  ·subst hji; exact hy.wpOp hi hS.1 ⟨⟨hS.1, fun h => hS.2 (by rw [getD_set_ne true his] at h; exact h)⟩, H⟩
  have h1 := H.2 j (ready_mono hj hji);obtain ⟨hjun, oj, hoj, hall⟩ := mem_ready.1 hj;have h2 := wpOp_putIf hoj (hfree j oj hoj hji hjun (not_waits (i := i) (j := j) hr hall)) (fun cs b => hsel i oi cs b hi) (fun cs b => hsel j oj cs b hoj) hQ hy h1
  have hfree' : ∀ k ok, ops[k]? = some ok -> k ≠ i -> (listed.setIfInBounds j true).getD k true = false ->
    (∀ e ∈ ok.after, Region.binds md e = true -> e.on ≠ i) -> oi.apart ops ok = true := fun k ok hk hki hun hno => by
   refine hfree k ok hk hki ?_ hno
   by_cases hjk : j = k
   ·subst hjk; exact hjun
   rw [getD_set_ne true hjk] at hun; exact hun
  refine wpOp_mono (fun a' w' h3 => ?_) h2;have hS' : S0 w' /\ ((listed.setIfInBounds j true).getD s true = false -> S w') := ⟨h3.2.1.1, fun h => h3.2.1.2 (by rw [Array.setIfInBounds_comm _ _ (Ne.symm hji), getD_set_ne true his]; exact h)⟩
  refine ⟨hS', ih (listed.setIfInBounds j true) a' w' hfree' (ready_mono hr (Ne.symm hji)) h3.1 hS' ?_⟩;rw [Array.setIfInBounds_comm _ _ hji]
  exact h3.2.2
theorem wpAnyE_first1 {i : Nat} {oi os : Oper} {v : Value} (hi : ops[i]? = some oi) (hsel : ∀ (j : Nat) (o : Oper) cs b, ops[j]? = some o -> o.op ≠ .select cs b)
  (hQ : ∀ c a w, Q (.panic c) (a.put oi.dst v) w -> Q (.panic c) a w) (his : i ≠ s) (hos : ops[s]? = some os) (hw : ∃ e ∈ os.after, Region.binds md e = true /\ e.on = i) :
  ∀ (fuel : Nat) (listed : Array Bool) (a : Act) (w : World),
   (∀ j oj, ops[j]? = some oj -> j ≠ i -> listed.getD j true = false -> (∀ e ∈ oj.after, Region.binds md e = true -> e.on ≠ i) -> oi.apart ops oj = true) ->
   i ∈ Region.ready md ops listed -> listed.getD s true = false -> YieldsIf P ops S oi v a -> (S0 w /\ (listed.getD s true = false -> S w)) ->
   wpAnyE P md ops Q S0 S s fuel (listed.setIfInBounds i true) (a.put oi.dst v) w -> wpAnyE P md ops Q S0 S s (fuel + 1) listed a w := by
 intro fuel
 induction fuel with
 | zero =>
  intro listed a w _ hr hls hy hS H;refine ⟨fun h => (by rw [h] at hr; cases hr), fun j hj => ?_⟩
  by_cases hji : j = i
  ·subst hji; exact hy.wpOp hi (hS.2 hls) ⟨⟨hS.1, fun h => hS.2 (by rw [getD_set_ne true his] at h; exact h)⟩, H⟩
  have := ready_mono hj hji;rw [H.1] at this
  cases this
 | succ fuel ih =>
  intro listed a w hfree hr hls hy hS H;refine ⟨fun h => (by rw [h] at hr; cases hr), fun j hj => ?_⟩
  by_cases hji : j = i
  ·subst hji; exact hy.wpOp hi (hS.2 hls) ⟨⟨hS.1, fun h => hS.2 (by rw [getD_set_ne true his] at h; exact h)⟩, H⟩
  have h1 := H.2 j (ready_mono hj hji);obtain ⟨hjun, oj, hoj, hall⟩ := mem_ready.1 hj;have hnot := not_waits (i := i) (j := j) hr hall
  have hjs : j ≠ s := fun e => by
   subst e;rw [hos] at hoj;obtain ⟨x, hx, hb, ho⟩ := hw;rw [qA] at hoj;subst hoj
   exact hnot x hx hb ho
  have h2 := wpOp_putIf hoj (hfree j oj hoj hji hjun hnot) (fun cs b => hsel i oi cs b hi) (fun cs b => hsel j oj cs b hoj) hQ hy h1
  have hfree' : ∀ k ok, ops[k]? = some ok -> k ≠ i -> (listed.setIfInBounds j true).getD k true = false ->
    (∀ e ∈ ok.after, Region.binds md e = true -> e.on ≠ i) -> oi.apart ops ok = true := fun k ok hk hki hun hno => by
   refine hfree k ok hk hki ?_ hno
   by_cases hjk : j = k
   ·subst hjk; exact hjun
   rw [getD_set_ne true hjk] at hun; exact hun
  have hls' : (listed.setIfInBounds j true).getD s true = false := by rw [getD_set_ne true hjs]; exact hls
  refine wpOp_mono (fun a' w' h3 => ?_) h2;have hS' : S0 w' /\ ((listed.setIfInBounds j true).getD s true = false -> S w') := ⟨h3.2.1.1, fun h => h3.2.1.2 (by rw [Array.setIfInBounds_comm _ _ (Ne.symm hji), getD_set_ne true his]; exact h)⟩
  refine ⟨hS', ih (listed.setIfInBounds j true) a' w' hfree' (ready_mono hr (Ne.symm hji)) hls' h3.1 hS' ?_⟩;rw [Array.setIfInBounds_comm _ _ hji]
  exact h3.2.2
theorem wpAnyE_take0 {i : Nat} {oi : Oper} {v : Value} {fuel : Nat} {listed : Array Bool} {a : Act} {w : World} (hi : ops[i]? = some oi)
  (hs : Region.noSelect ops = true) (hf : Region.free md ops listed i = true) (hr : (Region.ready md ops listed).contains i = true) (his : i ≠ s)
  (hQ : ∀ c a w, Q (.panic c) (a.put oi.dst v) w -> Q (.panic c) a w) (hy : YieldsIf P ops S0 oi v a) (hS : S0 w /\ S w)
  (h : wpAnyE P md ops Q S0 S s fuel (listed.setIfInBounds i true) (a.put oi.dst v) w) : wpAnyE P md ops Q S0 S s (fuel + 1) listed a w :=
 wpAnyE_first0 hi (Region.noSelect_spec hs) hQ his fuel listed a w (Region.free_spec hi hf) (by simpa using hr) hy ⟨hS.1, fun _ => hS.2⟩ h
theorem wpAnyE_take1 {i : Nat} {oi os : Oper} {v : Value} {fuel : Nat} {listed : Array Bool} {a : Act} {w : World} (hi : ops[i]? = some oi) (hos : ops[s]? = some os)
  (hs : Region.noSelect ops = true) (hf : Region.free md ops listed i = true) (hr : (Region.ready md ops listed).contains i = true) (his : i ≠ s) (hls : listed.getD s true = false)
  (hw : ∃ e ∈ os.after, Region.binds md e = true /\ e.on = i)
  (hQ : ∀ c a w, Q (.panic c) (a.put oi.dst v) w -> Q (.panic c) a w) (hy : YieldsIf P ops S oi v a) (hS : S0 w /\ S w)
  (h : wpAnyE P md ops Q S0 S s fuel (listed.setIfInBounds i true) (a.put oi.dst v) w) : wpAnyE P md ops Q S0 S s (fuel + 1) listed a w :=
 wpAnyE_first1 hi (Region.noSelect_spec hs) hQ his hos hw fuel listed a w (Region.free_spec hi hf) (by simpa using hr) hls hy ⟨hS.1, fun _ => hS.2⟩ h
theorem kk0 {S0 : World -> Prop} {c : Prop} {R K : Act -> World -> Prop} (hK : Shut (∀ a w, (S0 w /\ (c -> True)) -> R a w -> K a w)) {a : Act} {w : World} (h : S0 w) (hr : R a w) : K a w := hK.out a w ⟨h, fun _ => trivial⟩ hr
theorem tkE {i : Nat} {oi : Oper} {v : Value} {fuel : Nat} {listed : Array Bool} {a : Act} {w : World} (hi : ops[i]? = some oi) (hy : YieldsIf P ops S0 oi v a) (hS : S0 w /\ S w)
  (h : wpAnyE P md ops Q S0 S s fuel (listed.setIfInBounds i true) (a.put oi.dst v) w)
  (hs : Region.noSelect ops = true := by kernel_rfl) (hf : Region.free md ops listed i = true := by kernel_rfl) (hr : (Region.ready md ops listed).contains i = true := by kernel_rfl) (his : i ≠ s := by decide)
  (hQ : ∀ c a w, Q (.panic c) (a.put oi.dst v) w -> Q (.panic c) a w := by exact fun _ _ _ h => h) : wpAnyE P md ops Q S0 S s (fuel + 1) listed a w :=
 wpAnyE_take0 hi hs hf hr his hQ hy hS h
theorem tkl (i : Nat) {oi : Oper} {v : Value} {fuel : Nat} {listed : Array Bool} {a : Act} {w : World} (hi : ops[i]? = some oi) (hS : S0 w /\ S w)
  (h : wpAnyE P md ops Q S0 S s fuel (listed.setIfInBounds i true) (a.put oi.dst v) w)
  (hw : Region.wanted oi (yielded ops a.tmps) = true := by rfl)
  (hy : ∀ w, S0 w -> (execOp a.eval oi).run P w = .ok (.value v) w := by (intro wz hSw; (try dsimp only at hSw); go_simp; try (with_reducible rfl)))
  (hs : Region.noSelect ops = true := by kernel_rfl) (hf : Region.free md ops listed i = true := by kernel_rfl) (hr : (Region.ready md ops listed).contains i = true := by kernel_rfl) (his : i ≠ s := by decide)
  (hQ : ∀ c a w, Q (.panic c) (a.put oi.dst v) w -> Q (.panic c) a w := by exact fun _ _ _ h => h) : wpAnyE P md ops Q S0 S s (fuel + 1) listed a w :=
 wpAnyE_take0 hi hs hf hr his hQ (Or.inl ⟨hw, hy⟩) hS h
theorem tku (i : Nat) {oi : Oper} {fuel : Nat} {listed : Array Bool} {a : Act} {w : World} (hi : ops[i]? = some oi) (hS : S0 w /\ S w)
  (h : wpAnyE P md ops Q S0 S s fuel (listed.setIfInBounds i true) (a.put oi.dst undef) w)
  (hw : Region.wanted oi (yielded ops a.tmps) = false := by kernel_rfl)
  (hs : Region.noSelect ops = true := by kernel_rfl) (hf : Region.free md ops listed i = true := by kernel_rfl) (hr : (Region.ready md ops listed).contains i = true := by kernel_rfl) (his : i ≠ s := by decide)
  (hQ : ∀ c a w, Q (.panic c) (a.put oi.dst undef) w -> Q (.panic c) a w := by exact fun _ _ _ h => h) : wpAnyE P md ops Q S0 S s (fuel + 1) listed a w :=
 wpAnyE_take0 hi hs hf hr his hQ (Or.inr ⟨hw, rfl⟩) hS h
theorem tkM {i : Nat} {oi os : Oper} {v : Value} {fuel : Nat} {listed : Array Bool} {a : Act} {w : World} (hi : ops[i]? = some oi) (hos : ops[s]? = some os) (hS : S0 w /\ S w)
  (h : wpAnyE P md ops Q S0 S s fuel (listed.setIfInBounds i true) (a.put oi.dst v) w)
  (hw : Region.wanted oi (yielded ops a.tmps) = true := by rfl)
  (hy : ∀ w, S w -> (execOp a.eval oi).run P w = .ok (.value v) w := by (intro wz hSw; (try dsimp only at hSw); go_simp; try (with_reducible rfl)))
  (hs : Region.noSelect ops = true := by kernel_rfl) (hf : Region.free md ops listed i = true := by kernel_rfl) (hr : (Region.ready md ops listed).contains i = true := by kernel_rfl) (his : i ≠ s := by decide)
  (hls : listed.getD s true = false := by rfl) (hb : ∃ e ∈ os.after, Region.binds md e = true /\ e.on = i := by simp [Region.binds])
  (hQ : ∀ c a w, Q (.panic c) (a.put oi.dst v) w -> Q (.panic c) a w := by exact fun _ _ _ h => h) : wpAnyE P md ops Q S0 S s (fuel + 1) listed a w :=
 wpAnyE_take1 hi hos hs hf hr his hls hb hQ (Or.inl ⟨hw, hy⟩) hS h
theorem wpAnyE_one {i : Nat} {o : Oper} {fuel : Nat} {listed : Array Bool} {a : Act} {w : World} (hr : Region.ready md ops listed = [i]) (ho : ops[i]? = some o)
  (h : ∀ K' : Act -> World -> Prop, Shut (∀ a w, (S0 w /\ ((listed.setIfInBounds i true).getD s true = false -> S w)) -> wpAnyE P md ops Q S0 S s fuel (listed.setIfInBounds i true) a w -> K' a w) -> if Region.wanted o (yielded ops a.tmps) = true then Oper.wp P o a w K' Q else K' (a.put o.dst undef) w) : wpAnyE P md ops Q S0 S s (fuel + 1) listed a w := by
 refine ⟨fun h0 => (by rw [hr] at h0; cases h0), fun j hj => ?_⟩;rw [hr] at hj
 rcases List.mem_cons.1 hj with rfl | hj
 ·exact wpOp_step ho (fun K' hK => h K' (fun a w hS hW => hK a w ⟨hS, hW⟩))
 cases hj
theorem wo1 (i : Nat) {o : Oper} {fuel : Nat} {listed : Array Bool} {a : Act} {w : World} (ho : ops[i]? = some o)
  (h : ∀ K' : Act -> World -> Prop, Shut (∀ a w, (S0 w /\ ((listed.setIfInBounds i true).getD s true = false -> S w)) -> wpAnyE P md ops Q S0 S s fuel (listed.setIfInBounds i true) a w -> K' a w) -> if Region.wanted o (yielded ops a.tmps) = true then Oper.wp P o a w K' Q else K' (a.put o.dst undef) w) (hr : Region.ready md ops listed = [i] := by kernel_rfl) : wpAnyE P md ops Q S0 S s (fuel + 1) listed a w := by
 refine ⟨fun h0 => (by rw [hr] at h0; cases h0), fun j hj => ?_⟩;rw [hr] at hj
 rcases List.mem_cons.1 hj with rfl | hj
 ·exact wpOp_step ho (fun K' hK => h K' (fun a w hS hW => hK a w ⟨hS, hW⟩))
 cases hj
theorem wpAnyE_two {i j : Nat} {oi oj : Oper} {fuel : Nat} {listed : Array Bool} {a : Act} {w : World} (hr : Region.ready md ops listed = [i, j]) (hi : ops[i]? = some oi) (hj : ops[j]? = some oj)
  (h1 : ∀ K' : Act -> World -> Prop, Shut (∀ a w, (S0 w /\ ((listed.setIfInBounds i true).getD s true = false -> S w)) -> wpAnyE P md ops Q S0 S s fuel (listed.setIfInBounds i true) a w -> K' a w) -> if Region.wanted oi (yielded ops a.tmps) = true then Oper.wp P oi a w K' Q else K' (a.put oi.dst undef) w)
  (h2 : ∀ K' : Act -> World -> Prop, Shut (∀ a w, (S0 w /\ ((listed.setIfInBounds j true).getD s true = false -> S w)) -> wpAnyE P md ops Q S0 S s fuel (listed.setIfInBounds j true) a w -> K' a w) -> if Region.wanted oj (yielded ops a.tmps) = true then Oper.wp P oj a w K' Q else K' (a.put oj.dst undef) w) : wpAnyE P md ops Q S0 S s (fuel + 1) listed a w := by
 refine ⟨fun h0 => (by rw [hr] at h0; cases h0), fun z hz => ?_⟩;rw [hr] at hz
 rcases List.mem_cons.1 hz with rfl | hz
 ·exact wpOp_step hi (fun K' hK => h1 K' (fun a w hS hW => hK a w ⟨hS, hW⟩))
 rcases List.mem_cons.1 hz with rfl | hz
 ·exact wpOp_step hj (fun K' hK => h2 K' (fun a w hS hW => hK a w ⟨hS, hW⟩))
 cases hz
theorem wo2 (i j : Nat) {oi oj : Oper} {fuel : Nat} {listed : Array Bool} {a : Act} {w : World} (hi : ops[i]? = some oi) (hj : ops[j]? = some oj)
  (h1 : ∀ K' : Act -> World -> Prop, Shut (∀ a w, (S0 w /\ ((listed.setIfInBounds i true).getD s true = false -> S w)) -> wpAnyE P md ops Q S0 S s fuel (listed.setIfInBounds i true) a w -> K' a w) -> if Region.wanted oi (yielded ops a.tmps) = true then Oper.wp P oi a w K' Q else K' (a.put oi.dst undef) w)
  (h2 : ∀ K' : Act -> World -> Prop, Shut (∀ a w, (S0 w /\ ((listed.setIfInBounds j true).getD s true = false -> S w)) -> wpAnyE P md ops Q S0 S s fuel (listed.setIfInBounds j true) a w -> K' a w) -> if Region.wanted oj (yielded ops a.tmps) = true then Oper.wp P oj a w K' Q else K' (a.put oj.dst undef) w) (hr : Region.ready md ops listed = [i, j] := by kernel_rfl) : wpAnyE P md ops Q S0 S s (fuel + 1) listed a w := by
 refine ⟨fun h0 => (by rw [hr] at h0; cases h0), fun z hz => ?_⟩;rw [hr] at hz
 rcases List.mem_cons.1 hz with rfl | hz
 ·exact wpOp_step hi (fun K' hK => h1 K' (fun a w hS hW => hK a w ⟨hS, hW⟩))
 rcases List.mem_cons.1 hz with rfl | hz
 ·exact wpOp_step hj (fun K' hK => h2 K' (fun a w hS hW => hK a w ⟨hS, hW⟩))
 cases hz
theorem wpAnyE_done {listed : Array Bool} {a : Act} {w : World} (hr : Region.ready md ops listed = []) (h : Q .normal a w) : ∀ fuel, wpAnyE P md ops Q S0 S s fuel listed a w
 | 0 => ⟨hr, h⟩
 | _ + 1 => ⟨fun _ => h, by rw [hr]; simp⟩
theorem wp_region_ends {id : Nat} {a : Act} {w : World} (S0 S : World -> Prop) (s : Nat) (hm : P.follows .mixedOrders = true)
  (h : wpAnyE P .any ops Q S0 S s ops.size (Array.replicate ops.size false) a w.drew) : (Code.region id ops true).wp P Q a w :=
 wp_region_any hm (wpAny_of_ends _ _ _ _ h)
theorem wod {listed : Array Bool} {a : Act} {w : World} (h : Q .normal a w) (fuel : Nat) (hr : Region.ready md ops listed = [] := by kernel_rfl) : wpAnyE P md ops Q S0 S s fuel listed a w := wpAnyE_done hr h fuel
end
def Lo (B : Nat) (xs : List Value) : Prop := ∀ (i b o : Nat) (m c : Nat), xs[i]? = some (Value.slice (some ⟨b, o, none⟩) m c) -> B <= b
theorem Lo.nil (B : Nat) : Lo B [] := fun i b o m c h => by simp at h
theorem Lo.app {B : Nat} (h : Lo B xs) {B1 B2 n1 n2 c1 c2 : Nat} {K : Int} (h1 : B <= B1) (h2 : B <= B2) : Lo B (xs ++ [.slice (some ⟨B1, 0, none⟩) n1 c1, .slice (some ⟨B2, 0, none⟩) n2 c2, .int .i64 K]) := fun i b o m c e => by
 by_cases hi : i < xs.length
 ·rw [List.getElem?_append_left hi] at e; exact h i b o m c e
 rw [List.getElem?_append_right (by omega)] at e;generalize i - xs.length = j at e
 match j with
 | 0 => simp at e; omega
 | 1 => simp at e; omega
 | 2 => simp at e
 | j + 3 => simp at e
theorem Ints.offC {a : Option Addr} {zs : List Int} (h : Ints W a n zs) (hb : ∀ b o, a = some ⟨b, o, none⟩ -> ¬ S b) (t : Touch S W W') : Ints W' a n zs := by
 refine ⟨h.1, fun i hi => ?_⟩;obtain ⟨b, off, e, hc⟩ := h.2 i hi;refine ⟨b, off, e, ?_⟩;have hl := block_lt hc;simp only [World.cell?] at hc ⊢;rw [t.block b hl (hb b off e)]; exact hc
theorem own_off {base : Nat} {e : TypeId} {s : Nat} {v : Value} (h : W.ownsRow base e s v n xs) (hn : ∀ g, v.ownBlock = some g -> ¬ S g) (t : Touch S W W') : W'.ownsRow base e s v n xs := by
 refine ⟨h.1, ?_⟩
 rcases h.2 with h2 | ⟨g, cap, cur, hv, hg, hh, r⟩
 ·exact Or.inl h2
 refine Or.inr ⟨g, cap, cur, hv, hg, ?_, r⟩;rw [t.block g (lt_of_block hh) (hn g (by rw [hv]; rfl))]; exact hh
theorem TermsOk.off (h : TermsOk W G xs fs n) {B : Nat} (hl : Lo B xs) (hS : ∀ k, S k -> k < B) (t : Touch S W W') : TermsOk W' G xs fs n := fun i hi => by
 obtain ⟨a', c', ca, cc, e0, e1, e2, i1, i2, n1, n2⟩ := h i hi;refine ⟨a', c', ca, cc, e0, e1, e2, i1.offC (fun b o e hs => ?_) t, i2.offC (fun b o e hs => ?_) t, n1, n2⟩
 ·rw [e] at e0;have := hl _ _ _ _ _ e0;have := hS _ hs
  omega
 rw [e] at e1;have := hl _ _ _ _ _ e1;have := hS _ hs
 omega
structure JF (w : World) (G cap n : Nat) (xs : List Value) (fs : List Frm) (W : World) : Prop where
 b : Below w.heap.size w W
 o : W.ownsRow w.heap.size 106 3 (.slice (some ⟨G, 0, none⟩) n cap) n xs
 t : TermsOk W G xs fs n
 l : Lo w.heap.size xs
theorem JF.below (j : JF w G cap n xs fs W) (h : Below W.heap.size W W') : JF w G cap n xs fs W' := ⟨j.b.trans (h.mono j.b.size), own_below j.o h, j.t.below h, j.l⟩
theorem JF.at (j : JF w G cap n xs fs W) (hn : fs.length = n) : FormsAt W (some ⟨G, 0, none⟩) fs := j.t.forms hn j.o
theorem JF.lt (j : JF w G cap n xs fs W) : w.heap.size <= G /\ G < W.heap.size := by
 rcases j.o.2 with ⟨h, _⟩ | ⟨g, cap', cur, h, hg, hh, _⟩
 ·cases h
 simp only [Value.slice.injEq, qA, Addr.mk.injEq, and_true, true_and] at h;obtain ⟨rfl, _⟩ := h
 exact ⟨hg, lt_of_block hh⟩
theorem JF.off (j : JF w G cap n xs fs W) (hn : fs.length = n) {S : Nat -> Prop} (hS : ∀ k, S k -> k < w.heap.size) (t : Touch S W W') : FormsAt W' (some ⟨G, 0, none⟩) fs := by
 have hG := j.lt
 have o' := own_off j.o (fun g hg hs => by
  have : some G = some g := hg;simp only [qA] at this;have := hS _ hs
  omega) t
 exact (j.t.off j.l hS t).forms hn o'
theorem lin3_one {xs : List Int} (h : xs.length = 3) : lin [0, 0, 0] xs 1 = xs := by
 match xs, h with
 | [x, y, z], _ => simp [lin]
theorem lin2_one {xs : List Int} (h : xs.length = 2) : lin [0, 0] xs 1 = xs := by
 match xs, h with
 | [x, y], _ => simp [lin]
theorem scopy_any {ad : Option Addr} {N : Nat} (fs : List Frm) {w : World} (hN : fs.length = N) (hF : FormsAt w ad fs) (hfit : ∀ k, k < N -> fitX 10000000 (fs[k]?.getD ([], [], 0))) (hN1 : N <= 1048576) :
  Calls Tryz.prog 129 #[.slice ad N cap] w fun e w' => ∃ G cp xs, e = .returned (.slice (some ⟨G, 0, none⟩) N cp) /\ JF w G cp N xs fs w' := by
 have HN : Hid (fs.length = N) := hN;have HFT : Hid _ := hfit;have HF : Hid (FormsAt w ad fs) := hF;clear hN hfit hF;obtain ⟨i0, hi, hz0, hz1, hz2⟩ := info_parts Tryz.infoForm
 have j0 : JF w w.heap.size 0 0 [] fs (w.alloc (.cells #[] 106)) :=
  ⟨bal, World.ownsRow_lit w #[] 0 (Nat.le_refl _) (by unfold maxLen; omega) rfl, fun j hj => by omega, Lo.nil _⟩
 go_enter Tryz.func129, Tryz.ntmps129
 go_wp2_with fail
 go_loopw [3, 4] (fun r i wr => ∃ (k G cp : Nat) (xs : List Value), k <= N /\ i = .int .i64 k /\ r = .slice (some ⟨G, 0, none⟩) k cp /\ JF w G cp k xs fs wr) (fun _ i _ => N - (intOf i).toNat)
 case atStart => exact ⟨0, _, _, _, Nat.zero_le _, rfl, rfl, j0⟩
 case round =>
  clear j0;obtain ⟨k, G, cp, xs, hk, rfl, rfl, j⟩ := hrel
  by_cases hlt : k < N
  ·obtain ⟨b, off, rfl, a', c', ca, cc, c0, c1, c2, iC, iD⟩ := HF.out k (by rw [HN.out]; exact hlt);have hfit := HFT.out k hlt;have HK : Hid (fs[k]?.getD ([], [], 0) = fs[k]?.getD ([], [], 0)) := rfl;generalize HG : fs[k]?.getD ([], [], 0) = f at *;have HT : Hid (fs[k]?.getD ([], [], 0) = f) := HG;clear HG HK;obtain ⟨fC, fD, fK⟩ := f;obtain ⟨lC, lD, bC, bD, k1, k2⟩ := hfit;simp only at c2 iC iD lC lD bC bD k1 k2
   have keep : ∀ W : World, Below w.heap.size w W -> (W.cell? ⟨b, off + k * 3, none⟩ = some (.slice a' 3 ca) /\ W.cell? ⟨b, off + k * 3 + 1, none⟩ = some (.slice c' 2 cc) /\ W.cell? ⟨b, off + k * 3 + 2, none⟩ = some (.int .i64 fK)) := fun W hW =>
    ⟨by rw [hW.cell (p := ⟨b, off + k * 3, none⟩) (block_lt c0)]; exact c0, by rw [hW.cell (p := ⟨b, off + k * 3 + 1, none⟩) (block_lt c1)]; exact c1, by rw [hW.cell (p := ⟨b, off + k * 3 + 2, none⟩) (block_lt c2)]; exact c2⟩
   have KP : Hid _ := keep;clear keep;have hSS := And.intro (KP.out _ j.b.drew) (True.intro);clear c0 c1 c2;have hlt' : (k : Int) < N := by omega
   go_upto_region 5 with fail
   refine wp_region_ends (fun w' => w'.cell? ⟨b, off + k * 3, none⟩ = some (.slice a' 3 ca) /\ w'.cell? ⟨b, off + k * 3 + 1, none⟩ = some (.slice c' 2 cc) /\ w'.cell? ⟨b, off + k * 3 + 2, none⟩ = some (.int .i64 fK)) (fun _ => True) 9 (by kernel_rfl) ?_;refine tkl 0 rfl hSS ?_;refine tkl 2 rfl hSS ?_;refine tkl 3 rfl hSS ?_;refine tkl 4 rfl hSS ?_;refine tkl 5 rfl hSS ?_;refine wo1 1 rfl fun K hK => ?_;go_simp;refine (szero_any).mono ?_;rintro ee w3 ⟨Z1, Z2, rfl, b3, y1, y2, y3, z1, z2⟩;have j3 := j.below (below_of_drew b3);dsimp only;refine kk0 hK (KP.out _ j3.b) ?_;clear hK K hSS j;refine wo1 6 rfl fun K hK => ?_;go_simp;refine (l1sum_any [0, 0, 0] [0, 0] fC fD (z1.ints' rfl) (z2.ints' rfl) (iC.below j3.b) (iD.below j3.b) bnd_lit3 bnd_lit2 (by omega) (fun i => by have := bC i; omega) (fun i => by have := bD i; omega) (by omega)).mono ?_;rintro ee w4 ⟨B1, B2, rfl, b4, g1, g2, g3, u1, u2⟩;rw [lin3_one lC] at u1;rw [lin2_one lD] at u2;have e0 : (0 : Int) + 1 * fK = fK := by omega
   rw [e0];have j4 := j3.below b4;have lG := j3.lt;have hs3 := j3.b.size;have l1 := u1.lt;have l2 := u2.lt;dsimp only;refine kk0 hK (KP.out _ j4.b) ?_;clear hK K z1 z2 b3 b4 y1 y2 y3;refine wo1 7 rfl fun K hK => ?_;go_simp;have A5 : Below w4.heap.size w4 (w4.alloc (.cells #[.slice (some ⟨B1, 0, none⟩) 3 3, .slice (some ⟨B2, 0, none⟩) 2 2, .int .i64 fK] 106)) := bal;have j5 := j4.below A5;have hs5 := j5.b.size;have v1 := u1.below A5;have v2 := u2.below A5;have s43 := A5.size;have lG4 := j4.lt;refine kk0 hK (KP.out _ j5.b) ?_;clear hK K A5 j3 j4;refine wo1 8 rfl fun K hK => ?_;rw [if_pos (by rfl)];refine wp_append_lies _ (.tmp 12) (.tmp 19) 111 rfl w.heap.size 106 i0 _ 3 56 Tryz.underlying111 hi hz0 hz1 hz2 rfl (by omega) (.slice (some ⟨G, 0, none⟩) k cp) k xs (by rfl) j5.o ⟨w4.heap.size, 0, none⟩ 1 1 [Value.slice (some ⟨B1, 0, none⟩) 3 3, Value.slice (some ⟨B2, 0, none⟩) 2 2, Value.int .i64 fK] (by rfl) (by rfl) (World.news_of_block (cs := #[Value.slice (some ⟨B1, 0, none⟩) 3 3, Value.slice (some ⟨B2, 0, none⟩) 2 2, Value.int .i64 fK]) (t := 106) (fr := (0, 0)) (heap_alloc_new w4 _)) (by simp [Value.oneCell']) (by omega) (by unfold maxLen; omega) (by omega) hs5 (w4.heap.size + 1) (by rw [qB]) ?_;intro g cp2 w6 hown hgrow hat hlt6
   have j6 : JF w g cp2 (k + 1) (xs ++ [Value.slice (some ⟨B1, 0, none⟩) 3 3, Value.slice (some ⟨B2, 0, none⟩) 2 2, Value.int .i64 fK]) fs w6 := by
    refine ⟨j5.b.grown hgrow hs5 (fun z hz => ?_), hown, j5.t.step j5.o.1 hgrow ?_ (v1.ints' lC) (v2.ints' lD) (by omega) (by omega) HT.out, j5.l.app (by omega) (by omega)⟩
    ·have : some G = some z := hz;simp only [qA] at this
     omega
    rcases hat with h | h
    ·have : some G = some g := h;simp only [qA] at this
     exact Or.inl this.symm
    exact Or.inr (by rw [qB]; omega)
   refine kk0 hK (KP.out _ j6.b) ?_;clear hK K hown hgrow hat j5 v1 v2 u1 u2;refine wo1 9 rfl fun K hK => ?_;go_simp;refine kk0 hK (KP.out _ j6.b) ?_;refine wod ?_ _
   go_wp2
   go_roundw
   case rel => exact ⟨k + 1, g, cp2, _, by omega, by go_num, rfl, j6⟩
   case measure => simp [intOf]; omega
  obtain rfl : k = N := by omega
  go_wp2
  go_ret
  exact ⟨G, cp, xs, rfl, j⟩
theorem sminus_any {a : Option Addr} {c : Option Addr} {cap' : Nat} {K : Int} (C D : List Int) {w : World} (hC : Ints w a 3 C) (hD : Ints w c 2 D) (bC : bnd 10000000 C) (bD : bnd 10000000 D) (bK1 : -10000000 <= K) (bK2 : K <= 10000000) :
  Calls Tryz.prog 131 #[formV a 3 cap c 2 cap' K] w fun e w' => ∃ B1 B2, e = .returned (formV (some ⟨B1, 0, none⟩) 3 3 (some ⟨B2, 0, none⟩) 2 2 (-K - 1)) /\ Below w.heap.size w w' /\ w.heap.size <= B1 /\ B1 ≠ B2 /\ w.heap.size <= B2 /\ Blk w' B1 (mulL (-1) C) /\ Blk w' B2 (mulL (-1) D) := by
 obtain ⟨k, hk⟩ : ∃ k : Int, k = -1 := ⟨_, rfl⟩
 have tC : bndT 1000000000000000000 k C := by rw [hk]; exact fun i => by have := bC i; omega
 have tD : bndT 1000000000000000000 k D := by rw [hk]; exact fun i => by have := bD i; omega
 have tK : -1000000000000000000 <= k * K /\ k * K <= 1000000000000000000 := by rw [hk]; omega
 have Z3 := lin_zero3 (k := k) hC.1;have Z2 := lin_zero2 (k := k) hD.1
 have H1 : TimesH w a cap c cap' K ((w.alloc (Obj.cells #[Value.slice a 3 cap, Value.slice c 2 cap', Value.int IntKind.i64 K] 106)).alloc (Obj.cells #[Value.slice none 0 0, Value.slice none 0 0, Value.int IntKind.i64 0] 106)) :=
  ⟨(Cel.new w _ _).alloc _, by have := Cel.new (w.alloc (Obj.cells #[Value.slice a 3 cap, Value.slice c 2 cap', Value.int IntKind.i64 K] 106)) [.slice none 0 0, .slice none 0 0, .int .i64 0] 106; rw [qB] at this; exact this, (bal).alloc (by simp) _⟩
 have HK : Hid (k = -1) := hk;subst hk
 go_enter Tryz.func131, Tryz.ntmps131
 go_upto_region 1 with fail
 obtain ⟨w2, hw2⟩ : ∃ w2, w2 = (w.alloc (Obj.cells #[Value.slice a 3 cap, Value.slice c 2 cap', Value.int IntKind.i64 K] 106)).alloc (Obj.cells #[Value.slice none 0 0, Value.slice none 0 0, Value.int IntKind.i64 0] 106) := ⟨_, rfl⟩
 rw [<- hw2] at H1 ⊢;clear hw2
 go_cut [3] (fun s wx => ∃ X B1 B2, s = .pointer (some ⟨X, 0, none⟩) /\ TimesH w a cap c cap' K wx /\ Cel wx X [.slice (some ⟨B1, 0, none⟩) 3 3, .slice (some ⟨B2, 0, none⟩) 2 2, .int .i64 (-K)] 106 /\ Blk wx B1 (mulL (-1) C) /\ Blk wx B2 (mulL (-1) D) /\ w.heap.size + 1 < X /\ w.heap.size + 1 < B1 /\ w.heap.size + 1 < B2 /\ B1 ≠ B2 /\ B1 ≠ X /\ B2 ≠ X)
 case first =>
  have l1 := H1.r.lt;have G1 := H1.cells;have N0 := World.new_ne w2 ⟨w.heap.size, 0, none⟩ G1.1;have N1 := World.new_ne w2 ⟨w.heap.size, 1, none⟩ G1.2.1;have N2 := World.new_ne w2 ⟨w.heap.size, 2, none⟩ G1.2.2;have A1 := H1.b.size
  go_region_held3 (fun w' => w'.cell? ⟨w.heap.size, 0, none⟩ = some (.slice a 3 cap) /\ w'.cell? ⟨w.heap.size, 1, none⟩ = some (.slice c 2 cap') /\ w'.cell? ⟨w.heap.size, 2, none⟩ = some (.int .i64 K)) (first | assumption | go_keep)
   (first
    | (go_at_call 64; refine (szero_any).mono ?_; rintro e w3 ⟨Z1, Z2', rfl, b3, y1, y2, y3, k1, k2⟩; have H3 := TimesH.below (w := w) (a := a) (c := c) (cap := cap) (cap' := cap') (K := K) (by first | exact H1.drew | exact (H1.alloc _).drew) b3; have G3 := H3.cells; have l3 := H3.r.lt; have A3 : w2.heap.size <= w3.heap.size := Nat.le_trans (by simp) b3.size; have N3 := World.new_ne w3 ⟨w.heap.size, 0, none⟩ G3.1; have N4 := World.new_ne w3 ⟨w.heap.size, 1, none⟩ G3.2.1; have N5 := World.new_ne w3 ⟨w.heap.size, 2, none⟩ G3.2.2; first | (have X3 := Cel.below (w := (w2.alloc (Obj.cells #[Value.slice none 0 0, Value.slice none 0 0, Value.int IntKind.i64 0] 106)).drew) (Cel.new w2 [Value.slice none 0 0, Value.slice none 0 0, Value.int IntKind.i64 0] 106) b3) | skip)
    | (go_at_call 132; refine (l1sum_any [0, 0, 0] [0, 0] C D (by first | exact k1.ints' rfl | exact (k1.alloc _).ints' rfl) (by first | exact k2.ints' rfl | exact (k2.alloc _).ints' rfl) (hC.below (TimesH.b (a := a) (c := c) (cap := cap) (cap' := cap') (K := K) (by first | exact H3 | exact H3.alloc _))) (hD.below (TimesH.b (a := a) (c := c) (cap := cap) (cap' := cap') (K := K) (by first | exact H3 | exact H3.alloc _))) bnd_lit3 bnd_lit2 (by omega) tC tD tK).mono ?_; rintro e w4 ⟨B1, B2, rfl, b4, g1, g2, g3, k3, k4⟩; have H4 := TimesH.below (w := w) (a := a) (c := c) (cap := cap) (cap' := cap') (K := K) (by first | exact H3 | exact H3.alloc _) b4; have G4 := H4.cells; have l4 := H4.r.lt; first | (have X4 := Cel.below (Cel.new w3 [Value.slice none 0 0, Value.slice none 0 0, Value.int IntKind.i64 0] 106) b4; have X5 := X4.trio; obtain ⟨u0, u1, u2, u3, u4, u5⟩ := X5) | (have X4 := X3.below b4; have X5 := X4.trio; obtain ⟨u0, u1, u2, u3, u4, u5⟩ := X5) | skip))
  all_goals
   rw [Z3] at k3;rw [Z2] at k4
   try rw [qB] at g1 g3
   have l13 := k3.lt;have l14 := k4.lt
  ·go_wp2_with fail
   go_meet
   case rel => exact ⟨_, B1, B2, rfl, H4.alloc _, Cel.new w4 _ _, k3.alloc _, k4.alloc _, by omega, by omega, by omega, g2, by omega, by omega⟩
  ·go_wp2_with fail
   go_meet
   case rel => exact ⟨_, B1, B2, rfl, ((H4.set (by omega) _ _).set (by omega) _ _).set (by omega) _ _, ((X4.set 0 _).set 1 _).set 2 _, ((k3.so).so).so, ((k4.so).so).so, by omega, by omega, by omega, g2, by omega, by omega⟩
  have x3 := X3.lt
  go_wp2_with fail
  go_meet
  case rel => exact ⟨_, B1, B2, rfl, ((H4.set (by omega) _ _).set (by omega) _ _).set (by omega) _ _, ((X4.set 0 _).set 1 _).set 2 _, ((k3.so).so).so, ((k4.so).so).so, by omega, by omega, by omega, g2, by omega, by omega⟩
 case rest =>
  obtain ⟨X, B1, B2, rfl, HX, hX, k1, k2, lX, lB1, lB2, hne, x1, x2⟩ := hcut;clear H1 Z3 Z2 tC tD tK bC bD;obtain ⟨c0, c1, c2, c3, c4, c5⟩ := hX.trio;have hw : IntKind.i64.wrap (-K - 1) = -K - 1 := wrap_id (by omega) (by omega);have HY := HX.set (X := X) (by omega) 2 (.int .i64 (-K - 1));have hY := hX.set 2 (.int .i64 (-K - 1));obtain ⟨d0, d1, d2, d3, d4, d5⟩ := hY.trio;obtain ⟨r0, r1, r2, r3, r4, r5⟩ := HY.room;have k1' := k1.setOther x1 2 (.int .i64 (-K - 1));have k2' := k2.setOther x2 2 (.int .i64 (-K - 1));clear HX hX hY k1 k2
  go_wp2
  refine bodyPost_ret (v := formV (some ⟨B1, 0, none⟩) 3 3 (some ⟨B2, 0, none⟩) 2 2 (-K - 1)) (by simp [results, Tryz.results131, go_sem, r0, r1, r2]) rfl ?_;refine ⟨B1, B2, rfl, ?_, by omega, hne, by omega, ?_, ?_⟩
  ·exact ((HY.b.setCell (by simp only []; omega) _).setCell (by simp only []; omega) _).setCell (by simp only []; omega) _
  ·exact ((k1'.so).so).so
  exact ((k2'.so).so).so
end Go.Proofs.YtfmpcihghlnlnaaGreatDoor
