/-
  Lemmas that the claim's last text rests on.
-/
import Derived.Deep.RegionHeld3
import Derived.RegionTactic
import Derived.BigRegion
import Derived.Test.YtemcinobgdphnaaGreatQLA
namespace Go.Proofs.YtemcinobgdphnaaGreat
open Go.RowKit
open World renaming size_alloc → qA
open List renaming getElem?_eq_getElem → qB, getElem?_cons_zero → qC, getElem?_cons_succ → qD
open Nat renaming le_refl → qE
set_option linter.unusedVariables false
set_option maxRecDepth 100000
set_option maxHeartbeats 25600000
variable {B1 B2 cap cap' lo : Nat} {C D xs ys zs : List Int} {K n : Int} {a c : Option Addr} {w : World}
theorem izero_any (w : World) :
  Calls Tryz.prog 61 #[] w fun e w' => ∃ B1 B2, e = .returned (formV (some ⟨B1, 0, none⟩) 3 3 (some ⟨B2, 0, none⟩) 2 2 0) /\ Below w.heap.size w w' /\ w.heap.size <= B1 /\ B1 ≠ B2 /\ w.heap.size <= B2 /\ Blk w' B1 [0, 0, 0] /\ Blk w' B2 [0, 0] := by
 go_enter Tryz.func61, Tryz.ntmps61
 go_wp2_with fail
 refine (sum_any none 0 0 [] 0 rfl (fun i hi => by simp at hi) (fun i hi => by simp at hi)).mono ?_;rintro e w1 ⟨B1, B2, rfl, b1, h1, h2, h3, k1, k2⟩;have r := (Cel.new w _ _).below b1;have r0 := r.cell 0;have r1 := r.cell 1;have r2 := r.cell 2;have r3 := r.free 0;have r4 := r.free 1;have r5 := r.free 2;simp only [qC, qD] at r0 r1 r2;rw [qA] at h1 h3;have hb : Below w.heap.size w w1 := (bal).trans (b1.mono (by simp))
 go_wp2
 refine bodyPost_ret (v := formV (some ⟨B1, 0, none⟩) 3 3 (some ⟨B2, 0, none⟩) 2 2 0) (by simp [results, Tryz.results61, go_sem, r0, r1, r2, sumK]) rfl ⟨B1, B2, rfl, ?_, by omega, h2, by omega, ?_, ?_⟩
 ·exact ((hb.setCell (qE _) _).setCell (qE _) _).setCell (qE _) _
 ·exact ((k1.so).so).so
 exact ((k2.so).so).so
theorem szero_res (w : World) : Calls Tryz.prog 101 #[] w fun e w' => Res w w' e [0, 0, 0] [0, 0] 0 :=
 (szero_any w).mono fun e w' ⟨B1, B2, he, hb, h1, h2, h3, k1, k2⟩ => Res.of he rfl rfl hb h1 h2 h3 k1 k2
theorem izero_res (w : World) : Calls Tryz.prog 61 #[] w fun e w' => Res w w' e [0, 0, 0] [0, 0] 0 :=
 (izero_any w).mono fun e w' ⟨B1, B2, he, hb, h1, h2, h3, k1, k2⟩ => Res.of he rfl rfl hb h1 h2 h3 k1 k2
def potC (v : Int) : List Int := if 0 <= v /\ v <= 2 then [0, 0, 0].set v.toNat 1 else []
def potD (v : Int) : List Int := if 0 <= v /\ v <= 2 then [0, 0] else []
theorem potC_in (v : Int) (k : Nat) (hv : v = k) (hk : k <= 2 := by omega) : potC v = [0, 0, 0].set k 1 := by subst hv; unfold potC; rw [if_pos (by omega)]; rfl
theorem potD_in (v : Int) (h0 : 0 <= v := by omega) (h2 : v <= 2 := by omega) : potD v = [0, 0] := by unfold potD; rw [if_pos ⟨h0, h2⟩]
theorem potC_out (v : Int) (h : ¬ (0 <= v /\ v <= 2)) : potC v = [] := by unfold potC; rw [if_neg h]
theorem potD_out (v : Int) (h : ¬ (0 <= v /\ v <= 2)) : potD v = [] := by unfold potD; rw [if_neg h]
theorem spot_any (v : Int) (w : World) :
  Calls Tryz.prog 95 #[.int .i64 v] w fun e w' => Res w w' e (potC v) (potD v) 0 := by
 by_cases h : 0 <= v /\ v <= 2
 ·obtain ⟨h0, h2⟩ := h;have hi : inB v 0 2 = true := inB_iff.2 ⟨h0, h2⟩;obtain ⟨k, rfl⟩ := Int.eq_ofNat_of_zero_le h0;have hk : k < 3 := by omega
  have hk' : (k : Int) < 3 := by omega
  rw [potC_in (k : Int) k rfl, potD_in (k : Int)]
  go_enter Tryz.func95, Tryz.ntmps95
  go_wp2_with fail
  refine (in_any).mono ?_;rintro e w0 ⟨rfl, rfl⟩
  go_wp2_with fail
  refine (szero_any _).mono ?_;rintro e w1 ⟨B1, B2, rfl, b1, g1, g2, g3, k1, k2⟩;rw [qA] at g1 g3;have r := (Cel.new w _ _).below b1;have hb : Below w.heap.size w w1 := (bal).trans (b1.mono (by simp));have hrl := r.lt
  have c0 : w1.cell? ⟨B1, k, none⟩ = some (.int .i64 0) := by
   have := k1.cell k (by simpa using hk);rw [this]
   match k, hk with
   | 0, _ => rfl
   | 1, _ => rfl
   | 2, _ => rfl
  have c1 := k1.free k;have hB1 := k1.lt;have hB2 := k2.lt;have k3 := k1.set k 1;have k4 := k2.setOther (B' := B1) (by omega) k (.int .i64 1);have r' := r.setOther (B' := B1) (by omega) k (.int .i64 1);have hb' := hb.setCell (p := ⟨B1, k, none⟩) (by show w.heap.size <= B1; omega) (.int .i64 1);have r0 := r'.cell 0;have r1 := r'.cell 1;have r2 := r'.cell 2;have r3 := r'.free 0;have r4 := r'.free 1;have r5 := r'.free 2;simp only [qC, qD] at r0 r1 r2;clear hi
  go_wp2
  refine bodyPost_ret (v := formV (some ⟨B1, 0, none⟩) 3 3 (some ⟨B2, 0, none⟩) 2 2 0) (by simp [results, Tryz.results95, go_sem, r0, r1, r2, hrl]) rfl (Res.of (B1 := B1) (B2 := B2) rfl (by simp) rfl ?_ (by omega) g2 (by omega) ?_ ?_)
  ·exact (((hb'.setCell (qE _) _).setCell (qE _) _).setCell (qE _) _).alloc (by rw [size_setCell, size_setCell, size_setCell, size_setCell]; omega) _
  ·exact (((k3.so).so).so).alloc _
  exact (((k4.so).so).so).alloc _
 have hi : inB v 0 2 = false := inB_not.2 h;rw [potC_out v h, potD_out v h]
 go_enter Tryz.func95, Tryz.ntmps95
 go_wp2_with fail
 refine (in_any).mono ?_;rintro e w0 ⟨rfl, rfl⟩
 go_wp2
 exact bodyPost_ret (v := formV none 0 0 none 0 0 0) (by simp [results, Tryz.results95, go_sem]) rfl (Res.none rfl (bal))
theorem ipot_any {v : Int} :
  Calls Tryz.prog 109 #[.int .i64 v] w fun e w' => Res w w' e (potC v) (potD v) 0 := by
 by_cases h : 0 <= v /\ v <= 2
 ·obtain ⟨h0, h2⟩ := h;have hi : inB v 0 2 = true := inB_iff.2 ⟨h0, h2⟩;obtain ⟨k, rfl⟩ := Int.eq_ofNat_of_zero_le h0;have hk : k < 3 := by omega
  have hk' : (k : Int) < 3 := by omega
  rw [potC_in (k : Int) k rfl, potD_in (k : Int)]
  go_enter Tryz.func109, Tryz.ntmps109
  go_wp2_with fail
  refine (place_any).mono ?_;rintro e w0 ⟨rfl, rfl⟩;rw [decide_eq_true (show 0 <= (k : Int) /\ (k : Int) < 3 from ⟨h0, hk'⟩)]
  go_wp2_with fail
  refine (izero_any _).mono ?_;rintro e w1 ⟨B1, B2, rfl, b1, g1, g2, g3, k1, k2⟩;rw [qA] at g1 g3;have r := (Cel.new w _ _).below b1;have hb : Below w.heap.size w w1 := (bal).trans (b1.mono (by simp));have hrl := r.lt
  have c0 : w1.cell? ⟨B1, k, none⟩ = some (.int .i64 0) := by
   have := k1.cell k (by simpa using hk);rw [this]
   match k, hk with
   | 0, _ => rfl
   | 1, _ => rfl
   | 2, _ => rfl
  have c1 := k1.free k;have hB1 := k1.lt;have hB2 := k2.lt;have k3 := k1.set k 1;have k4 := k2.setOther (B' := B1) (by omega) k (.int .i64 1);have r' := r.setOther (B' := B1) (by omega) k (.int .i64 1);have hb' := hb.setCell (p := ⟨B1, k, none⟩) (by show w.heap.size <= B1; omega) (.int .i64 1);have r0 := r'.cell 0;have r1 := r'.cell 1;have r2 := r'.cell 2;have r3 := r'.free 0;have r4 := r'.free 1;have r5 := r'.free 2;simp only [qC, qD] at r0 r1 r2;clear hi
  go_wp2
  refine bodyPost_ret (v := formV (some ⟨B1, 0, none⟩) 3 3 (some ⟨B2, 0, none⟩) 2 2 0) (by simp [results, Tryz.results109, go_sem, r0, r1, r2, hrl]) rfl (Res.of (B1 := B1) (B2 := B2) rfl (by simp) rfl ?_ (by omega) g2 (by omega) ?_ ?_)
  ·exact (((hb'.setCell (qE _) _).setCell (qE _) _).setCell (qE _) _).alloc (by rw [size_setCell, size_setCell, size_setCell, size_setCell]; omega) _
  ·exact (((k3.so).so).so).alloc _
  exact (((k4.so).so).so).alloc _
 rw [potC_out v h, potD_out v h]
 go_enter Tryz.func109, Tryz.ntmps109
 go_wp2_with fail
 refine (place_any).mono ?_;rintro e w0 ⟨rfl, rfl⟩;rw [decide_eq_false (show ¬ (0 <= v /\ v < 3) by omega)]
 go_wp2
 exact bodyPost_ret (v := formV none 0 0 none 0 0 0) (by simp [results, Tryz.results109, go_sem]) rfl (Res.none rfl (bal))
section
variable {P : Program} {ops : Array Oper} {Q : Exit -> Act -> World -> Prop} {md : Region.Mode} {S0 S : World -> Prop} {s : Nat}
def wpAnyE (P : Program) (md : Region.Mode) (ops : Array Oper) (Q : Exit -> Act -> World -> Prop) (S0 S : World -> Prop) (s : Nat) : Nat -> Array Bool -> Act -> World -> Prop
 | 0, listed, a, w => Region.ready md ops listed = [] /\ Q .normal a w
 | fuel + 1, listed, a, w =>
  (Region.ready md ops listed = [] -> Q .normal a w) /\
  ∀ i ∈ Region.ready md ops listed, wpOp P ops Q i (fun a' w' => (S0 w' /\ ((listed.setIfInBounds i true).getD s true = false -> S w')) /\ wpAnyE P md ops Q S0 S s fuel (listed.setIfInBounds i true) a' w') a w
theorem wpAny_of_ends : ∀ (fuel : Nat) (listed : Array Bool) (a : Act) (w : World), wpAnyE P md ops Q S0 S s fuel listed a w -> wpAny P md ops Q fuel listed a w
 | 0, _, _, _, h => h
 | fuel + 1, _, _, _, h => ⟨h.1, fun i hi => wpOp_mono (fun a' w' h' => wpAny_of_ends fuel _ a' w' h'.2) (h.2 i hi)⟩
theorem not_waits {i j : Nat} {listed : Array Bool} {oj : Oper} (hr : i ∈ Region.ready md ops listed) (hall : ∀ e ∈ oj.after, Region.binds md e = true -> listed.getD e.on false = true) : ∀ e ∈ oj.after, Region.binds md e = true -> e.on ≠ i := fun e he hb heq => by
 have h1 := hall e he hb;have h0 := (mem_ready.1 hr).1;rw [heq] at h1
 rcases Nat.lt_or_ge i listed.size with h' | h'
 ·simp [h'] at h0 h1; rw [h0] at h1; cases h1
 simp [Array.getElem?_eq_none h'] at h1
theorem wpAnyE_first0 {i : Nat} {oi : Oper} {v : Value} (hi : ops[i]? = some oi) (hsel : ∀ (j : Nat) (o : Oper) cs b, ops[j]? = some o -> o.op ≠ .select cs b)
  (hQ : ∀ c a w, Q (.panic c) (a.put oi.dst v) w -> Q (.panic c) a w) (his : i ≠ s) :
  ∀ (fuel : Nat) (listed : Array Bool) (a : Act) (w : World),
   (∀ j oj, ops[j]? = some oj -> j ≠ i -> listed.getD j true = false -> (∀ e ∈ oj.after, Region.binds md e = true -> e.on ≠ i) -> oi.apart ops oj = true) ->
   i ∈ Region.ready md ops listed -> YieldsIf P ops S0 oi v a -> (S0 w /\ (listed.getD s true = false -> S w)) ->
   wpAnyE P md ops Q S0 S s fuel (listed.setIfInBounds i true) (a.put oi.dst v) w -> wpAnyE P md ops Q S0 S s (fuel + 1) listed a w := by
 intro fuel
 induction fuel with
 | zero =>
  intro listed a w _ hr hy hS H;refine ⟨fun h => (by rw [h] at hr; cases hr), fun j hj => ?_⟩
  by_cases hji : j = i
  ·subst hji; exact hy.wpOp hi hS.1 ⟨⟨hS.1, fun h => hS.2 (by rw [getD_set_ne true his] at h; exact h)⟩, H⟩
  have := ready_mono hj hji;rw [H.1] at this
  cases this
 | succ fuel ih =>
  intro listed a w hfree hr hy hS H;refine ⟨fun h => (by rw [h] at hr; cases hr), fun j hj => ?_⟩
  by_cases hji : j = i
  ·subst hji; exact hy.wpOp hi hS.1 ⟨⟨hS.1, fun h => hS.2 (by rw [getD_set_ne true his] at h; exact h)⟩, H⟩
  have h1 := H.2 j (ready_mono hj hji);obtain ⟨hjun, oj, hoj, hall⟩ := mem_ready.1 hj;have h2 := wpOp_putIf hoj (hfree j oj hoj hji hjun (not_waits (i := i) (j := j) hr hall)) (fun cs b => hsel i oi cs b hi) (fun cs b => hsel j oj cs b hoj) hQ hy h1
  have hfree' : ∀ k ok, ops[k]? = some ok -> k ≠ i -> (listed.setIfInBounds j true).getD k true = false ->
    (∀ e ∈ ok.after, Region.binds md e = true -> e.on ≠ i) -> oi.apart ops ok = true := fun k ok hk hki hun hno => by
   refine hfree k ok hk hki ?_ hno
   by_cases hjk : j = k
   ·subst hjk; exact hjun
   rw [getD_set_ne true hjk] at hun; exact hun
  refine wpOp_mono (fun a' w' h3 => ?_) h2;have hS' : S0 w' /\ ((listed.setIfInBounds j true).getD s true = false -> S w') := ⟨h3.2.1.1, fun h => h3.2.1.2 (by rw [Array.setIfInBounds_comm _ _ (Ne.symm hji), getD_set_ne true his]; exact h)⟩
  refine ⟨hS', ih (listed.setIfInBounds j true) a' w' hfree' (ready_mono hr (Ne.symm hji)) h3.1 hS' ?_⟩;rw [Array.setIfInBounds_comm _ _ hji]
  exact h3.2.2
theorem wpAnyE_first1 {i : Nat} {oi os : Oper} {v : Value} (hi : ops[i]? = some oi) (hsel : ∀ (j : Nat) (o : Oper) cs b, ops[j]? = some o -> o.op ≠ .select cs b)
  (hQ : ∀ c a w, Q (.panic c) (a.put oi.dst v) w -> Q (.panic c) a w) (his : i ≠ s) (hos : ops[s]? = some os) (hw : ∃ e ∈ os.after, Region.binds md e = true /\ e.on = i) :
  ∀ (fuel : Nat) (listed : Array Bool) (a : Act) (w : World),
   (∀ j oj, ops[j]? = some oj -> j ≠ i -> listed.getD j true = false -> (∀ e ∈ oj.after, Region.binds md e = true -> e.on ≠ i) -> oi.apart ops oj = true) ->
   i ∈ Region.ready md ops listed -> listed.getD s true = false -> YieldsIf P ops S oi v a -> (S0 w /\ (listed.getD s true = false -> S w)) ->
   wpAnyE P md ops Q S0 S s fuel (listed.setIfInBounds i true) (a.put oi.dst v) w -> wpAnyE P md ops Q S0 S s (fuel + 1) listed a w := by
 intro fuel
 induction fuel with
 | zero =>
  intro listed a w _ hr hls hy hS H;refine ⟨fun h => (by rw [h] at hr; cases hr), fun j hj => ?_⟩
  by_cases hji : j = i
  ·subst hji; exact hy.wpOp hi (hS.2 hls) ⟨⟨hS.1, fun h => hS.2 (by rw [getD_set_ne true his] at h; exact h)⟩, H⟩
  have := ready_mono hj hji;rw [H.1] at this
  cases this
 | succ fuel ih =>
  intro listed a w hfree hr hls hy hS H;refine ⟨fun h => (by rw [h] at hr; cases hr), fun j hj => ?_⟩
  by_cases hji : j = i
  ·subst hji; exact hy.wpOp hi (hS.2 hls) ⟨⟨hS.1, fun h => hS.2 (by rw [getD_set_ne true his] at h; exact h)⟩, H⟩
  have h1 := H.2 j (ready_mono hj hji);obtain ⟨hjun, oj, hoj, hall⟩ := mem_ready.1 hj;have hnot := not_waits (i := i) (j := j) hr hall
  have hjs : j ≠ s := fun e => by
   subst e;rw [hos] at hoj;obtain ⟨x, hx, hb, ho⟩ := hw;rw [Option.some.injEq] at hoj;subst hoj
   exact hnot x hx hb ho
  have h2 := wpOp_putIf hoj (hfree j oj hoj hji hjun hnot) (fun cs b => hsel i oi cs b hi) (fun cs b => hsel j oj cs b hoj) hQ hy h1
  have hfree' : ∀ k ok, ops[k]? = some ok -> k ≠ i -> (listed.setIfInBounds j true).getD k true = false ->
    (∀ e ∈ ok.after, Region.binds md e = true -> e.on ≠ i) -> oi.apart ops ok = true := fun k ok hk hki hun hno => by
   refine hfree k ok hk hki ?_ hno
   by_cases hjk : j = k
   ·subst hjk; exact hjun
   rw [getD_set_ne true hjk] at hun; exact hun
  have hls' : (listed.setIfInBounds j true).getD s true = false := by rw [getD_set_ne true hjs]; exact hls
  refine wpOp_mono (fun a' w' h3 => ?_) h2;have hS' : S0 w' /\ ((listed.setIfInBounds j true).getD s true = false -> S w') := ⟨h3.2.1.1, fun h => h3.2.1.2 (by rw [Array.setIfInBounds_comm _ _ (Ne.symm hji), getD_set_ne true his]; exact h)⟩
  refine ⟨hS', ih (listed.setIfInBounds j true) a' w' hfree' (ready_mono hr (Ne.symm hji)) hls' h3.1 hS' ?_⟩;rw [Array.setIfInBounds_comm _ _ hji]
  exact h3.2.2
theorem wpAnyE_take0 {i : Nat} {oi : Oper} {v : Value} {fuel : Nat} {listed : Array Bool} {a : Act} {w : World} (hi : ops[i]? = some oi)
  (hs : Region.noSelect ops = true) (hf : Region.free md ops listed i = true) (hr : (Region.ready md ops listed).contains i = true) (his : i ≠ s)
  (hQ : ∀ c a w, Q (.panic c) (a.put oi.dst v) w -> Q (.panic c) a w) (hy : YieldsIf P ops S0 oi v a) (hS : S0 w /\ S w)
  (h : wpAnyE P md ops Q S0 S s fuel (listed.setIfInBounds i true) (a.put oi.dst v) w) : wpAnyE P md ops Q S0 S s (fuel + 1) listed a w :=
 wpAnyE_first0 hi (Region.noSelect_spec hs) hQ his fuel listed a w (Region.free_spec hi hf) (by simpa using hr) hy ⟨hS.1, fun _ => hS.2⟩ h
theorem wpAnyE_take1 {i : Nat} {oi os : Oper} {v : Value} {fuel : Nat} {listed : Array Bool} {a : Act} {w : World} (hi : ops[i]? = some oi) (hos : ops[s]? = some os)
  (hs : Region.noSelect ops = true) (hf : Region.free md ops listed i = true) (hr : (Region.ready md ops listed).contains i = true) (his : i ≠ s) (hls : listed.getD s true = false)
  (hw : ∃ e ∈ os.after, Region.binds md e = true /\ e.on = i)
  (hQ : ∀ c a w, Q (.panic c) (a.put oi.dst v) w -> Q (.panic c) a w) (hy : YieldsIf P ops S oi v a) (hS : S0 w /\ S w)
  (h : wpAnyE P md ops Q S0 S s fuel (listed.setIfInBounds i true) (a.put oi.dst v) w) : wpAnyE P md ops Q S0 S s (fuel + 1) listed a w :=
 wpAnyE_first1 hi (Region.noSelect_spec hs) hQ his hos hw fuel listed a w (Region.free_spec hi hf) (by simpa using hr) hls hy ⟨hS.1, fun _ => hS.2⟩ h
theorem kk0 {S0 : World -> Prop} {c : Prop} {R K : Act -> World -> Prop} (hK : Shut (∀ a w, (S0 w /\ (c -> True)) -> R a w -> K a w)) {a : Act} {w : World} (h : S0 w) (hr : R a w) : K a w := hK.out a w ⟨h, fun _ => trivial⟩ hr
theorem tkE {i : Nat} {oi : Oper} {v : Value} {fuel : Nat} {listed : Array Bool} {a : Act} {w : World} (hi : ops[i]? = some oi) (hy : YieldsIf P ops S0 oi v a) (hS : S0 w /\ S w)
  (h : wpAnyE P md ops Q S0 S s fuel (listed.setIfInBounds i true) (a.put oi.dst v) w)
  (hs : Region.noSelect ops = true := by kernel_rfl) (hf : Region.free md ops listed i = true := by kernel_rfl) (hr : (Region.ready md ops listed).contains i = true := by kernel_rfl) (his : i ≠ s := by decide)
  (hQ : ∀ c a w, Q (.panic c) (a.put oi.dst v) w -> Q (.panic c) a w := by exact fun _ _ _ h => h) : wpAnyE P md ops Q S0 S s (fuel + 1) listed a w :=
 wpAnyE_take0 hi hs hf hr his hQ hy hS h
theorem tkl (i : Nat) {oi : Oper} {v : Value} {fuel : Nat} {listed : Array Bool} {a : Act} {w : World} (hi : ops[i]? = some oi) (hS : S0 w /\ S w)
  (h : wpAnyE P md ops Q S0 S s fuel (listed.setIfInBounds i true) (a.put oi.dst v) w)
  (hw : Region.wanted oi (yielded ops a.tmps) = true := by rfl)
  (hy : ∀ w, S0 w -> (execOp a.eval oi).run P w = .ok (.value v) w := by (intro wz hSw; (try dsimp only at hSw); go_simp; try (with_reducible rfl)))
  (hs : Region.noSelect ops = true := by kernel_rfl) (hf : Region.free md ops listed i = true := by kernel_rfl) (hr : (Region.ready md ops listed).contains i = true := by kernel_rfl) (his : i ≠ s := by decide)
  (hQ : ∀ c a w, Q (.panic c) (a.put oi.dst v) w -> Q (.panic c) a w := by exact fun _ _ _ h => h) : wpAnyE P md ops Q S0 S s (fuel + 1) listed a w :=
 wpAnyE_take0 hi hs hf hr his hQ (Or.inl ⟨hw, hy⟩) hS h
theorem tku (i : Nat) {oi : Oper} {fuel : Nat} {listed : Array Bool} {a : Act} {w : World} (hi : ops[i]? = some oi) (hS : S0 w /\ S w)
  (h : wpAnyE P md ops Q S0 S s fuel (listed.setIfInBounds i true) (a.put oi.dst undef) w)
  (hw : Region.wanted oi (yielded ops a.tmps) = false := by kernel_rfl)
  (hs : Region.noSelect ops = true := by kernel_rfl) (hf : Region.free md ops listed i = true := by kernel_rfl) (hr : (Region.ready md ops listed).contains i = true := by kernel_rfl) (his : i ≠ s := by decide)
  (hQ : ∀ c a w, Q (.panic c) (a.put oi.dst undef) w -> Q (.panic c) a w := by exact fun _ _ _ h => h) : wpAnyE P md ops Q S0 S s (fuel + 1) listed a w :=
 wpAnyE_take0 hi hs hf hr his hQ (Or.inr ⟨hw, rfl⟩) hS h
theorem tkM {i : Nat} {oi os : Oper} {v : Value} {fuel : Nat} {listed : Array Bool} {a : Act} {w : World} (hi : ops[i]? = some oi) (hos : ops[s]? = some os) (hS : S0 w /\ S w)
  (h : wpAnyE P md ops Q S0 S s fuel (listed.setIfInBounds i true) (a.put oi.dst v) w)
  (hw : Region.wanted oi (yielded ops a.tmps) = true := by rfl)
  (hy : ∀ w, S w -> (execOp a.eval oi).run P w = .ok (.value v) w := by (intro wz hSw; (try dsimp only at hSw); go_simp; try (with_reducible rfl)))
  (hs : Region.noSelect ops = true := by kernel_rfl) (hf : Region.free md ops listed i = true := by kernel_rfl) (hr : (Region.ready md ops listed).contains i = true := by kernel_rfl) (his : i ≠ s := by decide)
  (hls : listed.getD s true = false := by rfl) (hb : ∃ e ∈ os.after, Region.binds md e = true /\ e.on = i := by simp [Region.binds])
  (hQ : ∀ c a w, Q (.panic c) (a.put oi.dst v) w -> Q (.panic c) a w := by exact fun _ _ _ h => h) : wpAnyE P md ops Q S0 S s (fuel + 1) listed a w :=
 wpAnyE_take1 hi hos hs hf hr his hls hb hQ (Or.inl ⟨hw, hy⟩) hS h
theorem wpAnyE_one {i : Nat} {o : Oper} {fuel : Nat} {listed : Array Bool} {a : Act} {w : World} (hr : Region.ready md ops listed = [i]) (ho : ops[i]? = some o)
  (h : ∀ K' : Act -> World -> Prop, Shut (∀ a w, (S0 w /\ ((listed.setIfInBounds i true).getD s true = false -> S w)) -> wpAnyE P md ops Q S0 S s fuel (listed.setIfInBounds i true) a w -> K' a w) -> if Region.wanted o (yielded ops a.tmps) = true then Oper.wp P o a w K' Q else K' (a.put o.dst undef) w) : wpAnyE P md ops Q S0 S s (fuel + 1) listed a w := by
 refine ⟨fun h0 => (by rw [hr] at h0; cases h0), fun j hj => ?_⟩;rw [hr] at hj
 rcases List.mem_cons.1 hj with rfl | hj
 ·exact wpOp_step ho (fun K' hK => h K' (fun a w hS hW => hK a w ⟨hS, hW⟩))
 cases hj
theorem wo1 (i : Nat) {o : Oper} {fuel : Nat} {listed : Array Bool} {a : Act} {w : World} (ho : ops[i]? = some o)
  (h : ∀ K' : Act -> World -> Prop, Shut (∀ a w, (S0 w /\ ((listed.setIfInBounds i true).getD s true = false -> S w)) -> wpAnyE P md ops Q S0 S s fuel (listed.setIfInBounds i true) a w -> K' a w) -> if Region.wanted o (yielded ops a.tmps) = true then Oper.wp P o a w K' Q else K' (a.put o.dst undef) w) (hr : Region.ready md ops listed = [i] := by kernel_rfl) : wpAnyE P md ops Q S0 S s (fuel + 1) listed a w := by
 refine ⟨fun h0 => (by rw [hr] at h0; cases h0), fun j hj => ?_⟩;rw [hr] at hj
 rcases List.mem_cons.1 hj with rfl | hj
 ·exact wpOp_step ho (fun K' hK => h K' (fun a w hS hW => hK a w ⟨hS, hW⟩))
 cases hj
theorem wpAnyE_two {i j : Nat} {oi oj : Oper} {fuel : Nat} {listed : Array Bool} {a : Act} {w : World} (hr : Region.ready md ops listed = [i, j]) (hi : ops[i]? = some oi) (hj : ops[j]? = some oj)
  (h1 : ∀ K' : Act -> World -> Prop, Shut (∀ a w, (S0 w /\ ((listed.setIfInBounds i true).getD s true = false -> S w)) -> wpAnyE P md ops Q S0 S s fuel (listed.setIfInBounds i true) a w -> K' a w) -> if Region.wanted oi (yielded ops a.tmps) = true then Oper.wp P oi a w K' Q else K' (a.put oi.dst undef) w)
  (h2 : ∀ K' : Act -> World -> Prop, Shut (∀ a w, (S0 w /\ ((listed.setIfInBounds j true).getD s true = false -> S w)) -> wpAnyE P md ops Q S0 S s fuel (listed.setIfInBounds j true) a w -> K' a w) -> if Region.wanted oj (yielded ops a.tmps) = true then Oper.wp P oj a w K' Q else K' (a.put oj.dst undef) w) : wpAnyE P md ops Q S0 S s (fuel + 1) listed a w := by
 refine ⟨fun h0 => (by rw [hr] at h0; cases h0), fun z hz => ?_⟩;rw [hr] at hz
 rcases List.mem_cons.1 hz with rfl | hz
 ·exact wpOp_step hi (fun K' hK => h1 K' (fun a w hS hW => hK a w ⟨hS, hW⟩))
 rcases List.mem_cons.1 hz with rfl | hz
 ·exact wpOp_step hj (fun K' hK => h2 K' (fun a w hS hW => hK a w ⟨hS, hW⟩))
 cases hz
theorem wo2 (i j : Nat) {oi oj : Oper} {fuel : Nat} {listed : Array Bool} {a : Act} {w : World} (hi : ops[i]? = some oi) (hj : ops[j]? = some oj)
  (h1 : ∀ K' : Act -> World -> Prop, Shut (∀ a w, (S0 w /\ ((listed.setIfInBounds i true).getD s true = false -> S w)) -> wpAnyE P md ops Q S0 S s fuel (listed.setIfInBounds i true) a w -> K' a w) -> if Region.wanted oi (yielded ops a.tmps) = true then Oper.wp P oi a w K' Q else K' (a.put oi.dst undef) w)
  (h2 : ∀ K' : Act -> World -> Prop, Shut (∀ a w, (S0 w /\ ((listed.setIfInBounds j true).getD s true = false -> S w)) -> wpAnyE P md ops Q S0 S s fuel (listed.setIfInBounds j true) a w -> K' a w) -> if Region.wanted oj (yielded ops a.tmps) = true then Oper.wp P oj a w K' Q else K' (a.put oj.dst undef) w) (hr : Region.ready md ops listed = [i, j] := by kernel_rfl) : wpAnyE P md ops Q S0 S s (fuel + 1) listed a w := by
 refine ⟨fun h0 => (by rw [hr] at h0; cases h0), fun z hz => ?_⟩;rw [hr] at hz
 rcases List.mem_cons.1 hz with rfl | hz
 ·exact wpOp_step hi (fun K' hK => h1 K' (fun a w hS hW => hK a w ⟨hS, hW⟩))
 rcases List.mem_cons.1 hz with rfl | hz
 ·exact wpOp_step hj (fun K' hK => h2 K' (fun a w hS hW => hK a w ⟨hS, hW⟩))
 cases hz
theorem wpAnyE_done {listed : Array Bool} {a : Act} {w : World} (hr : Region.ready md ops listed = []) (h : Q .normal a w) : ∀ fuel, wpAnyE P md ops Q S0 S s fuel listed a w
 | 0 => ⟨hr, h⟩
 | _ + 1 => ⟨fun _ => h, by rw [hr]; simp⟩
theorem wp_region_ends {id : Nat} {a : Act} {w : World} (S0 S : World -> Prop) (s : Nat) (hm : P.follows .mixedOrders = true)
  (h : wpAnyE P .any ops Q S0 S s ops.size (Array.replicate ops.size false) a w.drew) : (Code.region id ops true).wp P Q a w :=
 wp_region_any hm (wpAny_of_ends _ _ _ _ h)
theorem wod {listed : Array Bool} {a : Act} {w : World} (h : Q .normal a w) (fuel : Nat) (hr : Region.ready md ops listed = [] := by kernel_rfl) : wpAnyE P md ops Q S0 S s fuel listed a w := wpAnyE_done hr h fuel
end
structure F32 (w : World) (lo B1 B2 : Nat) (C D : List Int) : Prop where
 k1 : Blk w B1 C
 k2 : Blk w B2 D
 l1 : C.length = 3
 l2 : D.length = 2
 b1 : lo <= B1
 b2 : lo <= B2
 ne : B1 ≠ B2
theorem F32.below {w' : World} (h : F32 w lo B1 B2 C D) (b : Below w.heap.size w w') : F32 w' lo B1 B2 C D := ⟨h.k1.below b, h.k2.below b, h.l1, h.l2, h.b1, h.b2, h.ne⟩
theorem F32.setOther {X : Nat} (h : F32 w lo B1 B2 C D) (h1 : B1 ≠ X) (h2 : B2 ≠ X) (i : Nat) (v : Value) : F32 (w.setCell ⟨X, i, none⟩ v) lo B1 B2 C D := ⟨h.k1.setOther h1 _ _, h.k2.setOther h2 _ _, h.l1, h.l2, h.b1, h.b2, h.ne⟩
theorem F32.setD (h : F32 w lo B1 B2 C D) (i : Nat) (x : Int) : F32 (w.setCell ⟨B2, i, none⟩ (.int .i64 x)) lo B1 B2 C (D.set i x) := ⟨h.k1.setOther h.ne _ _, h.k2.set i x, h.l1, by rw [List.length_set]; exact h.l2, h.b1, h.b2, h.ne⟩
theorem F32.setC (h : F32 w lo B1 B2 C D) (i : Nat) (x : Int) : F32 (w.setCell ⟨B1, i, none⟩ (.int .i64 x)) lo B1 B2 (C.set i x) D := ⟨h.k1.set i x, h.k2.setOther (fun e => h.ne e.symm) _ _, by rw [List.length_set]; exact h.l1, h.l2, h.b1, h.b2, h.ne⟩
theorem F32.mono {lo' : Nat} (h : F32 w lo B1 B2 C D) (hl : lo' <= lo) : F32 w lo' B1 B2 C D := ⟨h.k1, h.k2, h.l1, h.l2, Nat.le_trans hl h.b1, Nat.le_trans hl h.b2, h.ne⟩
theorem szero_f : Calls Tryz.prog 101 #[] w fun e w' => ∃ B1 B2, e = .returned (formV (some ⟨B1, 0, none⟩) 3 3 (some ⟨B2, 0, none⟩) 2 2 0) /\ Below w.heap.size w w' /\ F32 w' w.heap.size B1 B2 [0, 0, 0] [0, 0] :=
 (szero_any w).mono fun e w' ⟨B1, B2, he, hb, h1, h2, h3, k1, k2⟩ => ⟨B1, B2, he, hb, k1, k2, rfl, rfl, h1, h3, h2⟩
theorem num_f (a b k : Int) {w : World} : Calls Tryz.prog 143 #[.int .i64 a, .int .i64 b, .int .i64 k] w fun e w' => ∃ B1 B2, e = .returned (formV (some ⟨B1, 0, none⟩) 3 3 (some ⟨B2, 0, none⟩) 2 2 k) /\ Below w.heap.size w w' /\ F32 w' w.heap.size B1 B2 [0, 0, 0] [a, b] := by
 have bx := Cel.new w [.slice none 0 0, .slice none 0 0, .int .i64 0] 86;have B0 := (Below.refl w.heap.size w).alloc (qE _) (.cells #[.slice none 0 0, .slice none 0 0, .int .i64 0] 86)
 go_enter Tryz.func143, Tryz.ntmps143
 go_wp2_with fail
 refine (szero_f).mono ?_;rintro e w1 ⟨B1, B2, rfl, b1, f1⟩;have al := (Below.refl w1.heap.size w1).alloc (qE _) (.cells #[.slice (some ⟨B1, 0, none⟩) 3 3, .slice (some ⟨B2, 0, none⟩) 2 2, .int .i64 0] 86);have b2 := btr b1 al;have bx2 := bx.below b2;have BW := btr B0 b2;have f2 := f1.below al;have cb := Cel.new w1 [.slice (some ⟨B1, 0, none⟩) 3 3, .slice (some ⟨B2, 0, none⟩) 2 2, .int .i64 0] 86;have z1 := f1.b1;have z2 := f1.b2;rw [qA] at z1 z2;have lt1 := f1.k1.lt;have lt2 := f1.k2.lt;obtain ⟨W1, hW1⟩ : ∃ W, W = w1.alloc (.cells #[.slice (some ⟨B1, 0, none⟩) 3 3, .slice (some ⟨B2, 0, none⟩) 2 2, .int .i64 0] 86) := ⟨_, rfl⟩
 have hbw := bx.lt;have hlw : w.heap.size < w1.heap.size := (bx.below b1).lt
 go_upto_region 2 with fail
 rw [<- hW1] at bx2 BW f2 cb ⊢;clear hW1 bx B0 b1 al b2 f1;have c0 := cb.cell 0;have c1 := cb.cell 1;have c2 := cb.cell 2;simp only [qC, qD] at c0 c1 c2;have d0 := f2.k2.cell 0 (by decide);have d1 := f2.k2.cell 1 (by decide);have e0 := f2.k2.free 0;have e1 := f2.k2.free 1;have q2 := cb.free 2;have r0 := bx2.cell 0;have r1 := bx2.cell 1;have r2 := bx2.cell 2;have g0 := bx2.free 0;have g1 := bx2.free 1;have g2 := bx2.free 2;simp only [qC, qD] at r0 r1 r2;have lt3 := bx2.lt;have lt4 := cb.lt;have lt5 := f2.k2.lt;have n1 : ¬ B2 = w1.heap.size := by omega
 have n2 : ¬ B2 = w.heap.size := by omega
 have n3 : ¬ w1.heap.size = w.heap.size := by omega
 have n4 : ¬ w1.heap.size = B2 := by omega
 have n5 : ¬ w.heap.size = B2 := by omega
 have n6 : ¬ w.heap.size = w1.heap.size := by omega
 go_wp2
 refine bodyPost_ret (v := formV (some ⟨B1, 0, none⟩) 3 3 (some ⟨B2, 0, none⟩) 2 2 k) (by simp [results, Tryz.results143, go_sem, r0, r1, r2]) rfl ⟨B1, B2, rfl, ?_, ?_⟩
 ·exact (((((BW.setCell (p := ⟨B2, 0, none⟩) (by show w.heap.size <= B2; omega) _).setCell (p := ⟨B2, 1, none⟩) (by show w.heap.size <= B2; omega) _).setCell (p := ⟨w1.heap.size, 2, none⟩) (by show w.heap.size <= w1.heap.size; omega) _).setCell (qE _) _).setCell (qE _) _).setCell (qE _) _
 have m1 : B1 ≠ w1.heap.size := by omega
 have m2 : B1 ≠ w.heap.size := by omega
 exact ((((((f2.setD 0 a).setD 1 b).setOther m1 n1 2 _).setOther m2 n2 0 _).setOther m2 n2 1 _).setOther m2 n2 2 _).mono (by rw [qA]; omega)
theorem Touch.setNewF {S : Nat -> Prop} {W : World} (h : Touch S w W) {B : Nat} (hB : w.heap.size <= B) (i : Nat) (v : Value) : Touch S w (W.setCell ⟨B, i, none⟩ v) :=
 ⟨h.os, h.tape, h.output, by rw [size_setCell]; exact h.size, fun k hk hs => by rw [Below.heap_setCell _ _ _ _ (by simp only []; omega)]; exact h.block k hk hs⟩
theorem with_f (B1 B2 v : Nat) (x K : Int) {lo : Nat} {C D : List Int} {w : World} (hf : F32 w lo B1 B2 C D) (hv : v < 3 := by omega) :
  Calls Tryz.prog 142 #[formV (some ⟨B1, 0, none⟩) 3 3 (some ⟨B2, 0, none⟩) 2 2 K, .int .i64 v, .int .i64 x] w fun e w' => e = .returned (formV (some ⟨B1, 0, none⟩) 3 3 (some ⟨B2, 0, none⟩) 2 2 K) /\ Touch (fun z => z = B1) w w' /\ F32 w' lo B1 B2 (C.set v x) D := by
 have lt1 := hf.k1.lt;have lt2 := hf.k2.lt;have al := ((Below.refl w.heap.size w).alloc (qE _) (.cells #[.slice (some ⟨B1, 0, none⟩) 3 3, .slice (some ⟨B2, 0, none⟩) 2 2, .int .i64 K] 86)).alloc (by simp) (.cells #[.slice none 0 0, .slice none 0 0, .int .i64 0] 86);have pb := (Cel.new w [.slice (some ⟨B1, 0, none⟩) 3 3, .slice (some ⟨B2, 0, none⟩) 2 2, .int .i64 K] 86).alloc (.cells #[.slice none 0 0, .slice none 0 0, .int .i64 0] 86);have rb := Cel.new (w.alloc (.cells #[.slice (some ⟨B1, 0, none⟩) 3 3, .slice (some ⟨B2, 0, none⟩) 2 2, .int .i64 K] 86)) [.slice none 0 0, .slice none 0 0, .int .i64 0] 86;rw [qA] at rb;have f2 := hf.below al;obtain ⟨W1, hW1⟩ : ∃ W, W = (w.alloc (.cells #[.slice (some ⟨B1, 0, none⟩) 3 3, .slice (some ⟨B2, 0, none⟩) 2 2, .int .i64 K] 86)).alloc (.cells #[.slice none 0 0, .slice none 0 0, .int .i64 0] 86) := ⟨_, rfl⟩
 have hv3 : (v : Int) < 3 := by omega
 go_enter Tryz.func142, Tryz.ntmps142
 go_upto_region 1 with fail
 rw [<- hW1] at al pb rb f2 ⊢;clear hW1 hf;have c0 := pb.cell 0;have c1 := pb.cell 1;have c2 := pb.cell 2;have r0 := rb.cell 0;have r1 := rb.cell 1;have r2 := rb.cell 2;have g0 := rb.free 0;have g1 := rb.free 1;have g2 := rb.free 2;simp only [qC, qD] at c0 c1 c2 r0 r1 r2;have d0 := f2.k1.cell v (by rw [f2.l1]; exact hv);have e0 := f2.k1.free v;have lt3 := pb.lt;have lt4 := rb.lt;have lt5 := f2.k1.lt;have n1 : ¬ B1 = w.heap.size := by omega
 have n2 : ¬ B1 = w.heap.size + 1 := by omega
 have n3 : ¬ w.heap.size = B1 := by omega
 have n4 : ¬ w.heap.size + 1 = B1 := by omega
 go_wp2
 refine bodyPost_ret (v := formV (some ⟨B1, 0, none⟩) 3 3 (some ⟨B2, 0, none⟩) 2 2 K) (by simp [results, Tryz.results142, go_sem, r0, r1, r2]) rfl ⟨rfl, ?_, ?_⟩
 ·have t1 : Touch (fun z => z = B1) w (W1.setCell ⟨B1, v, none⟩ (.int .i64 x)) := Touch.setCell (S := fun z => z = B1) (Touch.of al) rfl _
  exact ((t1.setNewF (B := w.heap.size + 1) (by omega) 0 _).setNewF (B := w.heap.size + 1) (by omega) 1 _).setNewF (B := w.heap.size + 1) (by omega) 2 _
 have m1 : B1 ≠ w.heap.size + 1 := n2;have m2 : B2 ≠ w.heap.size + 1 := by omega
 exact (((f2.setC v x).setOther m1 m2 0 _).setOther m1 m2 1 _).setOther m1 m2 2 _
def dot (xs ys : List Int) : Nat -> Int
 | 0 => 0
 | k + 1 => dot xs ys k + xs[k]?.getD 0 * ys[k]?.getD 0
def bndP (P : Int) (xs ys : List Int) : Prop := ∀ i : Nat, -P <= xs[i]?.getD 0 * ys[i]?.getD 0 /\ xs[i]?.getD 0 * ys[i]?.getD 0 <= P
theorem dot_bnd {P : Int} (h : bndP P xs ys) : ∀ k : Nat, -(k * P) <= dot xs ys k /\ dot xs ys k <= k * P
 | 0 => by simp [dot]
 | k + 1 => by
  have ih := dot_bnd h k;have hk := h k;have e : ((k + 1 : Nat) : Int) * P = k * P + P := by rw [Int.natCast_add, Int.add_mul]; simp
  rw [e];simp only [dot]
  omega
theorem bndP_of {M M' : Int} (hx : bnd M xs) (hy : bnd M' ys) (h0 : 0 <= M) (h1 : 0 <= M') : bndP (M * M') xs ys := by
 intro i;obtain ⟨a1, a2⟩ := hx i;obtain ⟨b1, b2⟩ := hy i;generalize xs[i]?.getD 0 = x at *;generalize ys[i]?.getD 0 = y at *;have hx' : x.natAbs <= M.toNat := by omega
 have hy' : y.natAbs <= M'.toNat := by omega
 have hm : (x * y).natAbs <= M.toNat * M'.toNat := by rw [Int.natAbs_mul]; exact Nat.mul_le_mul hx' hy'
 have e : ((M.toNat * M'.toNat : Nat) : Int) = M * M' := by rw [Int.natCast_mul, Int.toNat_of_nonneg h0, Int.toNat_of_nonneg h1]
 omega
theorem allB_bnd {m : Int} (hm : 0 <= m) (h : allB m zs = true) : bnd m zs := by
 intro i
 by_cases hi : i < zs.length
 ·unfold allB at h;rw [List.all_eq_true] at h;have := inB_iff.1 (h zs[i] (List.getElem_mem hi));rw [qB hi];simpa using this
 rw [List.getElem?_eq_none (by omega)];simp; omega
theorem okN_elim {c m : Int} {n : Nat} (hm : 0 <= m) (h : okN c m n zs = true) : (n : Int) = c /\ bnd m zs := by
 simp only [okN, Bool.and_eq_true, decide_eq_true_eq] at h
 exact ⟨h.1, allB_bnd hm h.2⟩
theorem formB_elim {n m : Nat} (h : formB n m C D K = true) : n = 3 /\ m = 2 /\ bnd 10000000 C /\ bnd 10000000 D /\ -10000000 <= K /\ K <= 10000000 := by
 simp only [formB, Bool.and_eq_true] at h;obtain ⟨⟨h1, h2⟩, h3⟩ := h;have a := okN_elim (by omega) h1;have b := okN_elim (by omega) h2;have c := inB_iff.1 h3
 exact ⟨by omega, by omega, a.2, b.2, c.1, c.2⟩
theorem psum_any {n : Nat} (xs ys : List Int) {P : Int} {w : World} (h : Ints w a n xs) (h' : Ints w c n ys) (hn : n <= 1000) (hP : bndP P xs ys) (h0 : 0 <= P := by omega) (hb : P <= 1000000000000 := by omega) :
  Calls Tryz.prog 86 #[.slice a n cap, .slice c n cap'] w fun e w' => e = .returned (.int .i64 (dot xs ys n)) /\ w' = w := by
 go_enter Tryz.func86, Tryz.ntmps86
 go_wp2_with fail
 go_loop [5, 6, 7, 10] (fun s _ _ i => ∃ k : Nat, k <= n /\ i = .int .i64 k /\ s = .int .i64 (dot xs ys k)) (fun _ _ _ i => n - (intOf i).toNat)
 case atStart => exact ⟨0, Nat.zero_le _, rfl, rfl⟩
 case round =>
  obtain ⟨k, hk, rfl, rfl⟩ := hrel
  by_cases hlt : k < n
  ·obtain ⟨b, off, rfl, hcell⟩ := h.pos (by omega);obtain ⟨b', off', rfl, hcell'⟩ := h'.pos (by omega);have hck := hcell k hlt;have hck' := hcell' k hlt;have hlt' : (k : Int) < (n : Int) := by omega
   obtain ⟨p1, p2⟩ := hP k;have d := dot_bnd hP k;have kP : (k : Int) * P <= 1000 * P := Int.mul_le_mul_of_nonneg_right (by omega) h0;have d1 : -1000000000000000 <= dot xs ys k := by omega
   have d2 : dot xs ys k <= 1000000000000000 := by omega
   have d3 : -1000000000000 <= xs[k]?.getD 0 * ys[k]?.getD 0 := by omega
   have d4 : xs[k]?.getD 0 * ys[k]?.getD 0 <= 1000000000000 := by omega
   clear hcell hcell' h h' d kP p1 p2 hP hb h0
   go_wp2
   go_round
   case rel => exact ⟨k + 1, by omega, by go_num, by simp only [dot]⟩
   case measure => simp [intOf]; omega
  go_wp2
  go_ret
  obtain rfl : k = n := by omega
  exact ⟨rfl, rfl⟩
def atV (C D : List Int) (K : Int) (V A : List Int) : Int := dot C V 3 + dot D A 2 + K
theorem iat30_any (a : Option Addr) (cap : Nat) (c : Option Addr) (cap' : Nat) (K : Int) (C D : List Int) (v : Option Addr) (cv : Nat) (u : Option Addr) (cu : Nat) (V A : List Int) (w : World)
  (hC : Ints w a 3 C) (hD : Ints w c 2 D) (hV : Ints w v 3 V) (hA : Ints w u 2 A) (bC : bnd 10000000 C) (bD : bnd 10000000 D) (bK : -10000000 <= K /\ K <= 10000000) (bV : bnd 30000 V) (bA : bnd 9 A) :
  Calls Tryz.prog 123 #[formV a 3 cap c 2 cap' K, .slice v 3 cv, .slice u 2 cu] w fun e w' => e = .returned (.int .i64 (atV C D K V A)) /\ Below w.heap.size w w' := by
 have p1 := bndP_of bC bV (by omega) (by omega);have p2 := bndP_of bD bA (by omega) (by omega);have d1 := dot_bnd p1 3;have d2 := dot_bnd p2 2;obtain ⟨K1, K2⟩ := bK;have q1 : ∀ w' : World, Below w.heap.size w w' -> Calls Tryz.prog 86 #[.slice a 3 cap, .slice v 3 cv] w' fun e w'' => e = .returned (.int .i64 (dot C V 3)) /\ w'' = w' := fun w' hb => psum_any C V (hC.below hb) (hV.below hb) (by omega) p1;have q2 : ∀ w' : World, Below w.heap.size w w' -> Calls Tryz.prog 86 #[.slice c 2 cap', .slice u 2 cu] w' fun e w'' => e = .returned (.int .i64 (dot D A 2)) /\ w'' = w' := fun w' hb => psum_any D A (hD.below hb) (hA.below hb) (by omega) p2;have Q1 : Hid _ := q1;have Q2 : Hid _ := q2;obtain ⟨X, hX⟩ : ∃ X, X = dot C V 3 := ⟨_, rfl⟩
 obtain ⟨Y, hY⟩ : ∃ Y, Y = dot D A 2 := ⟨_, rfl⟩
 have e1 : -1000000000000 <= dot C V 3 := by omega
 have e2 : dot C V 3 <= 1000000000000 := by omega
 have e3 : -1000000000000 <= dot D A 2 := by omega
 have e4 : dot D A 2 <= 1000000000000 := by omega
 clear d1 d2 p1 p2 q1 q2 hX hY X Y hC hD hV hA bC bD bV bA
 go_enter Tryz.func123, Tryz.ntmps123
 go_wp2_with fail
 go_quiet (first | (go_at_call_of 86 (Value.slice a 3 cap); exact Calls.quiet_of_same (Q1.out _ (by repeat (first | exact bal | refine below_drewN ?_ _ | refine Below.drew ?_)))) | (go_at_call_of 86 (Value.slice c 2 cap'); exact Calls.quiet_of_same (Q2.out _ (by repeat (first | exact bal | refine below_drewN ?_ _ | refine Below.drew ?_)))))
 go_wp2
 go_ret
 exact ⟨rfl, below_drewN (bal) _⟩
theorem iat_any (C D : List Int) {v : Option Addr} {cv : Nat} {u : Option Addr} {cu : Nat} (V A : List Int) {w : World}
  (hC : Ints w a 3 C) (hD : Ints w c 2 D) (hV : Ints w v 3 V) (hA : Ints w u 2 A) (bC : bnd 10000000 C) (bD : bnd 10000000 D) (bK : -10000000 <= K /\ K <= 10000000) (bV : bnd 10000 V) (bA : bnd 9 A) :
  Calls Tryz.prog 123 #[formV a 3 cap c 2 cap' K, .slice v 3 cv, .slice u 2 cu] w fun e w' => e = .returned (.int .i64 (atV C D K V A)) /\ Below w.heap.size w w' :=
 iat30_any a cap c cap' K C D v cv u cu V A w hC hD hV hA bC bD bK (fun i => by have := bV i; omega) bA
theorem sat30_any (a : Option Addr) (cap : Nat) (c : Option Addr) (cap' : Nat) (K : Int) (C D : List Int) (v : Option Addr) (cv : Nat) (u : Option Addr) (cu : Nat) (V A : List Int) (w : World)
  (hC : Ints w a 3 C) (hD : Ints w c 2 D) (hV : Ints w v 3 V) (hA : Ints w u 2 A) (bC : bnd 10000000 C) (bD : bnd 10000000 D) (bK : -10000000 <= K /\ K <= 10000000) (bV : bnd 30000 V) (bA : bnd 9 A) :
  Calls Tryz.prog 132 #[formV a 3 cap c 2 cap' K, .slice v 3 cv, .slice u 2 cu] w fun e w' => e = .returned (.int .i64 (atV C D K V A)) /\ Below w.heap.size w w' := by
 have p1 := bndP_of bC bV (by omega) (by omega);have p2 := bndP_of bD bA (by omega) (by omega);obtain ⟨K1, K2⟩ := bK;have P1 : Hid (bndP (10000000 * 30000) C V) := p1;have P2 : Hid (bndP (10000000 * 9) D A) := p2;clear p1 p2 bC bD bV bA
 go_enter Tryz.func132, Tryz.ntmps132
 go_wp2_with fail
 go_loopw [7, 8] (fun s i wr => ∃ k : Nat, k <= 3 /\ i = .int .i64 k /\ s = .int .i64 (K + dot C V k) /\ Below w.heap.size w wr /\ Cel wr w.heap.size [.slice a 3 cap, .slice c 2 cap', .int .i64 K] 86) (fun _ i _ => 3 - (intOf i).toNat)
 case atStart => exact ⟨0, by omega, rfl, by simp [dot], bal, Cel.new w _ _⟩
 case round =>
  obtain ⟨k, hk, rfl, rfl, hb, hS⟩ := hrel
  by_cases hlt : k < 3
  ·obtain ⟨b, off, rfl, hcell⟩ := (hC.below hb).pos (by omega);obtain ⟨b', off', rfl, hcell'⟩ := (hV.below hb).pos (by omega);have hck := hcell k hlt;have hck' := hcell' k hlt;have hlt' : (k : Int) < 3 := by omega
   have s0 := hS.cell 0;simp only [qC] at s0;obtain ⟨d3, d4⟩ := P1.out k;have d := dot_bnd P1.out k;have kP : (k : Int) * (10000000 * 30000) <= 3 * (10000000 * 30000) := Int.mul_le_mul_of_nonneg_right (by omega) (by omega);have d1 : -1000000000000000 <= dot C V k := by omega
   have d2 : dot C V k <= 1000000000000000 := by omega
   clear hcell hcell' hC hD hV hA d kP
   go_wp2_with fail
   go_quiet (fail)
   go_wp2
   go_roundw
   case rel => exact ⟨k + 1, by omega, by go_num, congrArg (Value.int IntKind.i64) (by simp only [dot]; omega), below_drewN hb _, hS⟩
   case measure => simp [intOf]; omega
  obtain rfl : k = 3 := by omega
  have d := dot_bnd P1.out 3;have d1 : -1000000000000000 <= dot C V 3 := by omega
  have d2 : dot C V 3 <= 1000000000000000 := by omega
  clear d hC hV
  go_wp2_with fail
  go_loopw [7, 9] (fun s i wx => ∃ k : Nat, k <= 2 /\ i = .int .i64 k /\ s = .int .i64 (K + dot C V 3 + dot D A k) /\ Below w.heap.size w wx /\ Cel wx w.heap.size [.slice a 3 cap, .slice c 2 cap', .int .i64 K] 86) (fun _ i _ => 2 - (intOf i).toNat)
  case atStart => exact ⟨0, by omega, rfl, by simp [dot], hb, hS⟩
  case round =>
   clear hb hS;obtain ⟨j, hj, rfl, rfl, hb, hS⟩ := hrel
   by_cases hlt : j < 2
   ·obtain ⟨b, off, rfl, hcell⟩ := (hD.below hb).pos (by omega);obtain ⟨b', off', rfl, hcell'⟩ := (hA.below hb).pos (by omega);have hck := hcell j hlt;have hck' := hcell' j hlt;have hlt' : (j : Int) < 2 := by omega
    have s0 := hS.cell 1;simp only [qC, qD] at s0;obtain ⟨d5, d6⟩ := P2.out j;have d := dot_bnd P2.out j;have kP : (j : Int) * (10000000 * 9) <= 2 * (10000000 * 9) := Int.mul_le_mul_of_nonneg_right (by omega) (by omega);have d3 : -1000000000000000 <= dot D A j := by omega
    have d4 : dot D A j <= 1000000000000000 := by omega
    clear hcell hcell' hD hA d kP
    go_wp2_with fail
    go_quiet (fail)
    go_wp2
    go_roundw
    case rel => exact ⟨j + 1, by omega, by go_num, congrArg (Value.int IntKind.i64) (by simp only [dot]; omega), below_drewN hb _, hS⟩
    case measure => simp [intOf]; omega
   obtain rfl : j = 2 := by omega
   go_wp2
   go_ret
   exact ⟨ret_int (by unfold atV; omega), hb⟩
theorem sat_any (C D : List Int) {v : Option Addr} {cv : Nat} {u : Option Addr} {cu : Nat} (V A : List Int) {w : World}
  (hC : Ints w a 3 C) (hD : Ints w c 2 D) (hV : Ints w v 3 V) (hA : Ints w u 2 A) (bC : bnd 10000000 C) (bD : bnd 10000000 D) (bK : -10000000 <= K /\ K <= 10000000) (bV : bnd 10000 V) (bA : bnd 9 A) :
  Calls Tryz.prog 132 #[formV a 3 cap c 2 cap' K, .slice v 3 cv, .slice u 2 cu] w fun e w' => e = .returned (.int .i64 (atV C D K V A)) /\ Below w.heap.size w w' :=
 sat30_any a cap c cap' K C D v cv u cu V A w hC hD hV hA bC bD bK (fun i => by have := bV i; omega) bA
def lin (xs ys : List Int) (n : Int) : List Int := List.zipWith (fun x y => x + n * y) xs ys
theorem lin_len {k : Nat} (hx : xs.length = k) (hy : ys.length = k) : (lin xs ys n).length = k := by simp [lin, hx, hy]
theorem lin_get {k i : Nat} (hx : xs.length = k) (hy : ys.length = k) (hi : i < k) : (lin xs ys n)[i]?.getD 0 = xs[i]?.getD 0 + n * ys[i]?.getD 0 := by
 have h1 : i < xs.length := by omega
 have h2 : i < ys.length := by omega
 have h3 : i < (lin xs ys n).length := by rw [lin_len hx hy]; exact hi
 rw [qB h1, qB h2, qB h3];simp [lin]
def bndT (P n : Int) (ys : List Int) : Prop := ∀ i : Nat, -P <= n * ys[i]?.getD 0 /\ n * ys[i]?.getD 0 <= P
theorem bndT_of {M N : Int} (hy : bnd M ys) (h1 : -N <= n) (h2 : n <= N) (h0 : 0 <= M) (h3 : 0 <= N) : bndT (N * M) n ys := by
 intro i;obtain ⟨b1, b2⟩ := hy i;generalize ys[i]?.getD 0 = y at *;have hx' : n.natAbs <= N.toNat := by omega
 have hy' : y.natAbs <= M.toNat := by omega
 have hm : (n * y).natAbs <= N.toNat * M.toNat := by rw [Int.natAbs_mul]; exact Nat.mul_le_mul hx' hy'
 have e : ((N.toNat * M.toNat : Nat) : Int) = N * M := by rw [Int.natCast_mul, Int.toNat_of_nonneg h3, Int.toNat_of_nonneg h0]
 omega
theorem l1sum_any (C D : List Int) {a' : Option Addr} {cap2 : Nat} {c' : Option Addr} {cap3 : Nat} {K' : Int} (C' D' : List Int) {n : Int} {w : World}
  (hC : Ints w a 3 C) (hD : Ints w c 2 D) (hC' : Ints w a' 3 C') (hD' : Ints w c' 2 D') (bC : bnd 1000000000000000000 C) (bD : bnd 1000000000000000000 D) (bK : -1000000000000000000 <= K /\ K <= 1000000000000000000)
  (tC : bndT 1000000000000000000 n C') (tD : bndT 1000000000000000000 n D') (tK : -1000000000000000000 <= n * K' /\ n * K' <= 1000000000000000000) :
  Calls Tryz.prog 149 #[formV a 3 cap c 2 cap' K, formV a' 3 cap2 c' 2 cap3 K', .int .i64 n] w fun e w' => ∃ B1 B2, e = .returned (formV (some ⟨B1, 0, none⟩) 3 3 (some ⟨B2, 0, none⟩) 2 2 (K + n * K')) /\ Below w.heap.size w w' /\ w.heap.size <= B1 /\ B1 ≠ B2 /\ w.heap.size <= B2 /\ Blk w' B1 (lin C C' n) /\ Blk w' B2 (lin D D' n) := by
 have LC := lin_len (n := n) hC.1 hC'.1;have LD := lin_len (n := n) hD.1 hD'.1;have HC : Hid _ := hC.1;have HC' : Hid _ := hC'.1;have HD : Hid _ := hD.1;have HD' : Hid _ := hD'.1;obtain ⟨L1, hL1⟩ : ∃ L, L = lin C C' n := ⟨_, rfl⟩
 obtain ⟨L2, hL2⟩ : ∃ L, L = lin D D' n := ⟨_, rfl⟩
 have G1 : ∀ i, i < 3 -> L1[i]?.getD 0 = C[i]?.getD 0 + n * C'[i]?.getD 0 := fun i hi => by rw [hL1]; exact lin_get HC.out HC'.out hi
 have G2 : ∀ i, i < 2 -> L2[i]?.getD 0 = D[i]?.getD 0 + n * D'[i]?.getD 0 := fun i hi => by rw [hL2]; exact lin_get HD.out HD'.out hi
 rw [<- hL1] at LC;rw [<- hL2] at LD;rw [<- hL1, <- hL2];have HL1 : Hid (L1.length = 3) := LC;have HL2 : Hid (L2.length = 2) := LD;have GG1 : Hid _ := G1;have GG2 : Hid _ := G2;clear LC LD hL1 hL2 G1 G2;obtain ⟨bK1, bK2⟩ := bK;obtain ⟨tK1, tK2⟩ := tK
 go_enter Tryz.func149, Tryz.ntmps149
 go_wp2_with fail
 refine (szero_any _).mono ?_;rintro e w1 ⟨B1, B2, rfl, b1, h1, h2, h3, k1, k2⟩;rw [qA, qA, qA] at h1 h3;have p0 := (((Cel.new w _ _).alloc _).alloc _).below b1;have p1 := ((Cel.new (w.alloc _) _ _).alloc _).below b1;have p2 := (Cel.new ((w.alloc _).alloc _) _ _).below b1;rw [qA] at p1;rw [qA, qA] at p2;have hb : Below w.heap.size w w1 := (((bal).alloc (by simp) _).alloc (by simp; omega) _).trans (b1.mono (by simp; omega));have hX1 := k1.lt;have hX2 := k2.lt;have hX0 : w.heap.size + 1 + 1 < w1.heap.size := p2.lt;clear b1
 go_wp2_with fail
 go_loopw [8] (fun i wr => ∃ k : Nat, k <= 3 /\ i = .int .i64 k /\ Below w.heap.size w wr /\ w1.heap.size < wr.heap.size /\ Cel wr w.heap.size [.slice a 3 cap, .slice c 2 cap', .int .i64 K] 86 /\ Cel wr (w.heap.size + 1) [.slice a' 3 cap2, .slice c' 2 cap3, .int .i64 K'] 86 /\ Cel wr (w.heap.size + 1 + 1) [.slice none 0 0, .slice none 0 0, .int .i64 0] 86 /\ Cel wr w1.heap.size [.slice (some ⟨B1, 0, none⟩) 3 3, .slice (some ⟨B2, 0, none⟩) 2 2, .int .i64 0] 86 /\ Blk wr B1 (upTo L1 3 k) /\ Blk wr B2 [0, 0]) (fun i _ => 3 - (intOf i).toNat)
 case atStart => exact ⟨0, by omega, rfl, hb.alloc hb.size _, by simp, p0.alloc _, p1.alloc _, p2.alloc _, Cel.new w1 _ _, by rw [upTo_zero]; exact k1.alloc _, k2.alloc _⟩
 case round =>
  clear p0 p1 p2 hb k1 k2;obtain ⟨k, hk, rfl, hb, hz, p0, p1, p2, x0, k1, k2⟩ := hrel
  by_cases hlt : k < 3
  ·obtain ⟨b, off, rfl, hcell⟩ := (hC.below hb).pos (by omega);obtain ⟨b', off', rfl, hcell'⟩ := (hC'.below hb).pos (by omega);have hck := hcell k hlt;have hck' := hcell' k hlt;have hlt' : (k : Int) < 3 := by omega
   have s0 := p0.cell 0;have s1 := p1.cell 0;have s2 := x0.cell 0;simp only [qC] at s0 s1 s2;have hco := k1.cell k (by rw [upTo_len HL1.out hk]; exact hlt);have hfo := k1.free k;obtain ⟨d1, d2⟩ := bC k;obtain ⟨d3, d4⟩ := tC k;have e1 := GG1.out k hlt;have R := k1.set k (L1[k]?.getD 0);rw [upTo_succ HL1.out hlt, e1] at R;have Rb := hb.setCell (p := ⟨B1, k, none⟩) (by show w.heap.size <= B1; omega) (.int .i64 (C[k]?.getD 0 + n * C'[k]?.getD 0));have R0 := p0.setOther (B' := B1) (by omega) k (.int .i64 (C[k]?.getD 0 + n * C'[k]?.getD 0));have R1 := p1.setOther (B' := B1) (by omega) k (.int .i64 (C[k]?.getD 0 + n * C'[k]?.getD 0));have R2 := p2.setOther (B' := B1) (by omega) k (.int .i64 (C[k]?.getD 0 + n * C'[k]?.getD 0));have R3 := x0.setOther (B' := B1) (by omega) k (.int .i64 (C[k]?.getD 0 + n * C'[k]?.getD 0));have R4 := k2.setOther (B' := B1) (by omega) k (.int .i64 (C[k]?.getD 0 + n * C'[k]?.getD 0));clear hcell hcell' hC hD hC' hD' e1 p0 p1 p2 x0 k1 k2 hb bC bD tC tD
   go_wp2_with fail
   go_region
   go_wp2
   go_roundw
   case rel => exact ⟨k + 1, by omega, by go_num, Rb.drew, by show w1.heap.size < (World.setCell _ _ _).heap.size; rw [size_setCell]; exact hz, R0, R1, R2, R3, R, R4⟩
   case measure => simp [intOf]; omega
  obtain rfl : k = 3 := by omega
  rw [upTo_end HL1.out (qE _)] at k1;clear hC hC' bC tC
  go_wp2_with fail
  go_loopw [9] (fun i wr => ∃ k : Nat, k <= 2 /\ i = .int .i64 k /\ Below w.heap.size w wr /\ w1.heap.size < wr.heap.size /\ Cel wr w.heap.size [.slice a 3 cap, .slice c 2 cap', .int .i64 K] 86 /\ Cel wr (w.heap.size + 1) [.slice a' 3 cap2, .slice c' 2 cap3, .int .i64 K'] 86 /\ Cel wr (w.heap.size + 1 + 1) [.slice none 0 0, .slice none 0 0, .int .i64 0] 86 /\ Cel wr w1.heap.size [.slice (some ⟨B1, 0, none⟩) 3 3, .slice (some ⟨B2, 0, none⟩) 2 2, .int .i64 0] 86 /\ Blk wr B1 L1 /\ Blk wr B2 (upTo L2 2 k)) (fun i _ => 2 - (intOf i).toNat)
  case atStart => exact ⟨0, by omega, rfl, hb, hz, p0, p1, p2, x0, k1, by rw [upTo_zero]; exact k2⟩
  case round =>
   clear p0 p1 p2 hb k1 k2 x0 hz;obtain ⟨k, hk, rfl, hb, hz, p0, p1, p2, x0, k1, k2⟩ := hrel
   by_cases hlt : k < 2
   ·obtain ⟨b, off, rfl, hcell⟩ := (hD.below hb).pos (by omega);obtain ⟨b', off', rfl, hcell'⟩ := (hD'.below hb).pos (by omega);have hck := hcell k hlt;have hck' := hcell' k hlt;have hlt' : (k : Int) < 2 := by omega
    have s0 := p0.cell 1;have s1 := p1.cell 1;have s2 := x0.cell 1;simp only [qC, qD] at s0 s1 s2;have hco := k2.cell k (by rw [upTo_len HL2.out hk]; exact hlt);have hfo := k2.free k;obtain ⟨d1, d2⟩ := bD k;obtain ⟨d3, d4⟩ := tD k;have e1 := GG2.out k hlt;have R := k2.set k (L2[k]?.getD 0);rw [upTo_succ HL2.out hlt, e1] at R;have Rb := hb.setCell (p := ⟨B2, k, none⟩) (by show w.heap.size <= B2; omega) (.int .i64 (D[k]?.getD 0 + n * D'[k]?.getD 0));have R0 := p0.setOther (B' := B2) (by omega) k (.int .i64 (D[k]?.getD 0 + n * D'[k]?.getD 0));have R1 := p1.setOther (B' := B2) (by omega) k (.int .i64 (D[k]?.getD 0 + n * D'[k]?.getD 0));have R2 := p2.setOther (B' := B2) (by omega) k (.int .i64 (D[k]?.getD 0 + n * D'[k]?.getD 0));have R3 := x0.setOther (B' := B2) (by omega) k (.int .i64 (D[k]?.getD 0 + n * D'[k]?.getD 0));have R4 := k1.setOther (B' := B2) (by omega) k (.int .i64 (D[k]?.getD 0 + n * D'[k]?.getD 0));clear hcell hcell' hD hD' e1 p0 p1 p2 x0 k1 k2 hb bD tD
    go_wp2_with fail
    go_region
    go_wp2
    go_roundw
    case rel => exact ⟨k + 1, by omega, by go_num, Rb.drew, by show w1.heap.size < (World.setCell _ _ _).heap.size; rw [size_setCell]; exact hz, R0, R1, R2, R3, R4, R⟩
    case measure => simp [intOf]; omega
   obtain rfl : k = 2 := by omega
   rw [upTo_end HL2.out (qE _)] at k2;have s0 := p0.cell 2;have s1 := p1.cell 2;have s2 := x0.cell 2;have s3 := x0.free 2;have s4 := x0.cell 0;have s5 := x0.cell 1;have r0 := p2.cell 0;have r1 := p2.cell 1;have r2 := p2.cell 2;have r3 := p2.free 0;have r4 := p2.free 1;have r5 := p2.free 2;simp only [qC, qD] at s0 s1 s2 s4 s5 r0 r1 r2;clear hD hD' bD tD p0 p1 p2 x0
   go_wp2
   refine bodyPost_ret (v := formV (some ⟨B1, 0, none⟩) 3 3 (some ⟨B2, 0, none⟩) 2 2 (K + n * K')) (by simp [results, Tryz.results149, go_sem, r0, r1, r2]) rfl ⟨B1, B2, rfl, ?_, by omega, h2, by omega, ?_, ?_⟩
   ·exact (((hb.setCell (by simp only []; omega) _).setCell (by simp only []; omega) _).setCell (by simp only []; omega) _).setCell (by simp only []; omega) _
   ·exact (((k1.so).so).so).so
   exact (((k2.so).so).so).so
def mulL (n : Int) (zs : List Int) : List Int := zs.map fun z => n * z
theorem mulL_get {i : Nat} (h : i < zs.length) : (mulL n zs)[i]?.getD 0 = n * zs[i]?.getD 0 := by
 simp [mulL, h]
theorem timesEach_any {l : Nat} (zs : List Int) {n : Int} {w : World} (h : Ints w a l zs) (hl : l <= 1048576) (ht : bndT 1000000000000000000 n zs) :
  Calls Tryz.prog 133 #[.slice a l cap, .int .i64 n] w fun e w' => e = .returned (.slice (some ⟨w.heap.size, 0, none⟩) l l) /\ Below w.heap.size w w' /\ Blk w' w.heap.size (mulL n zs) := by
 have HZ : Hid (zs.length = l) := h.1;have HM : Hid ((mulL n zs).length = l) := by show (mulL n zs).length = l; simp [mulL, h.1]
 obtain ⟨i0, hi, hz0, hz1, hz2⟩ := info_parts Tryz.infoInt
 go_enter Tryz.func133, Tryz.ntmps133
 go_wp2_with (at_make; refine wpList_make_full _ rfl (.tmp 9) (.tmp 9) 24 rfl w.heap.size 3 i0 (.int .i64 0) 1 Tryz.underlying24 hi hz0 hz1 .i64 .i64 _ _ l rfl rfl rfl rfl (by rw [hz2]; omega) (by unfold maxLen; omega) (qE _) ?_; intro w1 hown hgrow)
 have hb1 := Blk.made w l w1 hown;have HB : Below w.heap.size w w1 := (Below.refl _ _).grown hgrow (qE _) (by simp);clear hown hgrow hi hz0 hz1 hz2
 go_loopw [6, 7, 13] (fun _ _ i wr => ∃ k : Nat, k <= l /\ i = .int .i64 k /\ Below w.heap.size w wr /\ Blk wr w.heap.size (upTo (mulL n zs) l k)) (fun _ _ i _ => l - (intOf i).toNat)
 case atStart => exact ⟨0, Nat.zero_le _, rfl, HB, by rw [upTo_zero]; exact hb1⟩
 case round =>
  obtain ⟨k, hk, rfl, hnx, hblk⟩ := hrel
  by_cases hlt : k < l
  ·obtain ⟨b, off, rfl, hcell⟩ := (h.below hnx).pos (by omega);have hck := hcell k hlt;have hco := hblk.cell k (by rw [upTo_len HM.out hk]; exact hlt);have hfo := hblk.free k;obtain ⟨d1, d2⟩ := ht k;have R := hblk.set k ((mulL n zs)[k]?.getD 0);rw [upTo_succ HM.out hlt, mulL_get (by rw [HZ.out]; exact hlt)] at R;have R2 := hnx.setCell (p := ⟨w.heap.size, k, none⟩) (qE _) (.int .i64 (n * zs[k]?.getD 0));clear hcell hb1 HB h ht hblk hnx
   go_wp2
   go_roundw
   case rel => exact ⟨k + 1, by omega, by go_num, R2, R⟩
   case measure => simp [intOf]; omega
  go_wp2
  go_ret
  exact ⟨rfl, hnx, by rw [upTo_end HM.out (by omega)] at hblk; exact hblk⟩
end Go.Proofs.YtemcinobgdphnaaGreat
