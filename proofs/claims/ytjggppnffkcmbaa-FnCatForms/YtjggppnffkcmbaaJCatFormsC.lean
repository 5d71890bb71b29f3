/-
  Lemmas that the claim's last text rests on: CatFI, IntSM, CatL, Trt, TrtW, Plan, CatPL, CatFL, CatPq, OpenR, Row, RowsP, RowsI, CoRw, RowsQ.
-/
import Derived.Test.YtjggppnffkcmbaaJCatFormsB
import Derived.Maps.OwnIn
import Derived.Test.YtjggppnffkcmbaaForms
import Derived.Test.YtjggppnffkcmbaaOpen
import Derived.Test.YtjggppnffkcmbaaOpenS
import Derived.Test.YtjggppnffkcmbaaMade
import Derived.Test.YtjggppnffkcmbaaJCatFormsA
import Derived.Test.YtjggppnffkcmbaaDrA
import Derived.Test.YtjggppnffkcmbaaFvC
namespace Go.Proofs.Ytjggppnffkcmbaa
open Go.RowKit Go.Deep Go.Shelf
set_option linter.unusedVariables false
set_option maxRecDepth 100000
attribute [local go_sem] Oper.semAt_some

section
variable {F : Fence} {n : Nat} {P : Program} {ops : Array Oper} {Q : Exit → Act → World → Prop} {md : Region.Mode} {S : World → Prop}
theorem wpAnyS_two {i j : Nat} {oi oj : Oper} {fuel : Nat} {listed : Array Bool} {a : Act} {w : World} (hr : Region.ready md ops listed = [i, j]) (hi : ops[i]? = some oi) (hj : ops[j]? = some oj)
    (h1 : ∀ K' : Act → World → Prop, Shut (∀ a w, S w → wpAnyS F n P md ops Q S fuel (listed.setIfInBounds i true) a w → K' a w) → if Region.wanted oi (yielded ops a.tmps) = true then Oper.wpIn F n P oi a w K' Q else (∀ f, oi.about P w a.eval = some f → F.fn f) ∧ K' (a.put oi.dst undef) w)
    (h2 : ∀ K' : Act → World → Prop, Shut (∀ a w, S w → wpAnyS F n P md ops Q S fuel (listed.setIfInBounds j true) a w → K' a w) → if Region.wanted oj (yielded ops a.tmps) = true then Oper.wpIn F n P oj a w K' Q else (∀ f, oj.about P w a.eval = some f → F.fn f) ∧ K' (a.put oj.dst undef) w) : wpAnyS F n P md ops Q S (fuel + 1) listed a w := by
  refine ⟨fun h0 => (by rw [hr] at h0; cases h0), fun z hz => ?_⟩
  rw [hr] at hz
  rcases List.mem_cons.1 hz with rfl | hz
  · exact wpOpIn_step hi (fun K' hK => h1 K' (fun a w hS hW => hK a w ⟨hS, hW⟩))
  · rcases List.mem_cons.1 hz with rfl | hz
    · exact wpOpIn_step hj (fun K' hK => h2 K' (fun a w hS hW => hK a w ⟨hS, hW⟩))
    · cases hz
end
/-- Marks that loops over functions have left. -/
def MkDs (Ds : List Nat) : List Deferred := Ds.map fun D => { target := .collected D, args := #[] }
theorem leaves_marks {F : Fence} {n : Nat} {P : Program} {fn : Func} {tmps : Array Value} {R : Ending → World → Prop} {v : Value} (hres : ∀ W', (results fn tmps).run P W' = .ok v W') : ∀ (Ds : List Nat) (W : World), (∀ D ∈ Ds, W.heap[D]? = some (.deferred (some []))) → Ds.Nodup →
    (∀ W', Touch (fun k => k ∈ Ds) W W' → R (.returned v) W') → LeavesInM F n P fn tmps R (MkDs Ds) .returning W
  | [], W, _, _, hR => ⟨v, hres W, hR W (Touch.refl _ _)⟩
  | D :: Ds, W, hb, hn, hR => by
    refine ⟨by simp, .inl ⟨D, _, rfl, run_takeDeferred (hb D (by simp)), ?_⟩⟩
    obtain ⟨h1, h2⟩ := List.nodup_cons.1 hn
    refine leaves_marks hres Ds _ (fun D' hD' => ?_) h2 (fun W' t => hR W' ?_)
    · rw [World.putObj_heap_other (fun e => h1 (by rw [← e]; exact hD'))]
      exact hb D' (by simp [hD'])
    · refine Touch.trans (b := W.putObj D _) ⟨rfl, rfl, rfl, by simp [World.putObj], fun k hk hk2 => World.putObj_heap_other (fun e => hk2 (by simp [e]))⟩ (t.mono (fun k hk => by simp [hk]))
/-- The marks' blocks, all made since. -/
structure MkOk (n0 : Nat) (Ds : List Nat) (W : World) : Prop where
  b : ∀ D ∈ Ds, W.heap[D]? = some (.deferred (some []))
  n : Ds.Nodup
  l : ∀ D ∈ Ds, n0 ≤ D
theorem MkOk.nil (n0 : Nat) (W : World) : MkOk n0 [] W := ⟨fun _ h => by simp at h, List.nodup_nil, fun _ h => by simp at h⟩
theorem MkOk.below {n0 : Nat} {Ds : List Nat} {W W' : World} (h : MkOk n0 Ds W) (b : Below W.heap.size W W') : MkOk n0 Ds W' := ⟨fun D hD => (b.block D (lt_of_block (h.b D hD))).trans (h.b D hD), h.n, h.l⟩
theorem MkOk.touch {S : Nat → Prop} {n0 : Nat} {Ds : List Nat} {W W' : World} (h : MkOk n0 Ds W) (t : Touch S W W') (hS : ∀ k, S k → ∀ o, W.heap[k]? ≠ some (.deferred o)) : MkOk n0 Ds W' := ⟨fun D hD => (t.block D (lt_of_block (h.b D hD)) (fun hs => hS D hs _ (h.b D hD))).trans (h.b D hD), h.n, h.l⟩
theorem MkOk.loop {n0 : Nat} {Ds : List Nat} {W : World} {l : Nat} {r : Loop} {o : Obj} (h : MkOk n0 Ds W) (hl : W.heap[l]? = some (.loop r)) : MkOk n0 Ds (W.putObj l o) := ⟨fun D hD => by
    have hne : D ≠ l := fun e => by
      have := h.b D hD
      rw [e, hl] at this
      cases this
    rw [World.putObj_heap_other hne]; exact h.b D hD, h.n, h.l⟩
theorem OwnM.loop {X : World} {B n l : Nat} {D : DataW Unit} {r : Loop} {o : Obj} (h : OwnM X B n D) (hl : X.heap[l]? = some (.loop r)) : OwnM (X.putObj l o) B n D := by
  obtain ⟨es, clock, hb, q⟩ := h
  have hne : B ≠ l := fun e => by
    rw [e, hl] at hb
    cases hb
  exact ⟨es, clock, by rw [World.putObj_heap_other hne]; exact hb, q⟩
theorem OwnM.obj {X : World} {B n : Nat} {D : DataW Unit} (h : OwnM X B n D) : ∃ es clock, X.heap[B]? = some (.map es clock) := by
  obtain ⟨es, clock, hb, _⟩ := h
  exact ⟨es, clock, hb⟩
theorem OwnM.kpR {X Y : World} {B n : Nat} {D : DataW Unit} (h : OwnM X B n D) (t : Touch (fun k => k = B) X Y) : KpR X Y := t.mono (fun k e => by
  subst e
  obtain ⟨es, clock, hb⟩ := h.obj
  intro cs ty fr he
  rw [hb] at he
  cases he)
theorem addP_len (ps : List (List Int)) (p : List Int) : ps.length ≤ (addPb ps p).length := by
  unfold addPb
  split
  · exact Nat.le_refl _
  · simp
theorem guardsP_len (fs : List Frm) : ∀ ps, ps.length ≤ (guardsP ps fs).length := by
  induction fs with
  | nil => intro ps; exact Nat.le_refl _
  | cons f fs ih => intro ps; exact Nat.le_trans (addP_len ps _) (ih _)
theorem rowsP_len (rs : List RowM) : ∀ ps, ps.length ≤ (rowsP ps rs).length := by
  induction rs with
  | nil => intro ps; exact Nat.le_refl _
  | cons r rs ih => intro ps; exact Nat.le_trans (guardsP_len _ ps) (ih _)
theorem actsP_len (ss : List L2V) : ∀ ps, ps.length ≤ (actsP ps ss).length := by
  induction ss with
  | nil => intro ps; exact Nat.le_refl _
  | cons s ss ih => intro ps; exact Nat.le_trans (rowsP_len _ ps) (ih _)
theorem catP_pos (ss : List L2V) : 3 ≤ (catP ss).length := actsP_len ss pots3
/-- A slice of parts, each in a block of its own, all free to be written. -/
structure JO (w : World) (v : Value) (ts : List IV) (bs : Nat → Nat) (W : World) : Prop where
  b : Below w.heap.size w W
  o : W.ownsRow w.heap.size 26 1 v ts.length (ts.map IV.v)
  k : ∀ j, j < ts.length → (ts[j]?.getD noI).n = 3 ∧ OwnX W (ts[j]?.getD noI).a (bs j) 3 (ts[j]?.getD noI).x ∧ w.heap.size ≤ bs j ∧ some (bs j) ≠ v.ownBlock
  d : ∀ i j, i < j → j < ts.length → bs i < bs j
theorem JO.nil (w W : World) (hb : Below w.heap.size w W) (bs : Nat → Nat) : JO w (.slice none 0 0) [] bs W := ⟨hb, World.ownsRow_nil W _ _ _, fun j hj => by simp at hj, fun i j _ hj => by simp at hj⟩
theorem JO.below {w W W' : World} {v : Value} {ts : List IV} {bs : Nat → Nat} (j : JO w v ts bs W) (h : Below W.heap.size W W') : JO w v ts bs W' :=
  ⟨j.b.trans (h.mono j.b.size), by
    refine ⟨j.o.1, ?_⟩
    rcases j.o.2 with h2 | ⟨g, cap, cur, hv, hg, hh, r⟩
    · exact Or.inl h2
    · exact Or.inr ⟨g, cap, cur, hv, hg, by rw [h.block g (lt_of_block hh)]; exact hh, r⟩, fun i hi => by obtain ⟨a, b, c, d⟩ := j.k i hi; exact ⟨a, b.below h, c, d⟩, j.d⟩
theorem JO.blk {w W : World} {v : Value} {ts : List IV} {bs : Nat → Nat} (j : JO w v ts bs W) {g : Nat} (h : v.ownBlock = some g) : w.heap.size ≤ g ∧ ∃ cur, W.heap[g]? = some (.cells cur 26 (0, 0)) := by
  rcases j.o.2 with ⟨h', _⟩ | ⟨g', cap, cur, hv, hg, hh, r⟩
  · rw [h'] at h; simp [Value.ownBlock] at h
  · rw [hv] at h
    simp only [Value.ownBlock, Option.some.injEq] at h
    subst h
    exact ⟨hg, cur, hh⟩
/-- Blocks that hold no cells may change. -/
theorem JO.past {w W W' : World} {v : Value} {ts : List IV} {bs : Nat → Nat} {S : Nat → Prop} (j : JO w v ts bs W) (t : Touch S W W') (hS : ∀ k, S k → w.heap.size ≤ k ∧ ∀ cs ty fr, W.heap[k]? ≠ some (.cells cs ty fr)) : JO w v ts bs W' := by
  refine ⟨j.b.trans (t.below j.b.size (fun k hk => (hS k hk).1)), ?_, fun i hi => ?_, j.d⟩
  · refine ⟨j.o.1, ?_⟩
    rcases j.o.2 with h2 | ⟨g, cap, cur, hv, hg, hh, r⟩
    · exact Or.inl h2
    · exact Or.inr ⟨g, cap, cur, hv, hg, by rw [t.block g (lt_of_block hh) (fun h => (hS g h).2 _ _ _ hh)]; exact hh, r⟩
  · obtain ⟨a, b, c, d⟩ := j.k i hi
    refine ⟨a, b.touch t (fun _ h => ?_), c, d⟩
    rcases b.2 with h0 | ⟨_, cur, hc, _⟩
    · omega
    · exact (hS _ h).2 _ _ _ hc
theorem JO.app {w W W' : World} {v v' : Value} {ts : List IV} {bs : Nat → Nat} {s : IV} {A k : Nat} {o : Obj} (j : JO w v ts bs W) (hk : ts.length = k) (hs : s.n = 3) (hA : OwnX W s.a A 3 s.x) (hlo : w.heap.size ≤ A) (hnew : ∀ i, i < k → bs i < A) (hne : some A ≠ v.ownBlock)
    (hown : W'.ownsRow w.heap.size 26 1 v' (k + 1) (ts.map IV.v ++ [s.v])) (hg : (W.alloc o).grownBy W' v.ownBlock) (hat : v'.ownBlock = v.ownBlock ∨ v'.ownBlock = some (W.alloc o).heap.size) : JO w v' (ts ++ [s]) (fun i => if i < k then bs i else A) W' := by
  subst hk
  have B1 : Below W.heap.size W (W.alloc o) := (Below.refl _ _).alloc (Nat.le_refl _) _
  have ja := j.below B1
  have hlA := hA.lt (by omega)
  have key : ∀ (a : Option Addr) (X : Nat) (x : List Int), OwnX W a X 3 x → some X ≠ v.ownBlock → OwnX W' a X 3 x ∧ some X ≠ v'.ownBlock := fun a X x h1 h2 => by
    have hl := h1.lt (by omega)
    refine ⟨?_, fun e => ?_⟩
    · have h3 := h1.below B1
      rcases h3.2 with h0 | ⟨e1, cur, hc, hv⟩
      · omega
      · exact ⟨h3.1, .inr ⟨e1, cur, hc.grew hg (fun e => h2 e.symm), hv⟩⟩
    · rcases hat with h | h
      · exact h2 (e.trans h)
      · rw [h, World.size_alloc] at e
        simp only [Option.some.injEq] at e
        omega
  refine ⟨ja.b.grown hg ja.b.size (fun z hz => (j.blk hz).1), by rw [List.length_append, List.map_append]; exact hown, fun i hi => ?_, fun i i' h hi' => ?_⟩
  · by_cases h : i < ts.length
    · rw [List.getElem?_append_left h]
      obtain ⟨a, b, c, d⟩ := j.k i h
      simp only [h, if_true]
      obtain ⟨q1, q2⟩ := key _ _ _ b d
      exact ⟨a, q1, c, q2⟩
    · rw [List.length_append, List.length_singleton] at hi
      obtain rfl : i = ts.length := by omega
      rw [List.getElem?_append_right (Nat.le_refl _), Nat.sub_self]
      simp only [Nat.lt_irrefl, if_false]
      obtain ⟨q1, q2⟩ := key _ _ _ hA hne
      exact ⟨hs, q1, hlo, q2⟩
  · rw [List.length_append, List.length_singleton] at hi'
    have h1 : i < ts.length := by omega
    simp only [h1, if_true]
    by_cases h2 : i' < ts.length
    · simp only [h2, if_true]; exact j.d i i' h h2
    · simp only [h2, if_false]; exact hnew i h1
theorem MkOk.grown {n0 : Nat} {Ds : List Nat} {w W W' : World} {v : Value} {ts : List IV} {bs : Nat → Nat} {o : Obj} (h : MkOk n0 Ds W) (j : JO w v ts bs W) (hg : (W.alloc o).grownBy W' v.ownBlock) : MkOk n0 Ds W' := by
  have h1 := h.below ((Below.refl _ _).alloc (Nat.le_refl _) o)
  refine ⟨fun D hD => ?_, h.n, h.l⟩
  rw [hg.block D (lt_of_block (h1.b D hD)) (fun e => ?_)]
  · exact h1.b D hD
  · obtain ⟨_, cur, hh⟩ := j.blk e.symm
    rw [h.b D hD] at hh
    cases hh
theorem Cel.grownKT {w W W' : World} {v : Value} {ts : List IV} {bs : Nat → Nat} {o : Obj} {L : Nat} {cur : List Value} (h : Cel W L cur KT) (j : JO w v ts bs W) (hg : (W.alloc o).grownBy W' v.ownBlock) : Cel W' L cur KT := by
  refine (h.alloc o).grew hg (fun e => ?_)
  obtain ⟨_, c2, hh⟩ := j.blk e
  unfold Cel at h
  rw [h] at hh
  simp only [Option.some.injEq, Obj.cells.injEq] at hh
  exact absurd hh.2.1 (by decide)
theorem pots3_guards : guardsP [] way0.pots = pots3 := by decide +kernel
theorem pot_fit : ∀ k, k < 3 → fitX 10000000 (way0.pots[k]?.getD ([], [], 0)) := fun k hk => (WayOk.start.pf k hk).mono (by have := wb_six (n := 0) (by omega); simp [wb] at *)

set_option maxHeartbeats 6400000 in
theorem icatforms_in (ad : Option Addr) (N cap : Nat) (ss : List L2V) (w : World) (n : Nat) (hN : ss.length = N) (hF : LSG w ad ss) (hN1 : N ≤ 1048576) :
    CallsIn Fence.wide n Try.prog 38 #[.slice ad N cap] w fun e w' => Below w.heap.size w w' ∧ ((catB N ss = false ∧ e = .returned (.slice none 0 0)) ∨ (catB N ss = true ∧ ∃ G cG ts bs, e = .returned (.slice (some ⟨G, 0, none⟩) (catP ss).length cG) ∧ ts.map IV.x = catP ss ∧ JO w (.slice (some ⟨G, 0, none⟩) (catP ss).length cG) ts bs w')) := by
  have hdd : ∀ k : Nat, (Fence.wide.depth.isSome = true → 1 ≤ k) := fun k h => by simp [Fence.wide] at h
  have HN : Hid (ss.length = N) := hN
  have HF : Hid (LSG w ad ss) := hF
  have hmm := @run_makeMap Try.prog
  refine callsIn_of_wp_marks Try.func38 rfl trivial ?_ rfl
  simp only [Try.ntmps38, List.size_toArray, List.length_cons, List.length_nil, Nat.reduceAdd, Nat.reduceSub, Array.replicate_succ, Array.replicate_zero, List.push_toArray, List.append_toArray, List.nil_append, List.cons_append]
  gi_wp2_with fail
  refine ⟨trivial, hdd _, (callsIn_wide.2 (icat_any ad N cap ss _ hN hF hN1)).mono ?_⟩
  rintro e w1 ⟨rfl, b1⟩
  obtain ⟨u, hu⟩ : ∃ u, catB N ss = u := ⟨_, rfl⟩
  rw [hu]
  cases u with
  | false =>
    gi_wp2
    exact ⟨_, results_tmp rfl _ _ _, b1, Or.inl ⟨hu, rfl⟩⟩
  | true =>
    have N4 := (catB_parts hu).1
    have HALL : Hid (ss.all L2V.ok = true) := (catB_parts hu).2
    have HU : Hid (catB N ss = true) := hu
    clear hu hN hF
    gi_wp2_with fail
    have m0 : OwnM ((w1.alloc (.map #[] 0)).alloc (.cells #[.map (some w1.heap.size)] 121)) w1.heap.size 0 (.map []) := (World.ownsMap_made w1 Try.prog KT (plainElem Try.prog ET)).alloc _
    have p0 : Cel ((w1.alloc (.map #[] 0)).alloc (.cells #[.map (some w1.heap.size)] 121)) (w1.heap.size + 1) [.map (some w1.heap.size)] 121 := by
      have := Cel.new (w1.alloc (.map #[] 0)) [.map (some w1.heap.size)] 121
      rw [World.size_alloc] at this; exact this
    have b2 : Below w1.heap.size w1 ((w1.alloc (.map #[] 0)).alloc (.cells #[.map (some w1.heap.size)] 121)) := ((Below.refl _ _).alloc (Nat.le_refl _) _).alloc (by simp) _
    obtain ⟨Z, hZ⟩ : ∃ Z, Z = (w1.alloc (.map #[] 0)).alloc (.cells #[.map (some w1.heap.size)] 121) := ⟨_, rfl⟩
    rw [← hZ] at m0 p0 b2 ⊢
    have lB0 := b1.size
    obtain ⟨B, hB⟩ : ∃ B, B = w1.heap.size := ⟨_, rfl⟩
    rw [← hB] at m0 p0 ⊢
    have hBw : w.heap.size ≤ B := by omega
    have B2 := b1.trans (b2.mono b1.size)
    clear hZ hmm hB b2 b1
    have KP : Hid (∀ V, Touch (fun k => k = B) Z V → V.cell? ⟨B + 1, 0, none⟩ = some (.map (some B))) := fun V t => (p0.touch t (fun h => by have : B + 1 = B := h; omega)).cell 0
    have e0 : Below Z.heap.size Z Z.drew := (Below.refl _ _).drew
    have hSS := KP.out _ (Touch.of e0)
    refine wpIn_region_S (fun w' => w'.cell? ⟨B + 1, 0, none⟩ = some (.map (some B))) (by kernel_rfl) ?_
    refine wpAnyS_two (i := 0) (j := 1) (by kernel_rfl) rfl rfl (fun K hK => ?_) (fun K hK => ?_)
    · go_simp
      refine hK.out _ _ hSS ?_
      clear hK K
      refine wpAnyS_one (i := 1) (by kernel_rfl) rfl (fun K hK => ?_)
      go_simp
      refine ⟨trivial, hdd _, (callsIn_wide.2 (ipots_any _)).mono ?_⟩
      rintro e w2 ⟨v, xs, rfl, jv⟩
      obtain ⟨pa, pcap, rfl, FP⟩ := jv.slice rfl
      have b3 : Below Z.heap.size Z w2 := e0.trans (jv.b.mono e0.size)
      have m2 := m0.below b3
      (try dsimp only)
      refine hK.out _ _ (KP.out _ (Touch.of b3)) ?_
      clear hK K jv
      refine wpAnyS_one (i := 2) (by kernel_rfl) rfl (fun K hK => ?_)
      go_simp
      refine ⟨trivial, hdd _, (callsIn_wide.2 (iput_any B 0 (.map []) [] pa 3 pcap way0.pots _ m2 MapIs.empty (by omega) rfl FP pot_fit (by omega))).mono ?_⟩
      rintro e w3 ⟨⟨v3, rfl⟩, t3, D3, m3, d3⟩
      rw [pots3_guards] at d3
      have p3 : Cel w3 (B + 1) [.map (some B)] 121 := (p0.below b3).touch t3 (fun h => by have : B + 1 = B := h; omega)
      have B3 : Below w.heap.size w w3 := (B2.trans (b3.mono B2.size)).trans (t3.below (B := w.heap.size) (Nat.le_trans B2.size b3.size) (fun k hk => by have : k = B := hk; omega))
      have s3 := t3.size
      (try dsimp only)
      refine hK.out _ _ (p3.cell 0) ?_
      clear hK K
      refine wpAnyS_done (by kernel_rfl) ?_ _
      have lp3 := p3.lt
      clear KP m0 p0 m2 FP t3 b3 e0 B2 lB0
      gi_wp2_with fail
      refine wpIn_loop (fun a' w' => ∃ (u5 u6 u20 u21 u22 u23 u24 u25 u26 u27 u28 u29 u30 : Value) (k : Nat) (Ds : List Nat) (D : DataW Unit) (m : Nat), k ≤ N ∧ OwnM w' B m D ∧ m ≤ 3 + 128000 * k ∧ MapIs D (actsP pots3 (ss.take k)) ∧ Cel w' (B + 1) [.map (some B)] 121 ∧ Below w.heap.size w w' ∧ MkOk w.heap.size Ds w' ∧ a' = { tmps := #[.slice ad N cap, undef, .slice none 0 0, .pointer (some ⟨B + 1, 0, none⟩), undef, u5, u6, undef, undef, undef, .slice ad N cap, .bool true, .bool false, .map (some B), .map (some B), .slice pa 3 pcap, v3, .slice ad N cap, .int .i64 N, .int .i64 (k : Int), u20, u21, u22, u23, u24, u25, u26, u27, u28, u29, u30, undef, undef, undef, undef, undef, undef, undef, undef, undef, undef, undef, undef, undef, undef], defers := MkDs Ds }) (fun a' _ => N - (intOf (a'.tmps.getD 19 undef)).toNat) ⟨undef, undef, undef, undef, undef, undef, undef, undef, undef, undef, undef, undef, undef, 0, [], D3, 3, by omega, m3, by omega, d3, p3, B3, MkOk.nil _ _, rfl⟩ ?_
      rintro a0 wr ⟨u5, u6, u20, u21, u22, u23, u24, u25, u26, u27, u28, u29, u30, k, Ds, D, m, hk, hm, hmb, hD, hp, hb, hmk, rfl⟩
      clear m3 d3 p3 B3 lp3 s3
      have HD : Hid (MapIs D (actsP pots3 (ss.take k))) := hD
      have HMK : Hid (MkOk w.heap.size Ds wr) := hmk
      have lp := hp.lt
      clear hD hmk
      by_cases hlt : k < N
      · have hlt' : (k : Int) < N := by omega
        have his : k < ss.length := by rw [HN.out]; exact hlt
        obtain ⟨ab, ao, rfl, hc, hLG⟩ := (HF.out.below hb) k his
        have HSA : Hid (∀ ps, ps = actsP pots3 (ss.take k) → rowsP ps (rowsL (ss[k]?.getD noL).x) = actsP pots3 (ss.take (k + 1))) := fun ps h => by rw [h, actsP_snoc _ _ _ his]
        have hsok : (ss[k]?.getD noL).ok = true := by
          rw [List.getElem?_eq_getElem his]
          exact List.all_eq_true.1 HALL.out _ (List.getElem_mem his)
        obtain ⟨s, hs⟩ : ∃ s, s = ss[k]?.getD noL := ⟨_, rfl⟩
        rw [← hs] at hc hLG HSA hsok
        obtain ⟨sa, sn, sc, sx⟩ := s
        have hAct : actB sn sx = true := hsok
        obtain ⟨hxl, hLin, hsn⟩ := hLG
        have hc' : wr.cell? ⟨ab, ao + k, none⟩ = some (.slice sa sn sc) := hc
        have HLIN : Hid (LinesG wr sa sx) := hLin
        clear hs hc hsok hLin
        obtain ⟨PS, hPS⟩ : ∃ PS, PS = actsP pots3 (ss.take k) := ⟨_, rfl⟩
        have HSA2 : Hid (rowsP PS (rowsL sx) = actsP pots3 (ss.take (k + 1))) := HSA.out PS hPS
        have HD' : Hid (MapIs D (rowsP PS [])) := by show MapIs _ _; rw [hPS]; exact HD.out
        clear HSA HD hPS
        gi_wp2_with fail
        refine ⟨trivial, hdd _, (callsIn_wide.2 (ithrough_any sa sn sc wr)).mono ?_⟩
        rintro e w4 ⟨Bc, rfl, b4, cB⟩
        have m4 := OwnM.below hm b4
        have p4 := hp.below b4
        have mk4 := HMK.out.below b4
        have s4 := b4.size
        have B4 : Below w.heap.size w w4 := hb.trans (b4.mono hb.size)
        have F4 := HLIN.out.below b4
        have sB := B4.size
        clear hm hp hb HMK hc'
        gi_wp2_with fail
        refine wpIn_rows (α := Value × RowM) (gf := 114) (lb := #[.pointer (some ⟨Bc, 0, none⟩)]) rfl (enters_of Try.func114 (by kernel_rfl) rfl) (encs := fun x => #[x.1]) (fun _ => rfl)
          (fun pre x X => pre.length < 128 ∧ RowFit x.2 ∧ RowX X w4.heap.size x.1 x.2) KpR (fun xs => xs.map Prod.snd = rowsL sx)
          (fun pre X => ∃ (D : DataW Unit) (m : Nat), OwnM X B m D ∧ m ≤ 3 + 128000 * k + 1000 * pre.length ∧ MapIs D (rowsP PS (pre.map Prod.snd)) ∧ Cel X (B + 1) [.map (some B)] 121 ∧ Below w.heap.size w X ∧ MkOk w.heap.size Ds X)
          (fun pre X Y h b => by
            obtain ⟨D, m, h1, h2, h3, h4, h5, h6⟩ := h
            exact ⟨D, m, OwnM.below h1 b, h2, h3, h4.below b, h5.trans (b.mono h5.size), h6.below b⟩)
          (fun pre X l r r' h hl lt => by
            obtain ⟨D, m, h1, h2, h3, h4, h5, h6⟩ := h
            exact ⟨D, m, OwnM.loop h1 hl, h2, h3, h4.loop hl, below_loop h5 (by omega), h6.loop hl⟩) KpR.loop (fun X Y Z => KpR.trans) ⟨D, m, m4, by simp; omega, HD'.out, p4, B4, mk4⟩ ?seq ?round ?done
        case seq =>
          intro l J W hJ hb2 hJ0 hY
          have ee0 : (#[.func (.yield l) #[] #[]] ++ #[.pointer (some ⟨Bc, 0, none⟩)] : Array Value) = #[.func (.yield l) #[] #[], .pointer (some ⟨Bc, 0, none⟩)] := rfl
          rw [ee0]
          refine (through_any l w4.heap.size (fun rs X => ∃ xs : List (Value × RowM), xs.map Prod.snd = rs ∧ J xs X) (fun rs X Y h b => ?_) (fun mm rs v r X h fit rx hlen => ?_) Bc sa sn sc sx W (n - 1) hxl (F4.below hb2) hsn hAct ((cB.below hb2).cell 0) hb2.size ⟨[], rfl, hJ0⟩).mono ?_
          · obtain ⟨xs, e, j⟩ := h
            exact ⟨xs, e, hJ _ _ _ j b⟩
          · obtain ⟨xs, e, j⟩ := h
            obtain ⟨fn, tmps, assign, body, hy, hR⟩ := hY mm xs (v, r) X j ⟨by rw [← e, List.length_map] at hlen; exact hlen, fit, rx⟩
            refine ⟨fn, tmps, assign, body, hy, hR.mono ?_⟩
            rintro e' Y ⟨a, b, c⟩
            exact ⟨a, ⟨xs ++ [(v, r)], by simp [e], b⟩, c⟩
          · rintro e Y ⟨h1, ⟨xs, e1, j⟩, _⟩
            exact ⟨h1, xs, e1, j⟩
        case round =>
          rintro mm l pre ⟨v, rm⟩ X r ⟨D1, m1, hO, hm1, hD1, hC, hB, hMk⟩ ⟨hlen, fit, rx⟩ hl hlt2
          dsimp only at fit rx
          obtain ⟨ga, gc, aa, ac, ta, tc, rfl, f0, f1, f2⟩ := rx
          dsimp only
          gi_wp2_with fail
          have bx : Below X.heap.size X (X.alloc (.cells #[.slice ga rm.guards.length gc, .slice aa rm.adds.length ac, .slice ta rm.tells.length tc, .bool rm.stop] 25)) := (Below.refl _ _).alloc (Nat.le_refl _) _
          have cx := Cel.new X [.slice ga rm.guards.length gc, .slice aa rm.adds.length ac, .slice ta rm.tells.length tc, .bool rm.stop] 25
          have hl1 := (bx.block l (lt_of_block hl)).trans hl
          refine ⟨keeps_below bx, KpR.of bx, ?_⟩
          have O1 : OwnM _ _ _ _ := OwnM.loop (o := .loop { r with state := .busy }) (OwnM.below hO bx) hl1
          have C1 := Cel.loop (r' := { r with state := .busy }) (hC.below bx) hl1
          have X1 := Cel.loop (r' := { r with state := .busy }) cx hl1
          have MK1 := MkOk.loop (o := .loop { r with state := .busy }) (hMk.below bx) hl1
          have k1 : KpR X _ := (KpR.of bx).trans (KpR.loop _ l r { r with state := .busy } hl1)
          have B1 := below_loop (r' := { r with state := .busy }) (hB.trans (bx.mono hB.size)) (l := l) (by omega)
          obtain ⟨Y, hY⟩ : ∃ Y, Y = (X.alloc (.cells #[.slice ga rm.guards.length gc, .slice aa rm.adds.length ac, .slice ta rm.tells.length tc, .bool rm.stop] 25)).putObj l (.loop { r with state := .busy }) := ⟨_, rfl⟩
          rw [← hY] at O1 C1 X1 k1 B1 MK1 ⊢
          clear hY
          have FG := f0.at.keepR k1
          have hc1 := C1.cell 0
          have hx1 := X1.cell 0
          have lB1 : B < w4.heap.size := m4.lt
          have lgg := fit.lg
          clear cx bx hl1 hO hC hB f0 f1 f2
          gi_wp2_with fail
          refine ⟨trivial, hdd _, CallsIn.mono (CallsIn.inRound l (callsIn_wide.2 (iput_any B m1 D1 _ ga rm.guards.length gc rm.guards Y O1 hD1 (by omega) rfl FG fit.g (by omega)))) ?_⟩
          rintro e Y1 ⟨⟨v1, rfl⟩, t1, D2, m2, d2⟩
          have C2 := cel_past C1 t1 (by omega)
          have MK2 := MK1.touch t1 (fun q hq o ho => by
            have : q = B := hq
            subst this
            obtain ⟨es, clock, hb⟩ := O1.obj
            rw [hb] at ho
            cases ho)
          clear hc1 hx1
          gi_wp2_with fail
          refine ⟨keeps_touch t1 (by omega), OwnM.kpR O1 t1, D2, _, m2, ?_, ?_, C2, below_touch B1 t1 (by omega), MK2⟩
          · rw [List.length_append, List.length_singleton]; omega
          · rw [List.map_append]
            have e2 : rowsP PS (pre.map Prod.snd ++ [rm]) = guardsP (rowsP PS (pre.map Prod.snd)) rm.guards := by simp [rowsP, List.foldl_append]
            exact e2 ▸ d2
        case done =>
          rintro DD xs W hDD hS ⟨D1, m1, hO, hm1, hD1, hC, hB, hMk⟩ hK
          rw [hS] at hD1
          have hxl2 : xs.length ≤ 128 := by
            have := congrArg List.length hS
            rw [List.length_map] at this
            rw [this]; exact goW_128 (by omega)
          have MK3 : MkOk w.heap.size (DD :: Ds) W := by
            refine ⟨fun D' hD' => ?_, List.nodup_cons.2 ⟨fun hin => ?_, hMk.n⟩, fun D' hD' => ?_⟩
            · rcases List.mem_cons.1 hD' with rfl | h
              · exact hK
              · exact hMk.b D' h
            · have := lt_of_block (mk4.b DD hin)
              omega
            · rcases List.mem_cons.1 hD' with rfl | h
              · omega
              · exact hMk.l D' h
          have HD1 : Hid (MapIs D1 (actsP pots3 (ss.take (k + 1)))) := by show MapIs _ _; rw [← HSA2.out]; exact hD1
          clear hD1 hMk hK
          gi_wp2
          refine ⟨⟨_, _, _, _, _, _, _, _, _, _, _, _, _, k + 1, DD :: Ds, D1, m1, by omega, hO, by omega, HD1.out, hC, hB, MK3, rfl⟩, ?_⟩
          simp [intOf]; omega
      · obtain rfl : k = N := by omega
        have hall : ss.take k = ss := List.take_of_length_le (by rw [HN.out]; exact Nat.le_refl _)
        obtain ⟨ps, hps⟩ : ∃ ps, ps = catP ss := ⟨_, rfl⟩
        have HPS : Hid (ps = catP ss) := hps
        have HDP : Hid (MapIs D ps) := by show MapIs _ _; rw [hps, catP, ← hall]; rw [hall]; have := HD.out; rw [hall] at this; exact this
        have hlen : ps.length ≤ 600000 := by
          have h1 := HDP.out.sz
          have h2 := hm.size_le
          omega
        clear HD hall hps
        have hpc := hp.cell 0
        gi_wp2_with fail
        refine ⟨trivial, hdd _, (callsIn_wide.2 (iorder_any B m D ps wr hm HDP.out (by omega))).mono ?_⟩
        rintro e w5 ⟨L, cur, rfl, b5, lL, c5, hKA⟩
        have HKA : Hid (∀ j, j < ps.length → KeyAt cur j (ps[j]?.getD [])) := hKA
        have HWF : Hid (∀ j, j < ps.length → (ps[j]?.getD []).length = 3) := fun j hj => (HDP.out.wf _ (by rw [List.getElem?_eq_getElem hj]; exact List.getElem_mem hj)).1
        have mk5 := HMK.out.below b5
        have B5 := hb.trans (b5.mono hb.size)
        have lL0 : w.heap.size ≤ L := Nat.le_trans hb.size lL
        obtain ⟨M, hM⟩ : ∃ M, M = ps.length := ⟨_, rfl⟩
        have HM : Hid (M = ps.length) := hM
        rw [← hM] at hlen ⊢
        have j5 : JO w (.slice none 0 0) [] (fun _ => 0) w5 := JO.nil w w5 B5 _
        clear hKA hM hm hp hb HMK b5 HDP hpc
        gi_wp2_with fail
        gi_loopw [7, 9, 34] (fun v _ i wr => ∃ (j : Nat) (ts : List IV) (bs : Nat → Nat), j ≤ M ∧ i = .int .i64 j ∧ ts.length = j ∧ JO w v ts bs wr ∧ ts.map IV.x = ps.take j ∧ Cel wr L cur KT ∧ MkOk w.heap.size Ds wr) (fun _ _ i _ => M - (intOf i).toNat)
        case atStart => exact ⟨0, [], fun _ => 0, Nat.zero_le _, rfl, rfl, j5, rfl, c5, mk5⟩
        case round =>
          clear j5 c5 mk5 B5 lL
          obtain ⟨j, ts, bs, hj, rfl, htl, jo, hx, hc, hmk⟩ := hrel
          have HTL : Hid (ts.length = j) := htl
          have HX : Hid (ts.map IV.x = ps.take j) := hx
          have HMK : Hid (MkOk w.heap.size Ds wr) := hmk
          clear htl hx hmk
          by_cases hlt2 : j < M
          · have hlt2' : (j : Int) < M := by omega
            have hjp : j < ps.length := by have := HM.out; omega
            obtain ⟨k0, k1, k2⟩ := HKA.out j hjp
            have c0 := (hc.cell _).trans k0
            have c1 := (hc.cell _).trans k1
            have c2 := (hc.cell _).trans k2
            have h3 := HWF.out j hjp
            have HXS : Hid (ps.take (j + 1) = ps.take j ++ [ps[j]?.getD []]) := by
              show _ = _
              rw [List.take_succ_eq_append_getElem hjp, List.getElem?_eq_getElem hjp]; rfl
            obtain ⟨p, hp⟩ : ∃ p, p = ps[j]?.getD [] := ⟨_, rfl⟩
            rw [← hp] at c0 c1 c2 h3 HXS
            have HP3 : Hid (p = [p[0]?.getD 0, p[1]?.getD 0, p[2]?.getD 0]) := three_eq h3
            have Hlen3 : Hid (p.length = 3) := h3
            generalize hx0 : p[0]?.getD 0 = x0 at *
            generalize hx1 : p[1]?.getD 0 = x1 at *
            generalize hx2 : p[2]?.getD 0 = x2 at *
            have bx : Below wr.heap.size wr (wr.alloc (.cells #[.int .i64 x0, .int .i64 x1, .int .i64 x2] KT)) := (Below.refl _ _).alloc (Nat.le_refl _) _
            have cx := Cel.new wr [.int .i64 x0, .int .i64 x1, .int .i64 x2] KT
            have ix : Ints (wr.alloc (.cells #[.int .i64 x0, .int .i64 x1, .int .i64 x2] KT)) (some ⟨wr.heap.size, 0, none⟩) 3 p := by
              rw [HP3.out]
              refine ⟨rfl, fun i hi => ⟨wr.heap.size, 0, rfl, ?_⟩⟩
              rw [Nat.zero_add, cx.cell i]
              match i, hi with
              | 0, _ => rfl
              | 1, _ => rfl
              | 2, _ => rfl
            clear hx0 hx1 hx2 hp h3 k0 k1 k2
            gi_wp2_with fail
            refine ⟨trivial, hdd _, (callsIn_wide.2 (clone_any _ 3 3 p _ ix (by omega) (by omega))).mono ?_⟩
            rintro e w6 ⟨v6, rfl, jA⟩
            obtain ⟨aA, cA, A, rfl, oA, gA⟩ := jA.ownx Hlen3.out
            have lA := gA (by omega)
            rw [World.size_alloc] at lA
            have b6 : Below wr.heap.size wr w6 := bx.trans (jA.b.mono (by rw [World.size_alloc]; omega))
            have jo6 := jo.below b6
            have hc6 := hc.below b6
            have mk6 := HMK.out.below b6
            have s6 := b6.size
            have sw := jo.b.size
            have HBS : Hid (∀ i, i < j → bs i < A) := fun i hi => by
              obtain ⟨_, h1, _, _⟩ := jo.k i (by rw [HTL.out]; exact hi)
              have := h1.lt (by omega)
              omega
            have HNE : Hid (some A ≠ u7.ownBlock) := fun e => by
              obtain ⟨_, cc, hh⟩ := jo.blk e.symm
              have := lt_of_block hh
              omega
            have jow := jo6.o
            rw [HTL.out] at jow
            clear jo hc HMK jA gA b6 bx cx ix c0 c1 c2
            obtain ⟨i0, hi0, hz0, hz1, hz2⟩ := info_parts Try.infoI
            gi_wp2_with (gi_at_builtin; go_must (refine wpListIn_append_own_at _ rfl (.tmp 38) (.tmp 41) 46 rfl w.heap.size 26 i0 _ 1 24 Try.underlying46 hi0 hz0 hz1 hz2 rfl (by decide) _ _ _ rfl (jow.alloc _) ⟨w6.heap.size, 0, none⟩ 1 1 [.slice aA 3 cA] rfl rfl (news1 w6 _ _) oneSl (by unfold maxLen; omega) (by omega) (by rw [World.size_alloc]; omega) ?_); intro v7 w7 hown hgrow hnil hat)
            have jo7 := jo6.app (s := ⟨aA, 3, cA, p⟩) HTL.out rfl oA (by omega) HBS.out HNE.out hown hgrow hat
            have hc7 := hc6.grownKT jo6 hgrow
            have mk7 := mk6.grown jo6 hgrow
            have HX7 : Hid ((ts ++ [(⟨aA, 3, cA, p⟩ : IV)]).map IV.x = ps.take (j + 1)) := by
              show _ = _
              rw [List.map_append, HX.out, HXS.out]; rfl
            have HT7 : Hid ((ts ++ [(⟨aA, 3, cA, p⟩ : IV)]).length = j + 1) := by show _ = _; rw [List.length_append, HTL.out]; rfl
            clear hown hgrow hnil hat jow jo6 hc6 mk6 oA HBS HNE
            gi_wp2
            go_roundw
            case rel => exact ⟨j + 1, _, _, by omega, by go_num, HT7.out, jo7, HX7.out, hc7, mk7⟩
            case measure => simp [intOf]; omega
          · obtain rfl : j = M := by omega
            have HXE : Hid (ts.map IV.x = catP ss) := by
              show _ = _
              rw [HX.out, List.take_of_length_le (by have := HM.out; omega), HPS.out]
            have HLE : Hid (ts.length = (catP ss).length) := by
              show _ = _
              rw [← HXE.out, List.length_map]
            gi_wp2
            refine leaves_marks (v := u7) (fun W' => by simp [results, Try.results38, go_sem]) Ds _ HMK.out.b HMK.out.n (fun W' t => ?_)
            have jo' := jo.past t (fun q hq => ⟨HMK.out.l q hq, fun cs ty fr h => by rw [HMK.out.b q hq] at h; cases h⟩)
            have hpos := catP_pos ss
            have hle := HLE.out
            rcases jo'.o.2 with ⟨_, h0⟩ | ⟨g, cap', cur', hv, _, _⟩
            · omega
            · rw [hle] at hv
              subst hv
              exact ⟨jo'.b, .inr ⟨HU.out, g, cap', ts, bs, rfl, HXE.out, jo'⟩⟩
    · go_simp
      refine ⟨trivial, hdd _, (callsIn_wide.2 (ipots_any _)).mono ?_⟩
      rintro e w2 ⟨v, xs, rfl, jv⟩
      obtain ⟨pa, pcap, rfl, FP⟩ := jv.slice rfl
      have b3 : Below Z.heap.size Z w2 := e0.trans (jv.b.mono e0.size)
      have m2 := m0.below b3
      (try dsimp only)
      refine hK.out _ _ (KP.out _ (Touch.of b3)) ?_
      clear hK K jv
      have hS2 := KP.out _ (Touch.of b3)
      refine wpAnyS_one (i := 0) (by kernel_rfl) rfl (fun K hK => ?_)
      go_simp
      refine hK.out _ _ hS2 ?_
      clear hK K
      refine wpAnyS_one (i := 2) (by kernel_rfl) rfl (fun K hK => ?_)
      go_simp
      refine ⟨trivial, hdd _, (callsIn_wide.2 (iput_any B 0 (.map []) [] pa 3 pcap way0.pots _ m2 MapIs.empty (by omega) rfl FP pot_fit (by omega))).mono ?_⟩
      rintro e w3 ⟨⟨v3, rfl⟩, t3, D3, m3, d3⟩
      rw [pots3_guards] at d3
      have p3 : Cel w3 (B + 1) [.map (some B)] 121 := (p0.below b3).touch t3 (fun h => by have : B + 1 = B := h; omega)
      have B3 : Below w.heap.size w w3 := (B2.trans (b3.mono B2.size)).trans (t3.below (B := w.heap.size) (Nat.le_trans B2.size b3.size) (fun k hk => by have : k = B := hk; omega))
      have s3 := t3.size
      (try dsimp only)
      refine hK.out _ _ (p3.cell 0) ?_
      clear hK K
      refine wpAnyS_done (by kernel_rfl) ?_ _
      have lp3 := p3.lt
      clear KP m0 p0 m2 FP t3 b3 e0 B2 lB0
      gi_wp2_with fail
      refine wpIn_loop (fun a' w' => ∃ (u5 u6 u20 u21 u22 u23 u24 u25 u26 u27 u28 u29 u30 : Value) (k : Nat) (Ds : List Nat) (D : DataW Unit) (m : Nat), k ≤ N ∧ OwnM w' B m D ∧ m ≤ 3 + 128000 * k ∧ MapIs D (actsP pots3 (ss.take k)) ∧ Cel w' (B + 1) [.map (some B)] 121 ∧ Below w.heap.size w w' ∧ MkOk w.heap.size Ds w' ∧ a' = { tmps := #[.slice ad N cap, undef, .slice none 0 0, .pointer (some ⟨B + 1, 0, none⟩), undef, u5, u6, undef, undef, undef, .slice ad N cap, .bool true, .bool false, .map (some B), .map (some B), .slice pa 3 pcap, v3, .slice ad N cap, .int .i64 N, .int .i64 (k : Int), u20, u21, u22, u23, u24, u25, u26, u27, u28, u29, u30, undef, undef, undef, undef, undef, undef, undef, undef, undef, undef, undef, undef, undef, undef], defers := MkDs Ds }) (fun a' _ => N - (intOf (a'.tmps.getD 19 undef)).toNat) ⟨undef, undef, undef, undef, undef, undef, undef, undef, undef, undef, undef, undef, undef, 0, [], D3, 3, by omega, m3, by omega, d3, p3, B3, MkOk.nil _ _, rfl⟩ ?_
      rintro a0 wr ⟨u5, u6, u20, u21, u22, u23, u24, u25, u26, u27, u28, u29, u30, k, Ds, D, m, hk, hm, hmb, hD, hp, hb, hmk, rfl⟩
      clear m3 d3 p3 B3 lp3 s3
      have HD : Hid (MapIs D (actsP pots3 (ss.take k))) := hD
      have HMK : Hid (MkOk w.heap.size Ds wr) := hmk
      have lp := hp.lt
      clear hD hmk
      by_cases hlt : k < N
      · have hlt' : (k : Int) < N := by omega
        have his : k < ss.length := by rw [HN.out]; exact hlt
        obtain ⟨ab, ao, rfl, hc, hLG⟩ := (HF.out.below hb) k his
        have HSA : Hid (∀ ps, ps = actsP pots3 (ss.take k) → rowsP ps (rowsL (ss[k]?.getD noL).x) = actsP pots3 (ss.take (k + 1))) := fun ps h => by rw [h, actsP_snoc _ _ _ his]
        have hsok : (ss[k]?.getD noL).ok = true := by
          rw [List.getElem?_eq_getElem his]
          exact List.all_eq_true.1 HALL.out _ (List.getElem_mem his)
        obtain ⟨s, hs⟩ : ∃ s, s = ss[k]?.getD noL := ⟨_, rfl⟩
        rw [← hs] at hc hLG HSA hsok
        obtain ⟨sa, sn, sc, sx⟩ := s
        have hAct : actB sn sx = true := hsok
        obtain ⟨hxl, hLin, hsn⟩ := hLG
        have hc' : wr.cell? ⟨ab, ao + k, none⟩ = some (.slice sa sn sc) := hc
        have HLIN : Hid (LinesG wr sa sx) := hLin
        clear hs hc hsok hLin
        obtain ⟨PS, hPS⟩ : ∃ PS, PS = actsP pots3 (ss.take k) := ⟨_, rfl⟩
        have HSA2 : Hid (rowsP PS (rowsL sx) = actsP pots3 (ss.take (k + 1))) := HSA.out PS hPS
        have HD' : Hid (MapIs D (rowsP PS [])) := by show MapIs _ _; rw [hPS]; exact HD.out
        clear HSA HD hPS
        gi_wp2_with fail
        refine ⟨trivial, hdd _, (callsIn_wide.2 (ithrough_any sa sn sc wr)).mono ?_⟩
        rintro e w4 ⟨Bc, rfl, b4, cB⟩
        have m4 := OwnM.below hm b4
        have p4 := hp.below b4
        have mk4 := HMK.out.below b4
        have s4 := b4.size
        have B4 : Below w.heap.size w w4 := hb.trans (b4.mono hb.size)
        have F4 := HLIN.out.below b4
        have sB := B4.size
        clear hm hp hb HMK hc'
        gi_wp2_with fail
        refine wpIn_rows (α := Value × RowM) (gf := 114) (lb := #[.pointer (some ⟨Bc, 0, none⟩)]) rfl (enters_of Try.func114 (by kernel_rfl) rfl) (encs := fun x => #[x.1]) (fun _ => rfl)
          (fun pre x X => pre.length < 128 ∧ RowFit x.2 ∧ RowX X w4.heap.size x.1 x.2) KpR (fun xs => xs.map Prod.snd = rowsL sx)
          (fun pre X => ∃ (D : DataW Unit) (m : Nat), OwnM X B m D ∧ m ≤ 3 + 128000 * k + 1000 * pre.length ∧ MapIs D (rowsP PS (pre.map Prod.snd)) ∧ Cel X (B + 1) [.map (some B)] 121 ∧ Below w.heap.size w X ∧ MkOk w.heap.size Ds X)
          (fun pre X Y h b => by
            obtain ⟨D, m, h1, h2, h3, h4, h5, h6⟩ := h
            exact ⟨D, m, OwnM.below h1 b, h2, h3, h4.below b, h5.trans (b.mono h5.size), h6.below b⟩)
          (fun pre X l r r' h hl lt => by
            obtain ⟨D, m, h1, h2, h3, h4, h5, h6⟩ := h
            exact ⟨D, m, OwnM.loop h1 hl, h2, h3, h4.loop hl, below_loop h5 (by omega), h6.loop hl⟩) KpR.loop (fun X Y Z => KpR.trans) ⟨D, m, m4, by simp; omega, HD'.out, p4, B4, mk4⟩ ?seq ?round ?done
        case seq =>
          intro l J W hJ hb2 hJ0 hY
          have ee0 : (#[.func (.yield l) #[] #[]] ++ #[.pointer (some ⟨Bc, 0, none⟩)] : Array Value) = #[.func (.yield l) #[] #[], .pointer (some ⟨Bc, 0, none⟩)] := rfl
          rw [ee0]
          refine (through_any l w4.heap.size (fun rs X => ∃ xs : List (Value × RowM), xs.map Prod.snd = rs ∧ J xs X) (fun rs X Y h b => ?_) (fun mm rs v r X h fit rx hlen => ?_) Bc sa sn sc sx W (n - 1) hxl (F4.below hb2) hsn hAct ((cB.below hb2).cell 0) hb2.size ⟨[], rfl, hJ0⟩).mono ?_
          · obtain ⟨xs, e, j⟩ := h
            exact ⟨xs, e, hJ _ _ _ j b⟩
          · obtain ⟨xs, e, j⟩ := h
            obtain ⟨fn, tmps, assign, body, hy, hR⟩ := hY mm xs (v, r) X j ⟨by rw [← e, List.length_map] at hlen; exact hlen, fit, rx⟩
            refine ⟨fn, tmps, assign, body, hy, hR.mono ?_⟩
            rintro e' Y ⟨a, b, c⟩
            exact ⟨a, ⟨xs ++ [(v, r)], by simp [e], b⟩, c⟩
          · rintro e Y ⟨h1, ⟨xs, e1, j⟩, _⟩
            exact ⟨h1, xs, e1, j⟩
        case round =>
          rintro mm l pre ⟨v, rm⟩ X r ⟨D1, m1, hO, hm1, hD1, hC, hB, hMk⟩ ⟨hlen, fit, rx⟩ hl hlt2
          dsimp only at fit rx
          obtain ⟨ga, gc, aa, ac, ta, tc, rfl, f0, f1, f2⟩ := rx
          dsimp only
          gi_wp2_with fail
          have bx : Below X.heap.size X (X.alloc (.cells #[.slice ga rm.guards.length gc, .slice aa rm.adds.length ac, .slice ta rm.tells.length tc, .bool rm.stop] 25)) := (Below.refl _ _).alloc (Nat.le_refl _) _
          have cx := Cel.new X [.slice ga rm.guards.length gc, .slice aa rm.adds.length ac, .slice ta rm.tells.length tc, .bool rm.stop] 25
          have hl1 := (bx.block l (lt_of_block hl)).trans hl
          refine ⟨keeps_below bx, KpR.of bx, ?_⟩
          have O1 : OwnM _ _ _ _ := OwnM.loop (o := .loop { r with state := .busy }) (OwnM.below hO bx) hl1
          have C1 := Cel.loop (r' := { r with state := .busy }) (hC.below bx) hl1
          have X1 := Cel.loop (r' := { r with state := .busy }) cx hl1
          have MK1 := MkOk.loop (o := .loop { r with state := .busy }) (hMk.below bx) hl1
          have k1 : KpR X _ := (KpR.of bx).trans (KpR.loop _ l r { r with state := .busy } hl1)
          have B1 := below_loop (r' := { r with state := .busy }) (hB.trans (bx.mono hB.size)) (l := l) (by omega)
          obtain ⟨Y, hY⟩ : ∃ Y, Y = (X.alloc (.cells #[.slice ga rm.guards.length gc, .slice aa rm.adds.length ac, .slice ta rm.tells.length tc, .bool rm.stop] 25)).putObj l (.loop { r with state := .busy }) := ⟨_, rfl⟩
          rw [← hY] at O1 C1 X1 k1 B1 MK1 ⊢
          clear hY
          have FG := f0.at.keepR k1
          have hc1 := C1.cell 0
          have hx1 := X1.cell 0
          have lB1 : B < w4.heap.size := m4.lt
          have lgg := fit.lg
          clear cx bx hl1 hO hC hB f0 f1 f2
          gi_wp2_with fail
          refine ⟨trivial, hdd _, CallsIn.mono (CallsIn.inRound l (callsIn_wide.2 (iput_any B m1 D1 _ ga rm.guards.length gc rm.guards Y O1 hD1 (by omega) rfl FG fit.g (by omega)))) ?_⟩
          rintro e Y1 ⟨⟨v1, rfl⟩, t1, D2, m2, d2⟩
          have C2 := cel_past C1 t1 (by omega)
          have MK2 := MK1.touch t1 (fun q hq o ho => by
            have : q = B := hq
            subst this
            obtain ⟨es, clock, hb⟩ := O1.obj
            rw [hb] at ho
            cases ho)
          clear hc1 hx1
          gi_wp2_with fail
          refine ⟨keeps_touch t1 (by omega), OwnM.kpR O1 t1, D2, _, m2, ?_, ?_, C2, below_touch B1 t1 (by omega), MK2⟩
          · rw [List.length_append, List.length_singleton]; omega
          · rw [List.map_append]
            have e2 : rowsP PS (pre.map Prod.snd ++ [rm]) = guardsP (rowsP PS (pre.map Prod.snd)) rm.guards := by simp [rowsP, List.foldl_append]
            exact e2 ▸ d2
        case done =>
          rintro DD xs W hDD hS ⟨D1, m1, hO, hm1, hD1, hC, hB, hMk⟩ hK
          rw [hS] at hD1
          have hxl2 : xs.length ≤ 128 := by
            have := congrArg List.length hS
            rw [List.length_map] at this
            rw [this]; exact goW_128 (by omega)
          have MK3 : MkOk w.heap.size (DD :: Ds) W := by
            refine ⟨fun D' hD' => ?_, List.nodup_cons.2 ⟨fun hin => ?_, hMk.n⟩, fun D' hD' => ?_⟩
            · rcases List.mem_cons.1 hD' with rfl | h
              · exact hK
              · exact hMk.b D' h
            · have := lt_of_block (mk4.b DD hin)
              omega
            · rcases List.mem_cons.1 hD' with rfl | h
              · omega
              · exact hMk.l D' h
          have HD1 : Hid (MapIs D1 (actsP pots3 (ss.take (k + 1)))) := by show MapIs _ _; rw [← HSA2.out]; exact hD1
          clear hD1 hMk hK
          gi_wp2
          refine ⟨⟨_, _, _, _, _, _, _, _, _, _, _, _, _, k + 1, DD :: Ds, D1, m1, by omega, hO, by omega, HD1.out, hC, hB, MK3, rfl⟩, ?_⟩
          simp [intOf]; omega
      · obtain rfl : k = N := by omega
        have hall : ss.take k = ss := List.take_of_length_le (by rw [HN.out]; exact Nat.le_refl _)
        obtain ⟨ps, hps⟩ : ∃ ps, ps = catP ss := ⟨_, rfl⟩
        have HPS : Hid (ps = catP ss) := hps
        have HDP : Hid (MapIs D ps) := by show MapIs _ _; rw [hps, catP, ← hall]; rw [hall]; have := HD.out; rw [hall] at this; exact this
        have hlen : ps.length ≤ 600000 := by
          have h1 := HDP.out.sz
          have h2 := hm.size_le
          omega
        clear HD hall hps
        have hpc := hp.cell 0
        gi_wp2_with fail
        refine ⟨trivial, hdd _, (callsIn_wide.2 (iorder_any B m D ps wr hm HDP.out (by omega))).mono ?_⟩
        rintro e w5 ⟨L, cur, rfl, b5, lL, c5, hKA⟩
        have HKA : Hid (∀ j, j < ps.length → KeyAt cur j (ps[j]?.getD [])) := hKA
        have HWF : Hid (∀ j, j < ps.length → (ps[j]?.getD []).length = 3) := fun j hj => (HDP.out.wf _ (by rw [List.getElem?_eq_getElem hj]; exact List.getElem_mem hj)).1
        have mk5 := HMK.out.below b5
        have B5 := hb.trans (b5.mono hb.size)
        have lL0 : w.heap.size ≤ L := Nat.le_trans hb.size lL
        obtain ⟨M, hM⟩ : ∃ M, M = ps.length := ⟨_, rfl⟩
        have HM : Hid (M = ps.length) := hM
        rw [← hM] at hlen ⊢
        have j5 : JO w (.slice none 0 0) [] (fun _ => 0) w5 := JO.nil w w5 B5 _
        clear hKA hM hm hp hb HMK b5 HDP hpc
        gi_wp2_with fail
        gi_loopw [7, 9, 34] (fun v _ i wr => ∃ (j : Nat) (ts : List IV) (bs : Nat → Nat), j ≤ M ∧ i = .int .i64 j ∧ ts.length = j ∧ JO w v ts bs wr ∧ ts.map IV.x = ps.take j ∧ Cel wr L cur KT ∧ MkOk w.heap.size Ds wr) (fun _ _ i _ => M - (intOf i).toNat)
        case atStart => exact ⟨0, [], fun _ => 0, Nat.zero_le _, rfl, rfl, j5, rfl, c5, mk5⟩
        case round =>
          clear j5 c5 mk5 B5 lL
          obtain ⟨j, ts, bs, hj, rfl, htl, jo, hx, hc, hmk⟩ := hrel
          have HTL : Hid (ts.length = j) := htl
          have HX : Hid (ts.map IV.x = ps.take j) := hx
          have HMK : Hid (MkOk w.heap.size Ds wr) := hmk
          clear htl hx hmk
          by_cases hlt2 : j < M
          · have hlt2' : (j : Int) < M := by omega
            have hjp : j < ps.length := by have := HM.out; omega
            obtain ⟨k0, k1, k2⟩ := HKA.out j hjp
            have c0 := (hc.cell _).trans k0
            have c1 := (hc.cell _).trans k1
            have c2 := (hc.cell _).trans k2
            have h3 := HWF.out j hjp
            have HXS : Hid (ps.take (j + 1) = ps.take j ++ [ps[j]?.getD []]) := by
              show _ = _
              rw [List.take_succ_eq_append_getElem hjp, List.getElem?_eq_getElem hjp]; rfl
            obtain ⟨p, hp⟩ : ∃ p, p = ps[j]?.getD [] := ⟨_, rfl⟩
            rw [← hp] at c0 c1 c2 h3 HXS
            have HP3 : Hid (p = [p[0]?.getD 0, p[1]?.getD 0, p[2]?.getD 0]) := three_eq h3
            have Hlen3 : Hid (p.length = 3) := h3
            generalize hx0 : p[0]?.getD 0 = x0 at *
            generalize hx1 : p[1]?.getD 0 = x1 at *
            generalize hx2 : p[2]?.getD 0 = x2 at *
            have bx : Below wr.heap.size wr (wr.alloc (.cells #[.int .i64 x0, .int .i64 x1, .int .i64 x2] KT)) := (Below.refl _ _).alloc (Nat.le_refl _) _
            have cx := Cel.new wr [.int .i64 x0, .int .i64 x1, .int .i64 x2] KT
            have ix : Ints (wr.alloc (.cells #[.int .i64 x0, .int .i64 x1, .int .i64 x2] KT)) (some ⟨wr.heap.size, 0, none⟩) 3 p := by
              rw [HP3.out]
              refine ⟨rfl, fun i hi => ⟨wr.heap.size, 0, rfl, ?_⟩⟩
              rw [Nat.zero_add, cx.cell i]
              match i, hi with
              | 0, _ => rfl
              | 1, _ => rfl
              | 2, _ => rfl
            clear hx0 hx1 hx2 hp h3 k0 k1 k2
            gi_wp2_with fail
            refine ⟨trivial, hdd _, (callsIn_wide.2 (clone_any _ 3 3 p _ ix (by omega) (by omega))).mono ?_⟩
            rintro e w6 ⟨v6, rfl, jA⟩
            obtain ⟨aA, cA, A, rfl, oA, gA⟩ := jA.ownx Hlen3.out
            have lA := gA (by omega)
            rw [World.size_alloc] at lA
            have b6 : Below wr.heap.size wr w6 := bx.trans (jA.b.mono (by rw [World.size_alloc]; omega))
            have jo6 := jo.below b6
            have hc6 := hc.below b6
            have mk6 := HMK.out.below b6
            have s6 := b6.size
            have sw := jo.b.size
            have HBS : Hid (∀ i, i < j → bs i < A) := fun i hi => by
              obtain ⟨_, h1, _, _⟩ := jo.k i (by rw [HTL.out]; exact hi)
              have := h1.lt (by omega)
              omega
            have HNE : Hid (some A ≠ u7.ownBlock) := fun e => by
              obtain ⟨_, cc, hh⟩ := jo.blk e.symm
              have := lt_of_block hh
              omega
            have jow := jo6.o
            rw [HTL.out] at jow
            clear jo hc HMK jA gA b6 bx cx ix c0 c1 c2
            obtain ⟨i0, hi0, hz0, hz1, hz2⟩ := info_parts Try.infoI
            gi_wp2_with (gi_at_builtin; go_must (refine wpListIn_append_own_at _ rfl (.tmp 38) (.tmp 41) 46 rfl w.heap.size 26 i0 _ 1 24 Try.underlying46 hi0 hz0 hz1 hz2 rfl (by decide) _ _ _ rfl (jow.alloc _) ⟨w6.heap.size, 0, none⟩ 1 1 [.slice aA 3 cA] rfl rfl (news1 w6 _ _) oneSl (by unfold maxLen; omega) (by omega) (by rw [World.size_alloc]; omega) ?_); intro v7 w7 hown hgrow hnil hat)
            have jo7 := jo6.app (s := ⟨aA, 3, cA, p⟩) HTL.out rfl oA (by omega) HBS.out HNE.out hown hgrow hat
            have hc7 := hc6.grownKT jo6 hgrow
            have mk7 := mk6.grown jo6 hgrow
            have HX7 : Hid ((ts ++ [(⟨aA, 3, cA, p⟩ : IV)]).map IV.x = ps.take (j + 1)) := by
              show _ = _
              rw [List.map_append, HX.out, HXS.out]; rfl
            have HT7 : Hid ((ts ++ [(⟨aA, 3, cA, p⟩ : IV)]).length = j + 1) := by show _ = _; rw [List.length_append, HTL.out]; rfl
            clear hown hgrow hnil hat jow jo6 hc6 mk6 oA HBS HNE
            gi_wp2
            go_roundw
            case rel => exact ⟨j + 1, _, _, by omega, by go_num, HT7.out, jo7, HX7.out, hc7, mk7⟩
            case measure => simp [intOf]; omega
          · obtain rfl : j = M := by omega
            have HXE : Hid (ts.map IV.x = catP ss) := by
              show _ = _
              rw [HX.out, List.take_of_length_le (by have := HM.out; omega), HPS.out]
            have HLE : Hid (ts.length = (catP ss).length) := by
              show _ = _
              rw [← HXE.out, List.length_map]
            gi_wp2
            refine leaves_marks (v := u7) (fun W' => by simp [results, Try.results38, go_sem]) Ds _ HMK.out.b HMK.out.n (fun W' t => ?_)
            have jo' := jo.past t (fun q hq => ⟨HMK.out.l q hq, fun cs ty fr h => by rw [HMK.out.b q hq] at h; cases h⟩)
            have hpos := catP_pos ss
            have hle := HLE.out
            rcases jo'.o.2 with ⟨_, h0⟩ | ⟨g, cap', cur', hv, _, _⟩
            · omega
            · rw [hle] at hv
              subst hv
              exact ⟨jo'.b, .inr ⟨HU.out, g, cap', ts, bs, rfl, HXE.out, jo'⟩⟩

theorem icatforms_any (ad : Option Addr) (N cap : Nat) (ss : List L2V) (w : World) (hN : ss.length = N) (hF : LSG w ad ss) (hN1 : N ≤ 1048576) :
    Calls Try.prog 38 #[.slice ad N cap] w fun e w' => Below w.heap.size w w' ∧ ((catB N ss = false ∧ e = .returned (.slice none 0 0)) ∨ (catB N ss = true ∧ ∃ G cG ts bs, e = .returned (.slice (some ⟨G, 0, none⟩) (catP ss).length cG) ∧ ts.map IV.x = catP ss ∧ JO w (.slice (some ⟨G, 0, none⟩) (catP ss).length cG) ts bs w')) :=
  callsIn_wide.1 (icatforms_in ad N cap ss w 0 hN hF hN1)

end Go.Proofs.Ytjggppnffkcmbaa
namespace Go.Proofs.Ytjggppnffkcmbaa
open Go.RowKit
set_option linter.unusedVariables false
set_option maxRecDepth 100000

/-- Parts in blocks of their own. -/
structure SL (W : World) (a : Option Addr) (G n : Nat) (ts : List IV) (bs : Nat → Nat) (f : Nat → List Int) : Prop where
  c : ∀ j, j < n → a = some ⟨G, 0, none⟩ ∧ W.cell? ⟨G, j, none⟩ = some (.slice (ts[j]?.getD noI).a 3 (ts[j]?.getD noI).cap) ∧ OwnX W (ts[j]?.getD noI).a (bs j) 3 (f j) ∧ bs j ≠ G
  d : ∀ i j, i < j → j < n → bs i < bs j
theorem SL.touch {S : Nat → Prop} {W W' : World} {a : Option Addr} {G n : Nat} {ts : List IV} {bs : Nat → Nat} {f : Nat → List Int} (h : SL W a G n ts bs f) (t : Touch S W W') (hG : 0 < n → ¬ S G) (hb : ∀ j, j < n → ¬ S (bs j)) : SL W' a G n ts bs f :=
  ⟨fun j hj => by
    obtain ⟨h1, h2, h3, h4⟩ := h.c j hj
    refine ⟨h1, ?_, h3.touch t (fun _ => hb j hj), h4⟩
    rw [World.cell?_of_block (t.block G (block_lt h2) (hG (by omega)))]; exact h2, h.d⟩
theorem SL.below {W W' : World} {a : Option Addr} {G n : Nat} {ts : List IV} {bs : Nat → Nat} {f : Nat → List Int} (h : SL W a G n ts bs f) (b : Below W.heap.size W W') : SL W' a G n ts bs f := h.touch (S := fun _ => False) (Touch.of b) (fun _ h => h) (fun _ _ h => h)
theorem SL.ext {W : World} {a : Option Addr} {G n : Nat} {ts : List IV} {bs : Nat → Nat} {f g : Nat → List Int} (h : SL W a G n ts bs f) (e : ∀ j, j < n → f j = g j) : SL W a G n ts bs g := ⟨fun j hj => by rw [← e j hj]; exact h.c j hj, h.d⟩
theorem SL.none (W : World) (a : Option Addr) (G : Nat) (ts : List IV) (bs : Nat → Nat) (f : Nat → List Int) : SL W a G 0 ts bs f := ⟨fun j hj => by omega, fun i j _ hj => by omega⟩
theorem JO.sl {w W : World} {G n cG : Nat} {ts : List IV} {bs : Nat → Nat} (j : JO w (.slice (some ⟨G, 0, Option.none⟩) n cG) ts bs W) (hn : ts.length = n) : SL W (some ⟨G, 0, Option.none⟩) G n ts bs (fun i => (ts[i]?.getD noI).x) := by
  subst hn
  refine ⟨fun i hi => ?_, j.d⟩
  obtain ⟨a, b, c, d⟩ := j.k i hi
  refine ⟨rfl, ?_, b, fun e => d (by rw [e]; rfl)⟩
  rw [own_cell j.o i (by omega), List.getElem?_map, List.getElem?_eq_getElem hi]
  rw [List.getElem?_eq_getElem hi] at a
  simp only [Option.getD_some] at a
  simp [IV.v, a]
theorem SL.isg {W : World} {a : Option Addr} {G n : Nat} {ts : List IV} {bs : Nat → Nat} (h : SL W a G n ts bs (fun i => (ts[i]?.getD noI).x)) (hn : ts.length = n) (h3 : ∀ i, i < n → (ts[i]?.getD noI).n = 3) : ISG W a ts := fun i hi => by
  obtain ⟨h1, h2, hx, _⟩ := h.c i (by omega)
  refine ⟨G, 0, h1, ?_, ?_, by rw [h3 i (by omega)]; omega⟩
  · rw [Nat.zero_add, h2, IV.v, h3 i (by omega)]
  · rw [h3 i (by omega)]; exact hx.ints

end Go.Proofs.Ytjggppnffkcmbaa
namespace Go.Proofs.Ytjggppnffkcmbaa
open Go.RowKit
set_option linter.unusedVariables false

theorem goW_copies {ls gs : List LV} (hl : gs.length = ls.length) (h : copiesL ls gs) (f : Nat) : ∀ (i : Nat) (y : Way), goW gs f i y = goW ls f i y := by
  induction f with
  | zero => intro i y; rfl
  | succ f ih =>
    intro i y
    rw [goW, goW, hl]
    by_cases hi : i < ls.length
    · obtain ⟨a1, a2, a3, a4, a5, a6, _⟩ := h i (by omega)
      have e : intoX (gs[i]?.getD noLV).f y.pots = intoX (ls[i]?.getD noLV).f y.pots := by rw [intoX, intoX, a4, a5, a6]
      rw [if_pos hi, if_pos hi, a1, a2, a3, e, ih, ih, ih, ih]
    · rw [if_neg hi, if_neg hi]
theorem rowsL_copies {ls gs : List LV} (hl : gs.length = ls.length) (h : copiesL ls gs) : rowsL gs = rowsL ls := goW_copies hl h 7 0 way0

/-- How many bools are answered. -/
def lenB (v : Bool) : Nat := if v then 3 else 0
theorem lenB_le (v : Bool) : lenB v ≤ 3 := by cases v <;> simp [lenB]

theorem scatreads_at (v : Bool) (R : Nat → Bool) (ad : Option Addr) (N cap : Nat) (gs : List LV) (w : World) (hN : gs.length = N) (hF : LinesG w ad gs) (hN1 : N ≤ 1048576) (hv : actB N gs = v) (hR : readsR (rowsL gs) = R) :
    Calls Try.prog 35 #[.slice ad N cap] w fun e w' => ∃ G cp, e = .returned (.slice (some ⟨G, 0, none⟩) (lenB v) cp) ∧ Below w.heap.size w w' ∧ BA w' (some ⟨G, 0, none⟩) (lenB v) R := by
  refine (scatreads_any ad N cap gs w hN hF hN1).mono ?_
  rintro e w' ⟨b, ⟨h, G, rfl⟩ | ⟨h, G, cG, rfl, hG, o⟩⟩
  · rw [hv] at h; subst h
    exact ⟨G, 0, rfl, b, BA.none⟩
  · rw [hv] at h; subst h; subst hR
    exact ⟨G, cG, rfl, b, o.bools.ba⟩
theorem icatreads_at (v : Bool) (R : Nat → Bool) (ad : Option Addr) (N cap : Nat) (gs : List LV) (w : World) (hN : gs.length = N) (hF : LinesG w ad gs) (hN1 : N ≤ 1048576) (hv : actB N gs = v) (hR : readsR (rowsL gs) = R) :
    Calls Try.prog 33 #[.slice ad N cap] w fun e w' => ∃ a cp, e = .returned (.slice a (lenB v) cp) ∧ Below w.heap.size w w' ∧ (v = false ∨ (v = true ∧ ∃ G, a = some ⟨G, 0, none⟩ ∧ w.heap.size ≤ G ∧ OwnBB w' G R)) := by
  refine (icatreads_any ad N cap gs w hN hF hN1).mono ?_
  rintro e w' ⟨b, ⟨h, rfl⟩ | ⟨h, G, cG, rfl, hG, o⟩⟩
  · rw [hv] at h; subst h
    exact ⟨_, 0, rfl, b, Or.inl rfl⟩
  · rw [hv] at h; subst h; subst hR
    exact ⟨_, cG, rfl, b, Or.inr ⟨rfl, G, rfl, hG, o⟩⟩

end Go.Proofs.Ytjggppnffkcmbaa
namespace Go.Proofs.Ytjggppnffkcmbaa
open Go.ChangeShapes Go.WideShapes Go.ChangeAt Go.RowKit Go.Joins
set_option linter.unusedVariables false
set_option maxRecDepth 100000

/-- A treaty as a value. -/
abbrev treV (a : Option Addr) (n cap : Nat) (c : Option Addr) (m cap' : Nat) : Value := .agg #[.slice a n cap, .slice c m cap']

theorem open_treaty {H : Type} {enc : TypeId × Value → H} {W : World} {r : Reach} {b0 : Nat} {v : Value} {d : DataW H} {p : List MemPlace}
    (hv : Value.okWide Try.prog W r b0 45 v) (h : DataW.Trod enc Try.prog W 0 (fun _ => true) true 45 v d p) :
    ∃ a n cap c m cap' C D, v = treV a n cap c m cap' ∧ Ints W a n C ∧ Ints W c m D ∧ n ≤ maxLen ∧ m ≤ maxLen := by
  obtain ⟨v0, v1, y0, y1, k, rfl, -, -, h0, h1⟩ := open_agg2 Try.underlying45 (by kernel_rfl) (by kernel_rfl) hv h
  obtain ⟨a, n, cap, C, rfl, hC, hn⟩ := open_row h0
  obtain ⟨c, m, cap', D, rfl, hD, hm⟩ := open_row h1
  exact ⟨a, n, cap, c, m, cap', C, D, rfl, hC, hD, hn, hm⟩

end Go.Proofs.Ytjggppnffkcmbaa
namespace Go.Proofs.Ytjggppnffkcmbaa
open Go.RowKit
set_option linter.unusedVariables false

/-- A treaty is ok. -/
def trtB (n m : Nat) (C D : List Int) : Bool := okN 3 10000 n C && (inB m 1 3 && betB 0 50 D)

set_option maxHeartbeats 800000 in
theorem strt_any (a : Option Addr) (n cap : Nat) (c : Option Addr) (m cap' : Nat) (C D : List Int) (w : World) (hC : Ints w a n C) (hD : Ints w c m D) (hn : n ≤ 1048576) (hm : m ≤ 1048576) :
    Calls Try.prog 72 #[treV a n cap c m cap'] w fun e w' => e = .returned (.bool (trtB n m C D)) ∧ Below w.heap.size w w' := by
  have HD : Hid (D.length = m) := hD.1
  cases h1 : okN 3 10000 n C
  · go_enter Try.func72, Try.ntmps72
    go_wp2_with fail
    refine (sval_any _ _ _ C _ (hC.alloc _) hn).mono ?_
    rintro e w1 ⟨rfl, rfl⟩
    go_wp2
    go_ret
    exact ⟨ret_bool (by simp [trtB, h1]), (Below.refl _ _).alloc (Nat.le_refl _) _⟩
  · cases h2 : inB m 1 3
    · go_enter Try.func72, Try.ntmps72
      go_wp2_with fail
      refine (sval_any _ _ _ C _ (hC.alloc _) hn).mono ?_
      rintro e w1 ⟨rfl, rfl⟩
      go_wp2_with fail
      refine (in_any _ _ _ _).mono ?_
      rintro e w1 ⟨rfl, rfl⟩
      go_wp2
      go_ret
      exact ⟨ret_bool (by simp [trtB, h2]), (Below.refl _ _).alloc (Nat.le_refl _) _⟩
    · go_enter Try.func72, Try.ntmps72
      go_wp2_with fail
      refine (sval_any _ _ _ C _ (hC.alloc _) hn).mono ?_
      rintro e w1 ⟨rfl, rfl⟩
      go_wp2_with fail
      refine (in_any _ _ _ _).mono ?_
      rintro e w1 ⟨rfl, rfl⟩
      go_wp2_with fail
      go_loop [3] (fun i => ∃ k : Nat, k ≤ m ∧ i = .int .i64 k ∧ betB 0 50 (D.take k) = true) (fun i => m - (intOf i).toNat)
      case atStart => exact ⟨0, Nat.zero_le _, rfl, rfl⟩
      case round =>
        obtain ⟨k, hk, rfl, hall⟩ := hrel
        have HA : Hid (betB 0 50 (D.take k) = true) := hall
        clear hall
        by_cases hlt : k < m
        · obtain ⟨b, off, rfl, hcell⟩ := (hD.alloc (.cells #[.slice a n cap, .slice c m cap'] 45 (0, 0))).pos (by omega)
          have hck := hcell k hlt
          clear hcell hC hD
          cases hin : inB (D[k]?.getD 0) 0 50
          · go_wp2_with fail
            refine (in_any _ _ _ _).mono ?_
            rintro e w1 ⟨rfl, rfl⟩
            go_wp2
            go_ret
            exact ⟨ret_bool (by rw [trtB, betB_false (by rw [HD.out]; exact hlt) hin]; simp), (Below.refl _ _).alloc (Nat.le_refl _) _⟩
          · go_wp2_with fail
            refine (in_any _ _ _ _).mono ?_
            rintro e w1 ⟨rfl, rfl⟩
            go_wp2
            go_round
            case rel => exact ⟨k + 1, by omega, by go_num, betB_step (by rw [HD.out]; exact hlt) HA.out hin⟩
            case measure => simp [intOf]; omega
        · go_wp2
          go_ret
          exact ⟨ret_bool (by rw [trtB, h1, h2, betB_end (by rw [HD.out]; omega) HA.out]; rfl), (Below.refl _ _).alloc (Nat.le_refl _) _⟩

set_option maxHeartbeats 800000 in
theorem itrt_any (a : Option Addr) (n cap : Nat) (c : Option Addr) (m cap' : Nat) (C D : List Int) (w : World) (hC : Ints w a n C) (hD : Ints w c m D) (hn : n ≤ 1048576) (hm : m ≤ 1048576) :
    Calls Try.prog 109 #[treV a n cap c m cap'] w fun e w' => e = .returned (.bool (trtB n m C D)) ∧ Below w.heap.size w w' := by
  cases h1 : okN 3 10000 n C
  · go_enter Try.func109, Try.ntmps109
    go_wp2_with fail
    refine (ival_any _ _ _ C _ (hC.alloc _) hn).mono ?_
    rintro e w1 ⟨rfl, rfl⟩
    go_wp2
    go_ret
    exact ⟨ret_bool (by simp [trtB, h1]), (Below.refl _ _).alloc (Nat.le_refl _) _⟩
  · by_cases h2 : 1 ≤ m
    · by_cases h3 : m ≤ 3
      · have h4 : inB m 1 3 = true := inB_iff.2 ⟨by omega, by omega⟩
        have H4 : Hid _ := h4
        clear h4
        go_enter Try.func109, Try.ntmps109
        go_wp2_with fail
        refine (ival_any _ _ _ C _ (hC.alloc _) hn).mono ?_
        rintro e w1 ⟨rfl, rfl⟩
        go_wp2_with fail
        refine (between_any _ _ _ D _ _ _ (hD.alloc _) hm).mono ?_
        rintro e w1 ⟨rfl, rfl⟩
        go_wp2
        go_ret
        exact ⟨ret_bool (by rw [trtB, h1, H4.out]; rfl), (Below.refl _ _).alloc (Nat.le_refl _) _⟩
      · have h4 : inB m 1 3 = false := inB_not.2 (by omega)
        have H4 : Hid _ := h4
        clear h4
        go_enter Try.func109, Try.ntmps109
        go_wp2_with fail
        refine (ival_any _ _ _ C _ (hC.alloc _) hn).mono ?_
        rintro e w1 ⟨rfl, rfl⟩
        go_wp2
        go_ret
        exact ⟨ret_bool (by rw [trtB, H4.out]; simp), (Below.refl _ _).alloc (Nat.le_refl _) _⟩
    · have h4 : inB m 1 3 = false := inB_not.2 (by omega)
      have H4 : Hid _ := h4
      clear h4
      go_enter Try.func109, Try.ntmps109
      go_wp2_with fail
      refine (ival_any _ _ _ C _ (hC.alloc _) hn).mono ?_
      rintro e w1 ⟨rfl, rfl⟩
      go_wp2
      go_ret
      exact ⟨ret_bool (by rw [trtB, H4.out]; simp), (Below.refl _ _).alloc (Nat.le_refl _) _⟩

/-- What the first k sites but one may. -/
def others (D : List Int) (s : Int) : Nat → Int
  | 0 => 0
  | k + 1 => if (k : Int) = s then others D s k else wrap64 (others D s k + D[k]?.getD 0)

set_option maxHeartbeats 800000 in
theorem sothers_any (a : Option Addr) (n cap : Nat) (c : Option Addr) (m cap' : Nat) (D : List Int) (s : Int) (w : World) (hD : Ints w c m D) (hm : m ≤ 1048576) :
    Calls Try.prog 82 #[treV a n cap c m cap', .int .i64 s] w fun e w' => e = .returned (.int .i64 (others D s m)) ∧ Below w.heap.size w w' := by
  go_enter Try.func82, Try.ntmps82
  go_wp2_with fail
  go_loop [5, 6] (fun x i => ∃ k : Nat, k ≤ m ∧ i = .int .i64 k ∧ x = .int .i64 (others D s k)) (fun _ i => m - (intOf i).toNat)
  case atStart => exact ⟨0, Nat.zero_le _, rfl, rfl⟩
  case round =>
    obtain ⟨k, hk, rfl, rfl⟩ := hrel
    by_cases hlt : k < m
    · obtain ⟨b, off, rfl, hcell⟩ := (hD.alloc (.cells #[.slice a n cap, .slice c m cap'] 45 (0, 0))).pos (by omega)
      have hck := hcell k hlt
      clear hcell hD
      have HO : Hid (others D s (k + 1) = if (k : Int) = s then others D s k else wrap64 (others D s k + D[k]?.getD 0)) := rfl
      obtain ⟨y, hy⟩ : ∃ y, y = others D s k := ⟨_, rfl⟩
      rw [← hy] at HO
      rw [← hy]
      clear hy
      by_cases hs : (k : Int) = s
      · have hs' : ((k : Int) != s) = false := by simp [hs]
        have HS : Hid ((k : Int) = s) := hs
        clear hs
        go_wp2
        go_round
        case rel => exact ⟨k + 1, by omega, by go_num, by rw [HO.out, if_pos HS.out]⟩
        case measure => simp [intOf]; omega
      · have hs' : ((k : Int) != s) = true := by simp [hs]
        have HS : Hid (¬ (k : Int) = s) := hs
        clear hs
        go_wp2
        go_round
        case rel => exact ⟨k + 1, by omega, by go_num, by rw [HO.out, if_neg HS.out]⟩
        case measure => simp [intOf]; omega
    · obtain rfl : k = m := by omega
      go_wp2
      go_ret
      exact ⟨rfl, (Below.refl _ _).alloc (Nat.le_refl _) _⟩

set_option maxHeartbeats 800000 in
theorem iothers_any (a : Option Addr) (n cap : Nat) (c : Option Addr) (m cap' : Nat) (D : List Int) (s : Int) (w : World) (hD : Ints w c m D) (hm : m ≤ 1048576) :
    Calls Try.prog 112 #[treV a n cap c m cap', .int .i64 s] w fun e w' => e = .returned (.int .i64 (others D s m)) ∧ Below w.heap.size w w' := by
  go_enter Try.func112, Try.ntmps112
  go_wp2_with fail
  go_loop [5, 6, 7, 11] (fun x _ _ i => ∃ k : Nat, k ≤ m ∧ i = .int .i64 k ∧ x = .int .i64 (others D s k)) (fun _ _ _ i => m - (intOf i).toNat)
  case atStart => exact ⟨0, Nat.zero_le _, rfl, rfl⟩
  case round =>
    obtain ⟨k, hk, rfl, rfl⟩ := hrel
    by_cases hlt : k < m
    · obtain ⟨b, off, rfl, hcell⟩ := (hD.alloc (.cells #[.slice a n cap, .slice c m cap'] 45 (0, 0))).pos (by omega)
      have hck := hcell k hlt
      clear hcell hD
      have HO : Hid (others D s (k + 1) = if (k : Int) = s then others D s k else wrap64 (others D s k + D[k]?.getD 0)) := rfl
      obtain ⟨y, hy⟩ : ∃ y, y = others D s k := ⟨_, rfl⟩
      rw [← hy] at HO
      rw [← hy]
      clear hy
      by_cases hs : (k : Int) = s
      · have hs' : ((k : Int) != s) = false := by simp [hs]
        have HS : Hid ((k : Int) = s) := hs
        clear hs
        go_wp2
        go_round
        case rel => exact ⟨k + 1, by omega, by go_num, by rw [HO.out, if_pos HS.out]⟩
        case measure => simp [intOf]; omega
      · have hs' : ((k : Int) != s) = true := by simp [hs]
        have HS : Hid (¬ (k : Int) = s) := hs
        clear hs
        go_wp2
        go_round
        case rel => exact ⟨k + 1, by omega, by go_num, by rw [HO.out, if_neg HS.out]⟩
        case measure => simp [intOf]; omega
    · obtain rfl : k = m := by omega
      go_wp2
      go_ret
      exact ⟨rfl, (Below.refl _ _).alloc (Nat.le_refl _) _⟩

/-- Parts are ok. -/
def partsB (ss : List IV) : Bool := ss.all fun s => okN 3 10000000 s.n s.x
theorem partsB_step {ss : List IV} {k : Nat} (h : k < ss.length) (h1 : partsB (ss.take k) = true) (h2 : okN 3 10000000 (ss[k]?.getD noI).n (ss[k]?.getD noI).x = true) : partsB (ss.take (k + 1)) = true := by
  unfold partsB at *
  rw [List.take_succ_eq_append_getElem h, List.all_append, h1]
  rw [List.getElem?_eq_getElem h] at h2
  simpa using h2
theorem partsB_end {ss : List IV} {k : Nat} (h : ss.length ≤ k) (h1 : partsB (ss.take k) = true) : partsB ss = true := by
  rwa [List.take_of_length_le h] at h1
theorem partsB_false {ss : List IV} {k : Nat} (h : k < ss.length) (hn : okN 3 10000000 (ss[k]?.getD noI).n (ss[k]?.getD noI).x = false) : partsB ss = false := by
  unfold partsB
  rw [List.all_eq_false]
  refine ⟨ss[k], List.getElem_mem h, ?_⟩
  rw [List.getElem?_eq_getElem h] at hn
  simpa using hn
theorem partsB_at {ss : List IV} {k : Nat} (h : k < ss.length) (hp : partsB ss = true) : okN 3 10000000 (ss[k]?.getD noI).n (ss[k]?.getD noI).x = true := by
  cases hn : okN 3 10000000 (ss[k]?.getD noI).n (ss[k]?.getD noI).x
  · rw [partsB_false h hn] at hp; cases hp
  · rfl

set_option maxHeartbeats 800000 in
theorem sparts_any (ad : Option Addr) (N cap : Nat) (ss : List IV) (w : World) (hN : ss.length = N) (hF : ISG w ad ss) (hN1 : N ≤ 1048576) :
    Calls Try.prog 73 #[.slice ad N cap] w fun e w' => e = .returned (.bool (partsB ss)) ∧ w' = w := by
  have HN : Hid (ss.length = N) := hN
  clear hN
  go_enter Try.func73, Try.ntmps73
  go_wp2_with fail
  go_loop [3] (fun i => ∃ k : Nat, k ≤ N ∧ i = .int .i64 k ∧ partsB (ss.take k) = true) (fun i => N - (intOf i).toNat)
  case atStart => exact ⟨0, Nat.zero_le _, rfl, rfl⟩
  case round =>
    obtain ⟨k, hk, rfl, hall⟩ := hrel
    have HA : Hid _ := hall
    clear hall
    by_cases hlt : k < N
    · obtain ⟨b, off, rfl, hc, hr⟩ := hF k (by rw [HN.out]; exact hlt)
      have H1 : Hid _ := partsB_step (ss := ss) (k := k) (by rw [HN.out]; exact hlt) HA.out
      have H2 : Hid _ := partsB_false (ss := ss) (k := k) (by rw [HN.out]; exact hlt)
      generalize HG : ss[k]?.getD noI = g at *
      clear HG hF HA
      obtain ⟨ga, gn, gcap, gx⟩ := g
      have hc' : w.cell? ⟨b, off + k, none⟩ = some (.slice ga gn gcap) := hc
      clear hc
      cases he : okN 3 10000000 gn gx
      · go_wp2_with fail
        refine (all_any _ _ _ gx _ _ _ hr.1 hr.2 (by omega) (by omega)).mono ?_
        rintro e w1 ⟨rfl, rfl⟩
        rw [he]
        go_wp2
        go_ret
        exact ⟨ret_bool (by rw [H2.out he]), rfl⟩
      · go_wp2_with fail
        refine (all_any _ _ _ gx _ _ _ hr.1 hr.2 (by omega) (by omega)).mono ?_
        rintro e w1 ⟨rfl, rfl⟩
        rw [he]
        go_wp2
        go_round
        case rel => exact ⟨k + 1, by omega, by go_num, H1.out he⟩
        case measure => simp [intOf]; omega
    · go_wp2
      go_ret
      exact ⟨ret_bool (by rw [partsB_end (by rw [HN.out]; omega) HA.out]), rfl⟩

set_option maxHeartbeats 800000 in
theorem iparts_any (ad : Option Addr) (N cap : Nat) (ss : List IV) (w : World) (hN : ss.length = N) (hF : ISG w ad ss) (hN1 : N ≤ 1048576) :
    Calls Try.prog 110 #[.slice ad N cap] w fun e w' => e = .returned (.bool (partsB ss)) ∧ w' = w := by
  have HN : Hid (ss.length = N) := hN
  clear hN
  go_enter Try.func110, Try.ntmps110
  go_wp2_with fail
  go_loop [4, 7] (fun _ i => ∃ k : Nat, k ≤ N ∧ i = .int .i64 k ∧ partsB (ss.take k) = true) (fun _ i => N - (intOf i).toNat)
  case atStart => exact ⟨0, Nat.zero_le _, rfl, rfl⟩
  case round =>
    obtain ⟨k, hk, rfl, hall⟩ := hrel
    have HA : Hid _ := hall
    clear hall
    by_cases hlt : k < N
    · obtain ⟨b, off, rfl, hc, hr⟩ := hF k (by rw [HN.out]; exact hlt)
      have H1 : Hid _ := partsB_step (ss := ss) (k := k) (by rw [HN.out]; exact hlt) HA.out
      have H2 : Hid _ := partsB_false (ss := ss) (k := k) (by rw [HN.out]; exact hlt)
      generalize HG : ss[k]?.getD noI = g at *
      clear HG hF HA
      obtain ⟨ga, gn, gcap, gx⟩ := g
      have hc' : w.cell? ⟨b, off + k, none⟩ = some (.slice ga gn gcap) := hc
      clear hc
      by_cases hn3 : (gn : Int) = 3
      · have hn3' : ((gn : Int) != 3) = false := by simp [hn3]
        have H3 : Hid ((gn : Int) = 3) := hn3
        clear hn3
        cases he : allB 10000000 gx
        · go_wp2_with fail
          refine (within_any _ _ _ gx _ _ hr.1 hr.2 (by omega) (by omega)).mono ?_
          rintro e w1 ⟨rfl, rfl⟩
          rw [he]
          go_wp2
          go_ret
          exact ⟨ret_bool (by rw [H2.out (by rw [okN_is H3.out, he])]), rfl⟩
        · go_wp2_with fail
          refine (within_any _ _ _ gx _ _ hr.1 hr.2 (by omega) (by omega)).mono ?_
          rintro e w1 ⟨rfl, rfl⟩
          rw [he]
          go_wp2
          go_round
          case rel => exact ⟨k + 1, by omega, by go_num, H1.out (by rw [okN_is H3.out, he])⟩
          case measure => simp [intOf]; omega
      · have hn3' : ((gn : Int) != 3) = true := by simp [hn3]
        have H3 : Hid (¬ (gn : Int) = 3) := hn3
        clear hn3
        go_wp2
        go_ret
        exact ⟨ret_bool (by rw [H2.out (okN_not H3.out)]), rfl⟩
    · go_wp2
      go_ret
      exact ⟨ret_bool (by rw [partsB_end (by rw [HN.out]; omega) HA.out]), rfl⟩

theorem imay_any (a : Option Addr) (n cap : Nat) (zs : List Int) (w : World) (h : Ints w a n zs) (hn : n ≤ 1048576) :
    Calls Try.prog 111 #[.slice a n cap] w fun e w' => e = .returned (.bool (okN 3 20000 n zs)) ∧ w' = w := by
  by_cases hc : (n : Int) = 3
  · have hc' : ((n : Int) == 3) = true := by simp [hc]
    have HC : Hid ((n : Int) = 3) := hc
    clear hc
    go_enter Try.func111, Try.ntmps111
    go_wp2_with fail
    refine (within_any _ _ _ zs _ _ h hn (by omega) (by omega)).mono ?_
    rintro e w' ⟨rfl, rfl⟩
    go_wp2
    go_ret
    exact ⟨ret_bool (by rw [okN_is HC.out]), rfl⟩
  · have hc' : ((n : Int) == 3) = false := by simpa using hc
    go_enter Try.func111, Try.ntmps111
    go_wp2
    go_ret
    exact ⟨ret_bool (by rw [okN_not hc]), rfl⟩

end Go.Proofs.Ytjggppnffkcmbaa
namespace Go.Proofs.Ytjggppnffkcmbaa
open Go.ChangeShapes Go.WideShapes Go.ChangeAt Go.RowKit Go.Joins
set_option linter.unusedVariables false
set_option maxRecDepth 100000

/-- A plan as a value. -/
abbrev plV (cl : Int) (ad : Option Addr) (N cap : Nat) (ga : Option Addr) (gn gc : Nat) (sa : Option Addr) (sn sc : Nat) : Value := .agg #[.int .i64 cl, .slice ad N cap, .slice ga gn gc, .slice sa sn sc]

/-- What a plan holds, that may be copied. -/
structure PlAt (w : World) (ad : Option Addr) (N : Nat) (ss : List L2V) (ga : Option Addr) (gn : Nat) (G : List Int) (sa : Option Addr) (sn : Nat) (S : List Int) : Prop where
  a : LSG w ad ss
  ha : ss.length = N
  za : N ≤ 1048576
  g : Ints w ga gn G
  zg : gn ≤ 1048576
  s : Ints w sa sn S
  zs : sn ≤ 1048576
theorem PlAt.below {w w' : World} {ad : Option Addr} {N : Nat} {ss : List L2V} {ga : Option Addr} {gn : Nat} {G : List Int} {sa : Option Addr} {sn : Nat} {S : List Int} (h : PlAt w ad N ss ga gn G sa sn S) (b : Below w.heap.size w w') : PlAt w' ad N ss ga gn G sa sn S :=
  ⟨h.a.below b, h.ha, h.za, h.g.below b, h.zg, h.s.below b, h.zs⟩
theorem PlAt.alloc {w : World} {ad : Option Addr} {N : Nat} {ss : List L2V} {ga : Option Addr} {gn : Nat} {G : List Int} {sa : Option Addr} {sn : Nat} {S : List Int} (h : PlAt w ad N ss ga gn G sa sn S) (o : Obj) : PlAt (w.alloc o) ad N ss ga gn G sa sn S :=
  h.below ((Below.refl _ _).alloc (Nat.le_refl _) _)

theorem Cel.quadP {w : World} {B : Nat} {x y z u : Value} {t : TypeId} (h : Cel w B [x, y, z, u] t) : w.cell? ⟨B, 0, none⟩ = some x ∧ w.cell? ⟨B, 1, none⟩ = some y ∧ w.cell? ⟨B, 2, none⟩ = some z ∧ w.cell? ⟨B, 3, none⟩ = some u := ⟨h.cell 0, h.cell 1, h.cell 2, h.cell 3⟩
/-- A box, and all that came before is as it was. -/
structure BP (w : World) (B : Nat) (la : List Value) (ty : TypeId) (W : World) : Prop where
  p : Cel W B la ty
  b : Below w.heap.size w W
theorem BP.new (w : World) (la : List Value) (ty : TypeId) : BP w w.heap.size la ty (w.alloc (.cells la.toArray ty)) := ⟨Cel.new w la ty, (Below.refl _ _).alloc (Nat.le_refl _) _⟩
theorem BP.below {w W W' : World} {B : Nat} {la : List Value} {ty : TypeId} (h : BP w B la ty W) (b : Below W.heap.size W W') : BP w B la ty W' := ⟨h.p.below b, h.b.trans (b.mono h.b.size)⟩
theorem BP.alloc {w W : World} {B : Nat} {la : List Value} {ty : TypeId} (h : BP w B la ty W) (o : Obj) : BP w B la ty (W.alloc o) := h.below ((Below.refl _ _).alloc (Nat.le_refl _) _)

theorem ML2.setLow {W : World} {B N : Nat} {ts : List L2V} (h : ML2 W B N ts) {X : Nat} (hX : X < B) (i : Nat) (v : Value) : ML2 (W.setCell ⟨X, i, none⟩ v) B N ts := by
  have T : Touch (fun x => x = X) W (W.setCell ⟨X, i, none⟩ v) := Touch.setCell (S := fun x => x = X) (Touch.refl _ _) rfl _
  obtain ⟨vs, h1, h2, h3⟩ := h.c
  obtain ⟨c, c1, c2, c3⟩ := h.d
  exact ⟨⟨vs, h1.setOther (by omega) _ _, h2, h3⟩, fun i hi => (h.l i hi).touch T (fun x hx => by omega), c, c1, by rw [size_setCell]; exact c2, c3⟩

theorem copies_mapP {ss ts : List L2V} (hl : ts.length = ss.length) (h : copiesL2S ss ts) : ts.map L2V.ok = ss.map L2V.ok := by
  apply List.ext_getElem?
  intro i
  by_cases hi : i < ts.length
  · obtain ⟨e1, e2, e3⟩ := h i hi
    have : (ts[i]?.getD noL).ok = (ss[i]?.getD noL).ok := by rw [L2V.ok, L2V.ok, e1]; exact copiesL_act e2 e3
    rw [List.getElem?_eq_getElem hi, List.getElem?_eq_getElem (by omega)] at this
    simp only [Option.getD_some] at this
    rw [List.getElem?_map, List.getElem?_map, List.getElem?_eq_getElem hi, List.getElem?_eq_getElem (by omega)]
    simp [this]
  · rw [List.getElem?_eq_none (by simp; omega), List.getElem?_eq_none (by simp; omega)]
theorem copies_catP {ss ts : List L2V} {N : Nat} (hl : ts.length = ss.length) (h : copiesL2S ss ts) : catB N ts = catB N ss := by
  have h3 := copies_mapP hl h
  have e1 : ∀ xs : List L2V, xs.all L2V.ok = (xs.map L2V.ok).all id := fun xs => by simp [List.all_map]
  rw [catB, catB, e1, e1, h3]
theorem copies_sameP {ss ts us : List L2V} {N : Nat} (h1 : ts.length = N) (h2 : us.length = N) (c1 : copiesL2S ss ts) (c2 : copiesL2S ss us) (hl : ∀ i, i < N → (ts[i]?.getD noL).x.length = (ts[i]?.getD noL).n) : ∀ i, i < N → sameL2 (ts[i]?.getD noL) (us[i]?.getD noL) := fun i hi => by
  obtain ⟨a1, a2, a3⟩ := c1 i (by omega)
  obtain ⟨b1, b2, b3⟩ := c2 i (by omega)
  refine ⟨by rw [a1, b1], fun j hj => ?_⟩
  have e1 := hl i hi
  exact copiesL_same (N := (ts[i]?.getD noL).n) e1 (by rw [b2, ← a2]; exact e1) a3 b3 j hj
theorem ML2.lens {W : World} {B N : Nat} {ts : List L2V} (h : ML2 W B N ts) (hl : ts.length = N) : ∀ i, i < N → (ts[i]?.getD noL).x.length = (ts[i]?.getD noL).n := fun i hi => by
  obtain ⟨b, off, _, _, h⟩ := h.g i (by rw [hl]; exact hi)
  exact h.1

/-- A plan is ok. -/
def plnB (cl : Int) (N : Nat) (ss : List L2V) (gn : Nat) (G : List Int) (sn : Nat) (S : List Int) : Bool := inB cl 1 4 && (catB N ss && (okN 3 1000 sn S && trtB sn gn S G))

theorem open_LSC {H : Type} {enc : TypeId × Value → H} {W : World} {fuel : Nat} {v : Value} {y : DataW H × List MemPlace}
    (hf : DataW.trod enc Try.prog W 0 (fun _ => true) true fuel 66 [v] = some y) :
    ∃ ad N cap ss, v = .slice ad N cap ∧ ss.length = N ∧ LSM W ad ss ∧ N ≤ maxLen := by
  obtain ⟨ad, N, cap, ss, hv, hl, hN, hall⟩ := open_sliceC noL (fun s => [L2V.v s]) (fun s => LM W s) (c := 1) (by omega) Try.underlying66 (by kernel_rfl) (fun _ => rfl) (fun fuel cs x hx => by
    have hl : cs.length = 1 := (trod_lenL Try.underlying52 hx)
    match cs, hl with
    | [c], _ =>
      obtain ⟨s, hs, hr⟩ := open_L1 hx
      exact ⟨s, by rw [hs], hr⟩) hf
  refine ⟨ad, N, cap, ss, hv, hl, fun i hi => ?_, hN⟩
  obtain ⟨b, off, e, hc, hr⟩ := hall i hi
  have h0 := hc 0 (by omega)
  simp only [Nat.mul_one, Nat.add_zero, List.getElem?_cons_zero] at h0
  exact ⟨b, off, e, h0, hr⟩

end Go.Proofs.Ytjggppnffkcmbaa
namespace Go.Proofs.Ytjggppnffkcmbaa
open Go.RowKit
set_option linter.unusedVariables false

theorem rows_map {ss ts : List L2V} (hl : ts.length = ss.length) (h : copiesL2S ss ts) : ts.map (fun s => rowsL s.x) = ss.map (fun s => rowsL s.x) := by
  apply List.ext_getElem?
  intro i
  by_cases hi : i < ts.length
  · obtain ⟨e1, e2, e3⟩ := h i hi
    have := rowsL_copies e2 e3
    rw [List.getElem?_eq_getElem hi, List.getElem?_eq_getElem (by omega)] at this
    simp only [Option.getD_some] at this
    rw [List.getElem?_map, List.getElem?_map, List.getElem?_eq_getElem hi, List.getElem?_eq_getElem (by omega)]
    simp [this]
  · rw [List.getElem?_eq_none (by simp; omega), List.getElem?_eq_none (by simp; omega)]
theorem pins_copies {ss ts : List L2V} (hl : ts.length = ss.length) (h : copiesL2S ss ts) : pinsA ts = pinsA ss := by
  funext v
  have e : ∀ xs : List L2V, pinsA xs v = (xs.map (fun s => rowsL s.x)).any (fun r => readsR r v) := fun xs => by simp [pinsA, List.any_map, Function.comp_def]
  rw [e, e, rows_map hl h]
theorem catP_copies {ss ts : List L2V} (hl : ts.length = ss.length) (h : copiesL2S ss ts) : catP ts = catP ss := by
  have e : ∀ xs : List L2V, catP xs = (xs.map (fun s => rowsL s.x)).foldl rowsP pots3 := fun xs => by rw [catP, actsP, List.foldl_map]
  rw [e, e, rows_map hl h]

end Go.Proofs.Ytjggppnffkcmbaa
namespace Go.Proofs.Ytjggppnffkcmbaa
open Go.RowKit
set_option linter.unusedVariables false
set_option maxRecDepth 100000

set_option maxHeartbeats 1600000 in
theorem scatforms_any (ad : Option Addr) (N cap : Nat) (ss : List L2V) (w : World) (hN : ss.length = N) (hF : LSG w ad ss) (hN1 : N ≤ 1048576) :
    Calls Try.prog 40 #[.slice ad N cap] w fun e w' => Below w.heap.size w w' ∧ ((catB N ss = false ∧ ∃ G, e = .returned (.slice (some ⟨G, 0, none⟩) 0 0)) ∨ (catB N ss = true ∧ ∃ G cG ts nt, e = .returned (.slice (some ⟨G, 0, none⟩) nt cG) ∧ ts.length = nt ∧ ISG w' (some ⟨G, 0, none⟩) ts ∧ ts.map IV.x = catP ss ∧ nt ≤ 600000)) := by
  have HN : Hid (ss.length = N) := hN
  clear hN
  obtain ⟨u, hu⟩ : ∃ u, catB N ss = u := ⟨_, rfl⟩
  have HU : Hid (catB N ss = u) := hu
  go_enter Try.func40, Try.ntmps40
  go_wp2_with fail
  refine (scat_any _ _ _ ss _ HN.out hF hN1).mono ?_
  rintro e w1 ⟨rfl, b1⟩
  rw [hu]
  clear hu
  cases u with
  | false =>
    have B2 := b1.alloc b1.size (.cells #[] 26)
    go_wp2
    go_ret
    exact ⟨B2, .inl ⟨HU.out, _, rfl⟩⟩
  | true =>
    go_wp2_with fail
    refine (sboth_any _ _ _ ss _ HN.out (hF.below b1) (catB_parts HU.out).2 (catB_parts HU.out).1).mono ?_
    rintro e w2 ⟨G, cG, ts, nt, Gp, cp, rfl, hl, jp, hx, hnt, o, lGp⟩
    have B2 := b1.trans (jp.b.mono b1.size)
    have hg := jp.g
    have HX : Hid _ := hx
    have HL : Hid _ := hl
    clear jp hx hl o
    go_wp2
    go_ret
    exact ⟨B2, .inr ⟨HU.out, G, cG, ts, nt, rfl, HL.out, hg, HX.out, hnt⟩⟩

/-- What is told of acts. -/
def catT (v : Bool) (ps : List (List Int)) : List (List Int) := if v then ps else []
def tF (T : List (List Int)) (i : Nat) : List Int := T[i]?.getD []
theorem map_at {ts : List IV} {T : List (List Int)} (h : ts.map IV.x = T) {i : Nat} (hi : i < T.length) : (ts[i]?.getD noI).x = tF T i := by
  subst h
  rw [List.length_map] at hi
  rw [tF, List.getElem?_map, List.getElem?_eq_getElem hi]; rfl
theorem map_len {ts : List IV} {T : List (List Int)} (h : ts.map IV.x = T) : ts.length = T.length := by rw [← h, List.length_map]
/-- The program's answer, in memory of its own. -/
def UF (W : World) (a : Option Addr) (lo : Nat) (T : List (List Int)) (f : Nat → List Int) : Prop := ∃ G ts bs, SL W a G T.length ts bs f ∧ ts.map IV.x = T ∧ (∀ i, i < T.length → (ts[i]?.getD noI).n = 3) ∧ (0 < T.length → lo ≤ G) ∧ ∀ j, j < T.length → lo ≤ bs j
theorem UF.below {W W' : World} {a : Option Addr} {lo : Nat} {T : List (List Int)} {f : Nat → List Int} (h : UF W a lo T f) (b : Below W.heap.size W W') : UF W' a lo T f := by
  obtain ⟨G, ts, bs, s, r⟩ := h
  exact ⟨G, ts, bs, s.below b, r⟩
theorem UF.touch {S : Nat → Prop} {W W' : World} {a : Option Addr} {lo : Nat} {T : List (List Int)} {f : Nat → List Int} (h : UF W a lo T f) (t : Touch S W W') (hs : ∀ k, S k → k < lo) : UF W' a lo T f := by
  obtain ⟨G, ts, bs, s, r1, r2, r3, r4⟩ := h
  exact ⟨G, ts, bs, s.touch t (fun h0 hh => by have := hs _ hh; have := r3 h0; omega) (fun j hj hh => by have := hs _ hh; have := r4 j hj; omega), r1, r2, r3, r4⟩
theorem UF.isg {W : World} {a : Option Addr} {lo : Nat} {T : List (List Int)} (h : UF W a lo T (tF T)) : ∃ ts, ISG W a ts ∧ ts.map IV.x = T := by
  obtain ⟨G, ts, bs, s, r1, r2, _⟩ := h
  exact ⟨ts, (s.ext (fun j hj => (map_at r1 hj).symm)).isg (map_len r1) r2, r1⟩

theorem scatforms_at (T : List (List Int)) (ad : Option Addr) (N cap : Nat) (gs : List L2V) (w : World) (hN : gs.length = N) (hF : LSG w ad gs) (hN1 : N ≤ 1048576) (hT : catT (catB N gs) (catP gs) = T) :
    Calls Try.prog 40 #[.slice ad N cap] w fun e w' => ∃ a cp ts, e = .returned (.slice a T.length cp) ∧ Below w.heap.size w w' ∧ ISG w' a ts ∧ ts.map IV.x = T ∧ T.length ≤ 600000 := by
  refine (scatforms_any ad N cap gs w hN hF hN1).mono ?_
  rintro e w' ⟨b, ⟨h, G, rfl⟩ | ⟨h, G, cG, ts, nt, rfl, hl, hg, hx, hnt⟩⟩
  · rw [h, catT] at hT
    simp only [Bool.false_eq_true, if_false] at hT
    subst hT
    exact ⟨_, 0, [], rfl, b, fun i hi => by simp at hi, rfl, by simp⟩
  · rw [h, catT] at hT
    simp only [if_true] at hT
    rw [hT] at hx
    have := map_len hx
    exact ⟨_, cG, ts, by rw [← this, hl], b, hg, hx, by omega⟩

theorem icatforms_at (T : List (List Int)) (ad : Option Addr) (N cap : Nat) (gs : List L2V) (w : World) (hN : gs.length = N) (hF : LSG w ad gs) (hN1 : N ≤ 1048576) (hT : catT (catB N gs) (catP gs) = T) :
    Calls Try.prog 38 #[.slice ad N cap] w fun e w' => ∃ a cp, e = .returned (.slice a T.length cp) ∧ Below w.heap.size w w' ∧ UF w' a w.heap.size T (tF T) := by
  refine (icatforms_any ad N cap gs w hN hF hN1).mono ?_
  rintro e w' ⟨b, ⟨h, rfl⟩ | ⟨h, G, cG, ts, bs, rfl, hx, jo⟩⟩
  · rw [h, catT] at hT
    simp only [Bool.false_eq_true, if_false] at hT
    subst hT
    exact ⟨_, 0, rfl, b, 0, [], fun _ => 0, SL.none _ _ _ _ _ _, rfl, fun i hi => by simp at hi, fun h => by simp at h, fun j hj => by simp at hj⟩
  · rw [h, catT] at hT
    simp only [if_true] at hT
    rw [hT] at hx jo ⊢
    have hl := map_len hx
    have s := jo.sl hl
    refine ⟨_, cG, rfl, b, G, ts, bs, s.ext (fun j hj => map_at hx hj), hx, fun i hi => (jo.k i (by omega)).1, fun _ => (jo.blk (g := G) rfl).1, fun j hj => (jo.k j (by omega)).2.2.1⟩

end Go.Proofs.Ytjggppnffkcmbaa
namespace Go.Proofs.Ytjggppnffkcmbaa
open Go.RowKit Go.Deep
set_option linter.unusedVariables false
set_option maxRecDepth 100000

def GoodP (ps : List (List Int)) : Prop := ps.Nodup ∧ [0, 0, 0] ∉ ps
theorem addPb_pre (ps : List (List Int)) (p : List Int) : ps <+: addPb ps p := by
  unfold addPb
  split
  · exact List.prefix_refl _
  · exact List.prefix_append _ _
theorem addPb_good {ps : List (List Int)} (p : List Int) (h : GoodP ps) : GoodP (addPb ps p) := by
  unfold addPb
  split
  · exact h
  · rename_i hn
    have h1 : p ∉ ps := fun e => hn (.inl e)
    have h2 : p ≠ [0, 0, 0] := fun e => hn (.inr e)
    refine ⟨?_, fun e => ?_⟩
    · rw [List.nodup_append]
      refine ⟨h.1, by simp, fun a ha b hb e => ?_⟩
      rw [List.mem_singleton] at hb
      subst hb; subst e
      exact h1 ha
    · rcases List.mem_append.1 e with e | e
      · exact h.2 e
      · rw [List.mem_singleton] at e
        exact h2 e.symm
theorem addPb_has (ps : List (List Int)) (p : List Int) : p = [0, 0, 0] ∨ p ∈ addPb ps p := by
  unfold addPb
  split
  · rename_i h
    rcases h with h | h
    · exact .inr h
    · exact .inl h
  · exact .inr (by simp)
theorem foldl_pre {α : Type} {f : List (List Int) → α → List (List Int)} (hf : ∀ ps a, ps <+: f ps a) : ∀ (xs : List α) (ps : List (List Int)), ps <+: xs.foldl f ps
  | [], ps => List.prefix_refl _
  | x :: xs, ps => (hf ps x).trans (foldl_pre hf xs (f ps x))
theorem foldl_good {α : Type} {f : List (List Int) → α → List (List Int)} (hf : ∀ ps a, GoodP ps → GoodP (f ps a)) : ∀ (xs : List α) (ps : List (List Int)), GoodP ps → GoodP (xs.foldl f ps)
  | [], ps, h => h
  | x :: xs, ps, h => foldl_good hf xs (f ps x) (hf ps x h)
theorem foldl_has {α : Type} {f : List (List Int) → α → List (List Int)} (hf : ∀ ps a, ps <+: f ps a) {p : List Int} {a : α} (h : ∀ ps, p = [0, 0, 0] ∨ p ∈ f ps a) : ∀ (xs : List α), a ∈ xs → ∀ ps, p = [0, 0, 0] ∨ p ∈ xs.foldl f ps
  | [], ha, ps => by simp at ha
  | x :: xs, ha, ps => by
    rcases List.mem_cons.1 ha with e | e
    · subst e
      rcases h ps with h1 | h1
      · exact .inl h1
      · exact .inr ((foldl_pre hf xs _).subset h1)
    · exact foldl_has hf h xs e (f ps x)
theorem guardsP_pre (ps : List (List Int)) (fs : List Frm) : ps <+: guardsP ps fs := foldl_pre (fun ps f => addPb_pre ps _) fs ps
theorem rowsP_pre (ps : List (List Int)) (rs : List RowM) : ps <+: rowsP ps rs := foldl_pre (fun ps r => guardsP_pre ps _) rs ps
theorem actsP_pre (ps : List (List Int)) (ss : List L2V) : ps <+: actsP ps ss := foldl_pre (fun ps s => rowsP_pre ps _) ss ps
theorem guardsP_good {ps : List (List Int)} (fs : List Frm) (h : GoodP ps) : GoodP (guardsP ps fs) := foldl_good (fun ps f h => addPb_good _ h) fs ps h
theorem rowsP_good {ps : List (List Int)} (rs : List RowM) (h : GoodP ps) : GoodP (rowsP ps rs) := foldl_good (fun ps f h => guardsP_good _ h) rs ps h
theorem actsP_good {ps : List (List Int)} (ss : List L2V) (h : GoodP ps) : GoodP (actsP ps ss) := foldl_good (fun ps f h => rowsP_good _ h) ss ps h
theorem pots3_good : GoodP pots3 := by unfold GoodP pots3; decide
theorem catP_good (ss : List L2V) : GoodP (catP ss) := actsP_good ss pots3_good
theorem catP_pre (ss : List L2V) : pots3 <+: catP ss := actsP_pre pots3 ss
theorem catP_len (ss : List L2V) : 3 ≤ (catP ss).length := (catP_pre ss).length_le
theorem catP_guard {ss : List L2V} {s : L2V} {r : RowM} {f : Frm} (hs : s ∈ ss) (hr : r ∈ rowsL s.x) (hf : f ∈ r.guards) : partL f.1 = [0, 0, 0] ∨ partL f.1 ∈ catP ss :=
  foldl_has (f := fun ps (s : L2V) => rowsP ps (rowsL s.x)) (fun ps s => rowsP_pre ps _) (fun ps => foldl_has (f := fun ps (r : RowM) => guardsP ps r.guards) (fun ps r => guardsP_pre ps _) (fun ps => foldl_has (f := fun ps (f : Frm) => addPb ps (partL f.1)) (fun ps f => addPb_pre ps _) (fun ps => addPb_has ps _) _ hf ps) _ hr ps) ss hs pots3
theorem has_at : ∀ (ps : List (List Int)), ps.Nodup → ∀ (k i : Nat) (hi : i < ps.length), hasFrom (ps[i]?.getD []) k ps = ((k + i : Nat) : Int)
  | [], _, k, i, hi => by simp at hi
  | q :: ps, hn, k, i, hi => by
    rw [hasFrom]
    cases i with
    | zero => simp [eqB]
    | succ i =>
      have hi2 : i < ps.length := by simpa using hi
      have e : (q :: ps)[i + 1]?.getD [] = ps[i]?.getD [] := rfl
      rw [e]
      have hne : eqB q (ps[i]?.getD []) = false := by
        rw [List.getElem?_eq_getElem hi2]
        have h1 := (List.nodup_cons.1 hn).1
        simp only [eqB, Option.getD_some, decide_eq_false_iff_not]
        intro e2
        rw [e2] at h1
        exact h1 (List.getElem_mem _)
      rw [hne]
      simp only [Bool.false_eq_true, if_false]
      rw [has_at ps (List.nodup_cons.1 hn).2 (k + 1) i hi2]
      omega
theorem has_pos {p : List Int} {ps : List (List Int)} {k : Nat} (h : p ∈ ps) : ¬ hasFrom p k ps < 0 := fun e => ((has_mem p ps k).1 e) h
theorem pot_in {ss : List L2V} {p : List Int} (h : p ∈ pots3) : p ∈ catP ss := (catP_pre ss).subset h

end Go.Proofs.Ytjggppnffkcmbaa
namespace Go.Proofs.Ytjggppnffkcmbaa
open Go.ChangeShapes Go.WideShapes Go.ChangeAt Go.RowKit Go.Joins Go.Deep
set_option linter.unusedVariables false
set_option maxRecDepth 100000

theorem open_formsC {H : Type} {enc : TypeId × Value → H} {W : World} {fuel : Nat} {v : Value} {y : DataW H × List MemPlace}
    (hf : DataW.trod enc Try.prog W 0 (fun _ => true) true fuel 23 [v] = some y) :
    ∃ ad N cap fs, v = .slice ad N cap ∧ fs.length = N ∧ FormsM W ad fs ∧ N ≤ maxLen := by
  obtain ⟨ad, N, cap, fs, hv, hl, hN, hall⟩ := open_sliceC noFV FV.cs (fun f => Ints W f.a f.n f.C ∧ Ints W f.c f.m f.D ∧ f.n ≤ maxLen ∧ f.m ≤ maxLen) (c := 3) (by omega) Try.underlying23 (by kernel_rfl) (fun _ => rfl) (fun fuel cs x hx => open_formC hx) hf
  refine ⟨ad, N, cap, fs, hv, hl, fun i hi => ?_, hN⟩
  obtain ⟨b, off, e, hc, hr⟩ := hall i hi
  exact ⟨b, off, e, hc 0 (by omega), hc 1 (by omega), hc 2 (by omega), hr⟩

/-- A row as a value. -/
abbrev rowV (g : Option Addr) (G cg : Nat) (a : Option Addr) (A ca : Nat) (t : Option Addr) (T ct : Nat) (st : Bool) : Value := .agg #[.slice g G cg, .slice a A ca, .slice t T ct, .bool st]

theorem open_rowR {H : Type} {enc : TypeId × Value → H} {W : World} {r : Reach} {b0 : Nat} {v : Value} {d : DataW H} {p : List MemPlace}
    (hv : Value.okWide Try.prog W r b0 25 v) (h : DataW.Trod enc Try.prog W 0 (fun _ => true) true 25 v d p) :
    ∃ g G cg gs a A ca ls t T ct ts st, v = rowV g G cg a A ca t T ct st ∧ gs.length = G ∧ FormsM W g gs ∧ G ≤ maxLen ∧ ls.length = A ∧ FormsM W a ls ∧ A ≤ maxLen ∧ ts.length = T ∧ FormsM W t ts ∧ T ≤ maxLen := by
  obtain ⟨v0, v1, v2, v3, y0, y1, y2, y3, k, rfl, -, -, h0, h1, h2, h3⟩ := open_agg4 Try.underlying25 (by kernel_rfl) (by kernel_rfl) hv h
  obtain ⟨g, G, cg, gs, rfl, hg1, hg2, hg3⟩ := open_formsC h0
  obtain ⟨a, A, ca, ls, rfl, ha1, ha2, ha3⟩ := open_formsC h1
  obtain ⟨t, T, ct, ts, rfl, ht1, ht2, ht3⟩ := open_formsC h2
  obtain ⟨st, e3, _⟩ := DataW.trod_bool Try.underlying4 h3
  simp at e3
  subst e3
  exact ⟨g, G, cg, gs, a, A, ca, ls, t, T, ct, ts, st, rfl, hg1, hg2, hg3, ha1, ha2, ha3, ht1, ht2, ht3⟩

end Go.Proofs.Ytjggppnffkcmbaa
namespace Go.Proofs.Ytjggppnffkcmbaa
open Go.RowKit
set_option linter.unusedVariables false
set_option maxRecDepth 100000

set_option maxHeartbeats 800000 in
theorem l3Forms_any (ad : Option Addr) (N cap : Nat) (fs : List FV) (w : World) (hN : fs.length = N) (hF : FormsG w ad fs) (hN1 : N ≤ 1048576) :
    Calls Try.prog 57 #[.slice ad N cap] w fun e w' => e = .returned (.bool (fs.all FV.ok)) ∧ Below w.heap.size w w' := by
  have HN : Hid (fs.length = N) := hN
  clear hN
  go_enter Try.func57, Try.ntmps57
  go_wp2_with fail
  go_loopw [3] (fun i wr => ∃ k : Nat, k ≤ N ∧ i = .int .i64 k ∧ Below w.heap.size w wr ∧ (fs.take k).all FV.ok = true) (fun i _ => N - (intOf i).toNat)
  case atStart => exact ⟨0, Nat.zero_le _, rfl, Below.refl _ _, by simp⟩
  case round =>
    obtain ⟨k, hk, rfl, hb, hall⟩ := hrel
    have HA : Hid ((fs.take k).all FV.ok = true) := hall
    clear hall
    by_cases hlt : k < N
    · obtain ⟨b, off, rfl, e0, e1, e2, e3⟩ := (hF.below hb) k (by rw [HN.out]; exact hlt)
      generalize HG : fs[k]?.getD noFV = g at *
      have HG' : Hid (fs[k]?.getD noFV = g) := HG
      clear HG hF
      obtain ⟨ga, gn, gcap, gc, gm, gcap', gK, gC, gD⟩ := g
      obtain ⟨iC, iD, hn, hm⟩ := e3
      simp only at e0 e1 e2 iC iD hn hm
      cases hf : formB gn gm gC gD gK
      · go_wp2_with fail
        refine (sok_any _ _ _ _ _ _ _ gC gD _ iC iD hn hm).mono ?_
        rintro e w1 ⟨rfl, b1⟩
        have B1 := hb.trans (b1.mono hb.size)
        rw [hf]
        go_wp2
        go_ret
        exact ⟨ret_bool (all_no (k := k) (by rw [HN.out]; exact hlt) (by rw [HG'.out]; exact hf)).symm, B1⟩
      · go_wp2_with fail
        refine (sok_any _ _ _ _ _ _ _ gC gD _ iC iD hn hm).mono ?_
        rintro e w1 ⟨rfl, b1⟩
        have B1 := hb.trans (b1.mono hb.size)
        clear b1 hb iC iD e0 e1 e2
        rw [hf]
        go_wp2
        go_roundw
        case rel => exact ⟨k + 1, by omega, by go_num, B1, all_take_succ (by rw [HN.out]; exact hlt) HA.out (by rw [HG'.out]; exact hf)⟩
        case measure => simp [intOf]; omega
    · go_wp2
      go_ret
      exact ⟨ret_bool (by have := HA.out; rw [List.take_of_length_le (by rw [HN.out]; omega)] at this; exact this.symm), hb⟩

/-- Whether a row is ok. -/
def rowB (gs ls ts : List FV) (A T : Nat) (st : Bool) : Bool := gs.all FV.ok && ls.all FV.ok && ts.all FV.ok && (if st then ((A : Int) + T == 0) else ((A : Int) == 3))

/-- A row that lies in memory. -/
structure RowAt (w : World) (g : Option Addr) (G : Nat) (gs : List FV) (a : Option Addr) (A : Nat) (ls : List FV) (t : Option Addr) (T : Nat) (ts : List FV) : Prop where
  g : FormsG w g gs
  a : FormsG w a ls
  t : FormsG w t ts
  hg : gs.length = G
  ha : ls.length = A
  ht : ts.length = T
  zg : G ≤ 1048576
  za : A ≤ 1048576
  zt : T ≤ 1048576
theorem RowAt.below {w w' : World} {g : Option Addr} {G : Nat} {gs : List FV} {a : Option Addr} {A : Nat} {ls : List FV} {t : Option Addr} {T : Nat} {ts : List FV} (h : RowAt w g G gs a A ls t T ts) (b : Below w.heap.size w w') : RowAt w' g G gs a A ls t T ts :=
  ⟨h.g.below b, h.a.below b, h.t.below b, h.hg, h.ha, h.ht, h.zg, h.za, h.zt⟩
theorem RowAt.alloc {w : World} {g : Option Addr} {G : Nat} {gs : List FV} {a : Option Addr} {A : Nat} {ls : List FV} {t : Option Addr} {T : Nat} {ts : List FV} (h : RowAt w g G gs a A ls t T ts) (o : Obj) : RowAt (w.alloc o) g G gs a A ls t T ts := h.below ((Below.refl _ _).alloc (Nat.le_refl _) _)
theorem Cel.quad {w : World} {B : Nat} {x y z u : Value} {t : TypeId} (h : Cel w B [x, y, z, u] t) : w.cell? ⟨B, 0, none⟩ = some x ∧ w.cell? ⟨B, 1, none⟩ = some y ∧ w.cell? ⟨B, 2, none⟩ = some z ∧ w.cell? ⟨B, 3, none⟩ = some u := ⟨h.cell 0, h.cell 1, h.cell 2, h.cell 3⟩

/-- A box that a call lays first, and old memory. -/
structure BX (w : World) (B : Nat) (la : List Value) (ty : TypeId) (W : World) : Prop where
  p : Cel W B la ty
  b : Below w.heap.size w W
theorem BX.new (w : World) (la : List Value) (ty : TypeId) : BX w w.heap.size la ty (w.alloc (.cells la.toArray ty)) := ⟨Cel.new w la ty, (Below.refl _ _).alloc (Nat.le_refl _) _⟩
theorem BX.below {w W W' : World} {B : Nat} {la : List Value} {ty : TypeId} (h : BX w B la ty W) (b : Below W.heap.size W W') : BX w B la ty W' := ⟨h.p.below b, h.b.trans (b.mono h.b.size)⟩
theorem BX.alloc {w W : World} {B : Nat} {la : List Value} {ty : TypeId} (h : BX w B la ty W) (o : Obj) : BX w B la ty (W.alloc o) := h.below ((Below.refl _ _).alloc (Nat.le_refl _) _)

set_option maxHeartbeats 1600000 in
theorem srow_any (g : Option Addr) (G cg : Nat) (gs : List FV) (a : Option Addr) (A ca : Nat) (ls : List FV) (t : Option Addr) (T ct : Nat) (ts : List FV) (st : Bool) (w : World) (h : RowAt w g G gs a A ls t T ts) :
    Calls Try.prog 16 #[rowV g G cg a A ca t T ct st] w fun e w' => e = .returned (.bool (rowB gs ls ts A T st)) ∧ Below w.heap.size w w' := by
  have n0 := BX.new w [.slice g G cg, .slice a A ca, .slice t T ct, .bool st] 25
  have z1 := h.za
  have z2 := h.zt
  cases h1 : gs.all FV.ok
  · go_enter Try.func16, Try.ntmps16
    go_wp2_with fail
    refine (l3Forms_any _ _ _ gs _ h.hg (h.alloc _).g h.zg).mono ?_
    rintro e w1 ⟨rfl, b1⟩
    have n1 := n0.below b1
    go_wp2
    go_ret
    exact ⟨ret_bool (by simp [rowB, h1]), n1.b⟩
  · cases h2 : ls.all FV.ok
    · go_enter Try.func16, Try.ntmps16
      go_wp2_with fail
      refine (l3Forms_any _ _ _ gs _ h.hg (h.alloc _).g h.zg).mono ?_
      rintro e w1 ⟨rfl, b1⟩
      have n1 := n0.below b1
      obtain ⟨c0, c1, c2, c3⟩ := n1.p.quad
      go_wp2_with fail
      refine (l3Forms_any _ _ _ ls _ h.ha (h.below n1.b).a h.za).mono ?_
      rintro e w2 ⟨rfl, b2⟩
      have n2 := n1.below b2
      clear c0 c1 c2 c3
      go_wp2
      go_ret
      exact ⟨ret_bool (by simp [rowB, h2]), n2.b⟩
    · cases h3 : ts.all FV.ok
      · go_enter Try.func16, Try.ntmps16
        go_wp2_with fail
        refine (l3Forms_any _ _ _ gs _ h.hg (h.alloc _).g h.zg).mono ?_
        rintro e w1 ⟨rfl, b1⟩
        have n1 := n0.below b1
        obtain ⟨c0, c1, c2, c3⟩ := n1.p.quad
        go_wp2_with fail
        refine (l3Forms_any _ _ _ ls _ h.ha (h.below n1.b).a h.za).mono ?_
        rintro e w2 ⟨rfl, b2⟩
        have n2 := n1.below b2
        clear c0 c1 c2 c3
        obtain ⟨c0, c1, c2, c3⟩ := n2.p.quad
        go_wp2_with fail
        refine (l3Forms_any _ _ _ ts _ h.ht (h.below n2.b).t h.zt).mono ?_
        rintro e w3 ⟨rfl, b3⟩
        have n3 := n2.below b3
        clear c0 c1 c2 c3
        go_wp2
        go_ret
        exact ⟨ret_bool (by simp [rowB, h3]), n3.b⟩
      · cases st
        · go_enter Try.func16, Try.ntmps16
          go_wp2_with fail
          refine (l3Forms_any _ _ _ gs _ h.hg (h.alloc _).g h.zg).mono ?_
          rintro e w1 ⟨rfl, b1⟩
          have n1 := n0.below b1
          obtain ⟨c0, c1, c2, c3⟩ := n1.p.quad
          go_wp2_with fail
          refine (l3Forms_any _ _ _ ls _ h.ha (h.below n1.b).a h.za).mono ?_
          rintro e w2 ⟨rfl, b2⟩
          have n2 := n1.below b2
          clear c0 c1 c2 c3
          obtain ⟨c0, c1, c2, c3⟩ := n2.p.quad
          go_wp2_with fail
          refine (l3Forms_any _ _ _ ts _ h.ht (h.below n2.b).t h.zt).mono ?_
          rintro e w3 ⟨rfl, b3⟩
          have n3 := n2.below b3
          clear c0 c1 c2 c3
          obtain ⟨c0, c1, c2, c3⟩ := n3.p.quad
          go_wp2
          go_ret
          exact ⟨ret_bool (by simp [rowB, h1, h2, h3]), n3.b⟩
        · go_enter Try.func16, Try.ntmps16
          go_wp2_with fail
          refine (l3Forms_any _ _ _ gs _ h.hg (h.alloc _).g h.zg).mono ?_
          rintro e w1 ⟨rfl, b1⟩
          have n1 := n0.below b1
          obtain ⟨c0, c1, c2, c3⟩ := n1.p.quad
          go_wp2_with fail
          refine (l3Forms_any _ _ _ ls _ h.ha (h.below n1.b).a h.za).mono ?_
          rintro e w2 ⟨rfl, b2⟩
          have n2 := n1.below b2
          clear c0 c1 c2 c3
          obtain ⟨c0, c1, c2, c3⟩ := n2.p.quad
          go_wp2_with fail
          refine (l3Forms_any _ _ _ ts _ h.ht (h.below n2.b).t h.zt).mono ?_
          rintro e w3 ⟨rfl, b3⟩
          have n3 := n2.below b3
          clear c0 c1 c2 c3
          obtain ⟨c0, c1, c2, c3⟩ := n3.p.quad
          go_wp2
          go_ret
          exact ⟨ret_bool (by simp [rowB, h1, h2, h3]), n3.b⟩

set_option maxHeartbeats 1600000 in
theorem irow_any (g : Option Addr) (G cg : Nat) (gs : List FV) (a : Option Addr) (A ca : Nat) (ls : List FV) (t : Option Addr) (T ct : Nat) (ts : List FV) (st : Bool) (w : World) (h : RowAt w g G gs a A ls t T ts) :
    Calls Try.prog 10 #[rowV g G cg a A ca t T ct st] w fun e w' => e = .returned (.bool (rowB gs ls ts A T st)) ∧ Below w.heap.size w w' := by
  have n0 := BX.new w [.slice g G cg, .slice a A ca, .slice t T ct, .bool st] 25
  have z1 := h.za
  have z2 := h.zt
  cases h1 : gs.all FV.ok
  · go_enter Try.func10, Try.ntmps10
    go_wp2_with fail
    refine (allForms_any _ _ _ gs _ h.hg (h.alloc _).g h.zg).mono ?_
    rintro e w1 ⟨rfl, b1⟩
    have n1 := n0.below b1
    go_wp2
    go_ret
    exact ⟨ret_bool (by simp [rowB, h1]), n1.b⟩
  · cases h2 : ls.all FV.ok
    · go_enter Try.func10, Try.ntmps10
      go_wp2_with fail
      refine (allForms_any _ _ _ gs _ h.hg (h.alloc _).g h.zg).mono ?_
      rintro e w1 ⟨rfl, b1⟩
      have n1 := n0.below b1
      obtain ⟨c0, c1, c2, c3⟩ := n1.p.quad
      go_wp2_with fail
      refine (allForms_any _ _ _ ls _ h.ha (h.below n1.b).a h.za).mono ?_
      rintro e w2 ⟨rfl, b2⟩
      have n2 := n1.below b2
      clear c0 c1 c2 c3
      go_wp2
      go_ret
      exact ⟨ret_bool (by simp [rowB, h2]), n2.b⟩
    · cases h3 : ts.all FV.ok
      · go_enter Try.func10, Try.ntmps10
        go_wp2_with fail
        refine (allForms_any _ _ _ gs _ h.hg (h.alloc _).g h.zg).mono ?_
        rintro e w1 ⟨rfl, b1⟩
        have n1 := n0.below b1
        obtain ⟨c0, c1, c2, c3⟩ := n1.p.quad
        go_wp2_with fail
        refine (allForms_any _ _ _ ls _ h.ha (h.below n1.b).a h.za).mono ?_
        rintro e w2 ⟨rfl, b2⟩
        have n2 := n1.below b2
        clear c0 c1 c2 c3
        obtain ⟨c0, c1, c2, c3⟩ := n2.p.quad
        go_wp2_with fail
        refine (allForms_any _ _ _ ts _ h.ht (h.below n2.b).t h.zt).mono ?_
        rintro e w3 ⟨rfl, b3⟩
        have n3 := n2.below b3
        clear c0 c1 c2 c3
        go_wp2
        go_ret
        exact ⟨ret_bool (by simp [rowB, h3]), n3.b⟩
      · cases st
        · go_enter Try.func10, Try.ntmps10
          go_wp2_with fail
          refine (allForms_any _ _ _ gs _ h.hg (h.alloc _).g h.zg).mono ?_
          rintro e w1 ⟨rfl, b1⟩
          have n1 := n0.below b1
          obtain ⟨c0, c1, c2, c3⟩ := n1.p.quad
          go_wp2_with fail
          refine (allForms_any _ _ _ ls _ h.ha (h.below n1.b).a h.za).mono ?_
          rintro e w2 ⟨rfl, b2⟩
          have n2 := n1.below b2
          clear c0 c1 c2 c3
          obtain ⟨c0, c1, c2, c3⟩ := n2.p.quad
          go_wp2_with fail
          refine (allForms_any _ _ _ ts _ h.ht (h.below n2.b).t h.zt).mono ?_
          rintro e w3 ⟨rfl, b3⟩
          have n3 := n2.below b3
          clear c0 c1 c2 c3
          obtain ⟨c0, c1, c2, c3⟩ := n3.p.quad
          go_wp2
          go_ret
          exact ⟨ret_bool (by simp [rowB, h1, h2, h3]), n3.b⟩
        · by_cases hA : (A : Int) = 0
          · have hA' : ((A : Int) == 0) = true := by simp [hA]
            go_enter Try.func10, Try.ntmps10
            go_wp2_with fail
            refine (allForms_any _ _ _ gs _ h.hg (h.alloc _).g h.zg).mono ?_
            rintro e w1 ⟨rfl, b1⟩
            have n1 := n0.below b1
            obtain ⟨c0, c1, c2, c3⟩ := n1.p.quad
            go_wp2_with fail
            refine (allForms_any _ _ _ ls _ h.ha (h.below n1.b).a h.za).mono ?_
            rintro e w2 ⟨rfl, b2⟩
            have n2 := n1.below b2
            clear c0 c1 c2 c3
            obtain ⟨c0, c1, c2, c3⟩ := n2.p.quad
            go_wp2_with fail
            refine (allForms_any _ _ _ ts _ h.ht (h.below n2.b).t h.zt).mono ?_
            rintro e w3 ⟨rfl, b3⟩
            have n3 := n2.below b3
            clear c0 c1 c2 c3
            obtain ⟨c0, c1, c2, c3⟩ := n3.p.quad
            go_wp2
            go_ret
            exact ⟨ret_bool (by simp only [rowB, h1, h2, h3, hA, Int.zero_add, Bool.true_and, if_true]), n3.b⟩
          · have hA' : ((A : Int) == 0) = false := by simpa using hA
            go_enter Try.func10, Try.ntmps10
            go_wp2_with fail
            refine (allForms_any _ _ _ gs _ h.hg (h.alloc _).g h.zg).mono ?_
            rintro e w1 ⟨rfl, b1⟩
            have n1 := n0.below b1
            obtain ⟨c0, c1, c2, c3⟩ := n1.p.quad
            go_wp2_with fail
            refine (allForms_any _ _ _ ls _ h.ha (h.below n1.b).a h.za).mono ?_
            rintro e w2 ⟨rfl, b2⟩
            have n2 := n1.below b2
            clear c0 c1 c2 c3
            obtain ⟨c0, c1, c2, c3⟩ := n2.p.quad
            go_wp2_with fail
            refine (allForms_any _ _ _ ts _ h.ht (h.below n2.b).t h.zt).mono ?_
            rintro e w3 ⟨rfl, b3⟩
            have n3 := n2.below b3
            clear c0 c1 c2 c3
            obtain ⟨c0, c1, c2, c3⟩ := n3.p.quad
            go_wp2
            go_ret
            exact ⟨ret_bool (by simp [rowB, h1, h2, h3]; omega), n3.b⟩

theorem MF.touch {S : Nat → Prop} {W W' : World} {B lo : Nat} {cs : List (List Value)} {gs : List FV} {p q : Nat → Nat} (h : MF W B lo cs gs p q) (t : Touch S W W') (hs : ∀ k, S k → k < B ∨ W.heap.size ≤ k ∨ ∀ i, i < gs.length → (k ≠ B ∧ k ≠ p i ∧ k ≠ q i)) (hB : ¬ S B) : MF W' B lo cs gs p q := by
  have hb := h.b
  refine ⟨by rw [t.block B (lt_of_block h.c) hB]; exact h.c, h.t, fun i hi => ?_, h.b, Nat.le_trans h.s t.size⟩
  obtain ⟨a1, a2, a3, a4, a5, a6, a7, a8, a9, a10, a11, a12, a13⟩ := h.l i hi
  have k1 : Blk W' (p i) (gs[i]?.getD noFV).C := by
    unfold Blk at *
    rw [t.block _ (lt_of_block a4) (fun hh => by
      rcases hs _ hh with e | e | e
      · omega
      · omega
      · exact (e i hi).2.1 rfl)]; exact a4
  have k2 : Blk W' (q i) (gs[i]?.getD noFV).D := by
    unfold Blk at *
    rw [t.block _ (lt_of_block a5) (fun hh => by
      rcases hs _ hh with e | e | e
      · omega
      · omega
      · exact (e i hi).2.2 rfl)]; exact a5
  exact ⟨a1, a2, a3, k1, k2, a6, a7, a8, a9, a10, a11, Nat.lt_of_lt_of_le a12 t.size, a13⟩
theorem MF.set {W : World} {B lo X : Nat} {cs : List (List Value)} {gs : List FV} {p q : Nat → Nat} (h : MF W B lo cs gs p q) (hX : X < B) (i : Nat) (v : Value) : MF (W.setCell ⟨X, i, none⟩ v) B lo cs gs p q :=
  h.touch (S := fun k => k = X) (Touch.setCell (S := fun k => k = X) (Touch.refl _ _) rfl v) (fun k hk => .inl (by omega)) (fun hh => by omega)
theorem MF.q_lt {W : World} {B lo : Nat} {cs : List (List Value)} {gs : List FV} {p q : Nat → Nat} (h : MF W B lo cs gs p q) : ∀ i, i < gs.length → q i < W.heap.size := fun i hi => by
  obtain ⟨a1, a2, a3, a4, a5, a6, a7, a8, a9, a10, a11, a12, a13⟩ := h.l i hi
  exact a12
theorem MF.lt {W : World} {B lo : Nat} {cs : List (List Value)} {gs : List FV} {p q : Nat → Nat} (h : MF W B lo cs gs p q) : B < W.heap.size := lt_of_block h.c

/-- Three slices of forms that a copy of a row has, each behind the one ahead of it. -/
structure RM (W : World) (lo : Nat) (B1 B2 B3 : Nat) (G A T : Nat) (gs ls ts : List FV) (X Y Z : List (List Value)) (p1 q1 p2 q2 p3 q3 : Nat → Nat) : Prop where
  g : MF W B1 (B1 + 1) X gs p1 q1
  a : MF W B2 (B2 + 1) Y ls p2 q2
  t : MF W B3 (B3 + 1) Z ts p3 q3
  hg : gs.length = G
  ha : ls.length = A
  ht : ts.length = T
  xg : X.length = G
  xa : Y.length = A
  xt : Z.length = T
  l1 : lo ≤ B1
  l2 : B1 < B2
  l3 : B2 < B3
  u1 : ∀ i, i < G → q1 i < B2
  u2 : ∀ i, i < A → q2 i < B3

/-- A copy's forms, one by one, are the forms it was made of. -/
theorem copies_eq {fs gs : List FV} {N : Nat} (hg : gs.length = N) {hs : List FV} (hh : hs.length = N) (h1 : copies fs gs) (h2 : copies fs hs) : ∀ i, i < N → eqF (gs[i]?.getD noFV).C (gs[i]?.getD noFV).D (gs[i]?.getD noFV).K (hs[i]?.getD noFV).C (hs[i]?.getD noFV).D (hs[i]?.getD noFV).K = true := fun i hi => by
  obtain ⟨e1, e2, e3, _⟩ := h1 i (by omega)
  obtain ⟨d1, d2, d3, _⟩ := h2 i (by omega)
  rw [e1, e2, e3, d1, d2, d3]
  exact eqF_refl _ _ _
theorem copies_ok {fs gs : List FV} (hl : gs.length = fs.length) (h : copies fs gs) : gs.all FV.ok = fs.all FV.ok := by
  rw [Bool.eq_iff_iff, List.all_eq_true, List.all_eq_true]
  have key : ∀ i, i < gs.length → (gs[i]?.getD noFV).ok = (fs[i]?.getD noFV).ok := fun i hi => by
    obtain ⟨e1, e2, e3, e4, e5⟩ := h i hi
    simp only [FV.ok, e1, e2, e3, e4, e5]
  constructor
  · intro hh x hx
    obtain ⟨i, hi, rfl⟩ := List.getElem_of_mem hx
    have k := key i (by omega)
    rw [List.getElem?_eq_getElem hi, List.getElem?_eq_getElem (by omega)] at k
    simp only [Option.getD_some] at k
    rw [← k]; exact hh _ (List.getElem_mem _)
  · intro hh x hx
    obtain ⟨i, hi, rfl⟩ := List.getElem_of_mem hx
    have k := key i (by omega)
    rw [List.getElem?_eq_getElem hi, List.getElem?_eq_getElem (by omega)] at k
    simp only [Option.getD_some] at k
    rw [k]; exact hh _ (List.getElem_mem _)
theorem RM.at {W : World} {lo B1 B2 B3 G A T : Nat} {gs ls ts : List FV} {X Y Z : List (List Value)} {p1 q1 p2 q2 p3 q3 : Nat → Nat} (h : RM W lo B1 B2 B3 G A T gs ls ts X Y Z p1 q1 p2 q2 p3 q3) (zg : G ≤ 1048576) (za : A ≤ 1048576) (zt : T ≤ 1048576) : RowAt W (some ⟨B1, 0, none⟩) G gs (some ⟨B2, 0, none⟩) A ls (some ⟨B3, 0, none⟩) T ts :=
  ⟨h.g.g, h.a.g, h.t.g, h.hg, h.ha, h.ht, zg, za, zt⟩
theorem RM.below {W W' : World} {lo B1 B2 B3 G A T : Nat} {gs ls ts : List FV} {X Y Z : List (List Value)} {p1 q1 p2 q2 p3 q3 : Nat → Nat} (h : RM W lo B1 B2 B3 G A T gs ls ts X Y Z p1 q1 p2 q2 p3 q3) (b : Below W.heap.size W W') : RM W' lo B1 B2 B3 G A T gs ls ts X Y Z p1 q1 p2 q2 p3 q3 :=
  ⟨h.g.below b, h.a.below b, h.t.below b, h.hg, h.ha, h.ht, h.xg, h.xa, h.xt, h.l1, h.l2, h.l3, h.u1, h.u2⟩

end Go.Proofs.Ytjggppnffkcmbaa
namespace Go.Proofs.Ytjggppnffkcmbaa
open Go.RowKit
set_option linter.unusedVariables false
set_option maxRecDepth 100000

theorem tests_drop_le {ls : List LV} {i j : Nat} (h : i ≤ j) : tests (ls.drop j) ≤ tests (ls.drop i) := by
  have e : ls.drop j = (ls.drop i).drop (j - i) := by rw [List.drop_drop]; congr 1; omega
  rw [e]
  unfold tests
  exact (List.drop_sublist _ _).countP_le
theorem tests_drop_at {ls : List LV} {i : Nat} (h : i < ls.length) : tests (ls.drop i) = (if (ls[i]?.getD noLV).kind = 1 then 1 else 0) + tests (ls.drop (i + 1)) := by
  rw [List.drop_eq_getElem_cons h, List.getElem?_eq_getElem h, Option.getD_some]
  unfold tests
  rw [List.countP_cons]
  by_cases hk : ls[i].kind = 1
  · simp [LV.tst, hk]; omega
  · simp [LV.tst, hk]
/-- From a line on. -/
structure Few (ls : List LV) (i : Nat) (y : Way) (rs : List RowM) : Prop where
  ne : 1 ≤ rs.length
  n : rs.length ≤ 2 ^ tests (ls.drop i)
  g : ∀ r ∈ rs, r.guards.length ≤ y.guards.length + tests (ls.drop i)
  t : ∀ r ∈ rs, r.tells.length ≤ y.tells.length + (ls.length - i)
theorem few_one {ls : List LV} {i : Nat} {y : Way} {r : RowM} (h1 : r.guards.length = y.guards.length) (h2 : r.tells.length ≤ y.tells.length) : Few ls i y [r] :=
  ⟨Nat.le_refl _, Nat.one_le_two_pow, fun x hx => by simp at hx; subst hx; omega, fun x hx => by simp at hx; subst hx; omega⟩
theorem goW_few (ls : List LV) : ∀ (f i : Nat) (y : Way), Few ls i y (goW ls f i y)
  | 0, i, y => few_one rfl (Nat.le_refl _)
  | f + 1, i, y => by
    by_cases hi : i < ls.length
    · have ht := tests_drop_at hi
      rw [goW, if_pos hi]
      generalize ls[i]?.getD noLV = l at *
      by_cases k1 : l.kind = 1
      · rw [if_pos k1]
        rw [if_pos k1] at ht
        have A := goW_few ls f (i + 1) (y.guard (intoX l.f y.pots))
        have B := goW_few ls f (i + 1 + l.skip.toNat) (y.guard (minusX (intoX l.f y.pots)))
        have hm : tests (ls.drop (i + 1 + l.skip.toNat)) ≤ tests (ls.drop (i + 1)) := tests_drop_le (by omega)
        have hg : ∀ f, (y.guard f).guards.length = y.guards.length + 1 := fun f => by simp [Way.guard]
        have ht' : ∀ f, (y.guard f).tells.length = y.tells.length := fun f => rfl
        have hp : 2 ^ tests (ls.drop (i + 1 + l.skip.toNat)) ≤ 2 ^ tests (ls.drop (i + 1)) := Nat.pow_le_pow_right (by omega) hm
        have hq : 2 ^ tests (ls.drop i) = 2 * 2 ^ tests (ls.drop (i + 1)) := by rw [ht, Nat.pow_add]
        have An := A.n
        have Bn := B.n
        have A1 := A.ne
        refine ⟨by rw [List.length_append]; omega, by rw [List.length_append, hq]; omega, fun r hr => ?_, fun r hr => ?_⟩
        · rcases List.mem_append.1 hr with hr | hr
          · have := A.g r hr; rw [hg] at this; omega
          · have := B.g r hr; rw [hg] at this; omega
        · rcases List.mem_append.1 hr with hr | hr
          · have := A.t r hr; rw [ht'] at this; omega
          · have := B.t r hr; rw [ht'] at this; omega
      · rw [if_neg k1]
        rw [if_neg k1, Nat.zero_add] at ht
        by_cases k2 : l.kind = 2
        · rw [if_pos k2]
          have A := goW_few ls f (i + 1) (y.add l.pot.toNat (intoX l.f y.pots))
          exact ⟨A.ne, by rw [ht]; exact A.n, fun r hr => by rw [ht]; exact A.g r hr, fun r hr => by have := A.t r hr; simp only [Way.add] at this; omega⟩
        · rw [if_neg k2]
          by_cases k3 : l.kind = 3
          · rw [if_pos k3]
            have A := goW_few ls f (i + 1) (y.tell (intoX l.f y.pots))
            exact ⟨A.ne, by rw [ht]; exact A.n, fun r hr => by rw [ht]; exact A.g r hr, fun r hr => by have := A.t r hr; simp only [Way.tell, List.length_append, List.length_cons, List.length_nil] at this; omega⟩
          · rw [if_neg k3]
            exact few_one rfl (by simp [stopW])
    · rw [goW_end (by omega)]
      exact few_one rfl (Nat.le_refl _)
theorem rowsL_few {N : Nat} {ls : List LV} (hN : ls.length = N) (h : actB N ls = true) : 1 ≤ (rowsL ls).length ∧ (rowsL ls).length ≤ 2 ^ tests ls ∧ tests ls ≤ 3 ∧ (∀ r ∈ rowsL ls, r.guards.length ≤ 3 ∧ r.tells.length ≤ 6) := by
  have hA := h
  simp only [actB, Bool.and_eq_true, decide_eq_true_eq] at hA
  have F := goW_few ls 7 0 way0
  have h3 : tests ls ≤ 3 := by omega
  refine ⟨F.ne, F.n, h3, fun r hr => ⟨?_, ?_⟩⟩
  · have := F.g r hr
    rw [List.drop_zero] at this
    simp only [way0, List.length_nil] at this
    omega
  · have := F.t r hr
    simp only [way0, List.length_nil] at this
    omega
/-- A row that stops has neither adds nor tells; another has three adds. -/
theorem goW_sh (ls : List LV) : ∀ (f i : Nat) (y : Way), ∀ r ∈ goW ls f i y, (r.stop = true → r.adds.length = 0 ∧ r.tells.length = 0) ∧ (r.stop = false → r.adds.length = 3)
  | 0, i, y, r, hr => by simp only [goW, List.mem_singleton] at hr; subst hr; exact ⟨fun h => absurd h (by simp [endW]), fun _ => by simp [endW]⟩
  | f + 1, i, y, r, hr => by
    rw [goW] at hr
    split at hr
    · split at hr
      · rcases List.mem_append.1 hr with hr | hr
        · exact goW_sh ls f _ _ r hr
        · exact goW_sh ls f _ _ r hr
      · split at hr
        · exact goW_sh ls f _ _ r hr
        · split at hr
          · exact goW_sh ls f _ _ r hr
          · simp only [List.mem_singleton] at hr; subst hr; exact ⟨fun _ => ⟨rfl, rfl⟩, fun h => by cases h⟩
    · simp only [List.mem_singleton] at hr; subst hr; exact ⟨fun h => absurd h (by simp [endW]), fun _ => by simp [endW]⟩

theorem bnd_allB {m : Int} {zs : List Int} (h : bnd m zs) : allB m zs = true := by
  simp only [allB, List.all_eq_true]
  intro x hx
  obtain ⟨i, hi, rfl⟩ := List.getElem_of_mem hx
  have := h i
  rw [List.getElem?_eq_getElem hi] at this
  exact inB_iff.2 ⟨by simpa using this.1, by simpa using this.2⟩
theorem fitX_formB {f : Frm} (h : fitX 10000000 f) : formB 3 2 f.1 f.2.1 f.2.2 = true := by
  obtain ⟨_, _, h3, h4, h5, h6⟩ := h
  simp only [formB, okN, Bool.and_eq_true, bnd_allB h3, bnd_allB h4, and_true, decide_eq_true_eq]
  exact ⟨⟨rfl, rfl⟩, inB_iff.2 ⟨h5, h6⟩⟩
/-- Forms that lie in memory, as values. -/
theorem FormsAt.toG {w : World} {a : Option Addr} {fs : List Frm} (h : FormsAt w a fs) (hfit : ∀ k, k < fs.length → fitX 10000000 (fs[k]?.getD ([], [], 0))) : ∃ gs : List FV, gs.map FV.frm = fs ∧ gs.length = fs.length ∧ FormsG w a gs ∧ gs.all FV.ok = true := by
  have H : ∀ n, n ≤ fs.length → ∃ gs : List FV, gs.map FV.frm = fs.take n ∧ FormsG w a gs ∧ gs.all FV.ok = true := by
    intro n
    induction n with
    | zero => exact fun _ => ⟨[], by simp, fun i hi => by simp at hi, rfl⟩
    | succ n ih =>
      intro hn
      obtain ⟨gs, e, hG, hk⟩ := ih (by omega)
      have hl : gs.length = n := by have := congrArg List.length e; simpa [List.length_take, Nat.min_eq_left (by omega : n ≤ fs.length)] using this
      obtain ⟨b, off, rfl, a1, c1, x1, y1, p0, p1, p2, i1, j1⟩ := h n (by omega)
      have hf := hfit n (by omega)
      have en : fs.take (n + 1) = fs.take n ++ [fs[n]?.getD ([], [], 0)] := by
        rw [List.take_succ_eq_append_getElem (by omega), List.getElem?_eq_getElem (by omega)]; rfl
      generalize fs[n]?.getD ([], [], 0) = f at *
      refine ⟨gs ++ [⟨a1, 3, x1, c1, 2, y1, f.2.2, f.1, f.2.1⟩], ?_, ?_, ?_⟩
      · rw [en, List.map_append, e]; rfl
      · intro i hi
        rw [List.length_append] at hi
        by_cases hin : i < gs.length
        · have := hG i hin
          rw [List.getElem?_append_left hin]
          exact this
        · obtain rfl : i = gs.length := by simp at hi; omega
          rw [List.getElem?_append_right (by omega), Nat.sub_self, hl]
          exact ⟨b, off, rfl, p0, p1, p2, i1, j1, by show 3 ≤ 1048576; omega, by show 2 ≤ 1048576; omega⟩
      · rw [List.all_append, hk, Bool.true_and]
        show (formB 3 2 f.1 f.2.1 f.2.2 && true) = true
        rw [Bool.and_true]
        exact fitX_formB hf
  obtain ⟨gs, e, hG, hk⟩ := H fs.length (Nat.le_refl _)
  rw [List.take_length] at e
  exact ⟨gs, e, by rw [← e, List.length_map], hG, hk⟩

/-- A row that lies in memory, as values; it is ok. -/
theorem row_rowAt {w : World} {ga aa ta : Option Addr} {r : RowM} (hf : RowFit r) (hs : (r.stop = true → r.adds.length = 0 ∧ r.tells.length = 0) ∧ (r.stop = false → r.adds.length = 3)) (f0 : FormsAt w ga r.guards) (f1 : FormsAt w aa r.adds) (f2 : FormsAt w ta r.tells) :
    ∃ gs ls ts, RowAt w ga r.guards.length gs aa r.adds.length ls ta r.tells.length ts ∧ rowB gs ls ts r.adds.length r.tells.length r.stop = true ∧ gs.map FV.frm = r.guards ∧ ls.map FV.frm = r.adds ∧ ts.map FV.frm = r.tells := by
  obtain ⟨gs, e0, l0, G0, k0⟩ := f0.toG hf.g
  obtain ⟨ls, e1, l1, G1, k1⟩ := f1.toG hf.a
  obtain ⟨ts, e2, l2, G2, k2⟩ := f2.toG hf.t
  have z0 := hf.lg
  have z1 := hf.la
  have z2 := hf.lt
  refine ⟨gs, ls, ts, ⟨G0, G1, G2, l0, l1, l2, by omega, by omega, by omega⟩, ?_, e0, e1, e2⟩
  simp only [rowB, k0, k1, k2, Bool.true_and]
  cases h : r.stop
  · rw [hs.2 h]; rfl
  · rw [(hs.1 h).1, (hs.1 h).2]; rfl

end Go.Proofs.Ytjggppnffkcmbaa
namespace Go.Proofs.Ytjggppnffkcmbaa
open Go.RowKit Go.Deep Go.Shelf
set_option linter.unusedVariables false
set_option maxRecDepth 100000
attribute [local go_sem] Oper.semAt_some

theorem mem_zeroCells {z : Array Value} {n : Nat} {u : Value} (h : u ∈ Builtin.zeroCells z n) : u ∈ z := by
  unfold Builtin.zeroCells at h
  obtain ⟨i, hi, rfl⟩ := Array.mem_map.1 h
  have hi' : i < n * z.size := by simpa using hi
  have hz : 0 < z.size := Nat.pos_of_ne_zero fun e => by rw [e] at hi'; omega
  have hl := Nat.mod_lt i hz
  rw [getElem!_pos z (i % z.size) hl]
  exact Array.getElem_mem hl
/-- An append, where nothing in the row, in what is appended and in the zero value is a number. -/
theorem run_append_no {P : Program} (w : World) (t ty : TypeId) (base : Nat) (e : TypeId) (i : TypeInfo) (z : Value) (size bytes : Nat) (ht : P.underlying t = some (.slice e)) (hi : P.info? e = some i) (hz : i.zero = some z)
    (hsize : i.size = size) (hby : i.bytes = bytes) (hzs : z.cells.size = size) (hsz : 0 < size)
    (v : Value) (n : Nat) (xs : List Value) (hown : w.ownsRow base e size v n xs)
    (ad : Addr) (m c : Nat) (news : List Value) (hl : news.length = m * size) (hnews : ∀ j u, news[j]? = some u → w.cell? (ad.add j) = some u) (h1 : ∀ u ∈ news, u.oneCell' = true)
    (hm : 0 < m) (h63 : n + m ≤ maxLen) (hbytes : (n + m) * bytes ≤ 140737488355328) (hbase : base ≤ w.heap.size) (H : Nat) (hH : w.heap.size = H)
    (p : Value → Prop) (hpz : ∀ u ∈ z.cells, p u) (hpn : ∀ u ∈ news, p u) (hpo : ∀ g cs ty fr, v.ownBlock = some g → w.heap[g]? = some (.cells cs ty fr) → ∀ u ∈ cs, p u) :
    ∃ g cap w', (Builtin.append_ #[t, t] ty #[v, .slice (some ad) m c]).run P w = .ok (.slice (some ⟨g, 0, none⟩) (n + m) cap) w' ∧
      w'.ownsRow base e size (.slice (some ⟨g, 0, none⟩) (n + m) cap) (n + m) (xs ++ news) ∧ w.grownBy w' v.ownBlock ∧ (v.ownBlock = some g ∨ g = H) ∧ g < w'.heap.size ∧ (∀ cs ty fr, w'.heap[g]? = some (.cells cs ty fr) → ∀ u ∈ cs, p u) := by
  obtain ⟨g, cap, w', hr, h2, h3, h4, h5⟩ := run_append_lies (P := P) w t ty base e i z size bytes ht hi hz hsize hby hzs hsz v n xs hown ad m c news hl hnews h1 hm h63 hbytes hbase H hH
  refine ⟨g, cap, w', hr, h2, h3, h4, h5, ?_⟩
  subst hsize
  subst hby
  have hsmall : n + m ≤ 9223372036854775807 := by simp only [maxLen] at h63; omega
  rcases hown.2 with ⟨rfl, rfl⟩ | ⟨g', cap', cur, rfl, hbg, hg, hnc, hcm, hcs, htake⟩
  · have hr2 := run_append_nil (P := P) w t ty e i z ht hi hz ad m c news hl hnews (by omega) (by omega) (by have hb := hbytes; simp only [Nat.zero_add] at hb; omega)
    rw [hr] at hr2
    simp only [Result.ok.injEq, Value.slice.injEq, Option.some.injEq, Addr.mk.injEq, and_true] at hr2
    obtain ⟨⟨rfl, _, _⟩, rfl⟩ := hr2
    intro cs ty fr hh u hu
    have := heap_alloc_new w.drew (.cells (news.toArray ++ Builtin.zeroCells z.cells (grownCap w m 0 e - m)) e)
    have hd : w.drew.heap.size = w.heap.size := rfl
    rw [hd] at this
    rw [this] at hh
    cases hh
    rcases Array.mem_append.1 hu with h | h
    · exact hpn u (by simpa using h)
    · exact hpz u (mem_zeroCells h)
  · have hx : ∀ u ∈ xs, p u := fun u hu => hpo g' cur e (0, 0) rfl hg u (by rw [← htake] at hu; exact Array.mem_toList_iff.1 (List.mem_of_mem_take hu))
    by_cases hroom : n + m ≤ cap'
    · have hfit : n * i.size + news.length ≤ cur.size := by rw [hl, hcs, ← Nat.add_mul]; exact Nat.mul_le_mul_right _ hroom
      have hr2 := run_append_room (P := P) w t ty e i ht hi g' n cap' cur hg ad m c news hl hnews h1 hroom hfit
      rw [hr] at hr2
      simp only [Result.ok.injEq, Value.slice.injEq, Option.some.injEq, Addr.mk.injEq, and_true] at hr2
      obtain ⟨⟨rfl, _⟩, rfl⟩ := hr2
      intro cs ty fr hh u hu
      rw [setRow_heap w g cur _ e _ hg] at hh
      cases hh
      have hu' : u ∈ cur.toList.take (n * i.size) ++ news ++ cur.toList.drop (n * i.size + news.length) := by simpa using hu
      rcases List.mem_append.1 hu' with h | h
      · rcases List.mem_append.1 h with h | h
        · exact hpo g cur e (0, 0) rfl hg u (Array.mem_toList_iff.1 (List.mem_of_mem_take h))
        · exact hpn u h
      · exact hpo g cur e (0, 0) rfl hg u (Array.mem_toList_iff.1 (List.mem_of_mem_drop h))
    · have holds : ∀ j u, xs[j]? = some u → w.cell? ((⟨g', 0, none⟩ : Addr).add j) = some u := hown.cells (g := g') rfl
      have hr2 := run_append_grow (P := P) w t ty e i z ht hi hz ⟨g', 0, none⟩ n cap' xs hown.1 holds ad m c news hl hnews (by omega) (by omega) (growslice_fits (by omega) hbytes)
      rw [hr] at hr2
      simp only [Result.ok.injEq, Value.slice.injEq, Option.some.injEq, Addr.mk.injEq, and_true, true_and] at hr2
      obtain ⟨⟨rfl, _⟩, rfl⟩ := hr2
      intro cs ty fr hh u hu
      have := heap_alloc_new w.drew (.cells (xs.toArray ++ news.toArray ++ Builtin.zeroCells z.cells (grownCap w (n + m) cap' e - (n + m))) e)
      have hd : w.drew.heap.size = w.heap.size := rfl
      rw [hd] at this
      rw [this] at hh
      cases hh
      rcases Array.mem_append.1 hu with h | h
      · rcases Array.mem_append.1 h with h | h
        · exact hx u (by simpa using h)
        · exact hpn u (by simpa using h)
      · exact hpz u (mem_zeroCells h)

theorem wpListIn_append_no {F : Fence} {n : Nat} {P : Program} (w : World) {ops : Array Oper} {rest : List Oper} {o : Oper} {a : Act} {Q : Exit → Act → World → Prop}
    (hg : o.guard = none) (s x : Operand) (t : TypeId) (hop : o.op = Op.call { callee := Callee.builtin Builtin.append, args := #[s, x], argTypes := #[t, t] })
    (base : Nat) (e : TypeId) (i : TypeInfo) (z : Value) (size bytes : Nat) (h1 : P.underlying t = some (.slice e)) (h2 : P.info? e = some i) (h3 : i.zero = some z) (h4 : i.size = size) (h5 : i.bytes = bytes) (h6 : z.cells.size = size) (h7 : 0 < size)
    (v : Value) (k : Nat) (xs : List Value) (hs : a.eval s = v) (hown : w.ownsRow base e size v k xs) (ad : Addr) (m c : Nat) (news : List Value) (hx : a.eval x = .slice (some ad) m c) (hn : news.length = m * size)
    (hc : ∀ j u, news[j]? = some u → w.cell? (ad.add j) = some u) (h1c : ∀ u ∈ news, u.oneCell' = true) (hm : 0 < m) (b1 : k + m ≤ maxLen) (b2 : (k + m) * bytes ≤ 140737488355328) (b3 : base ≤ w.heap.size) (H : Nat) (hH : w.heap.size = H)
    (p : Value → Prop) (hpz : ∀ u ∈ z.cells, p u) (hpn : ∀ u ∈ news, p u) (hpo : ∀ g cs ty fr, v.ownBlock = some g → w.heap[g]? = some (.cells cs ty fr) → ∀ u ∈ cs, p u)
    (hK : ∀ g cap w', w'.ownsRow base e size (.slice (some ⟨g, 0, none⟩) (k + m) cap) (k + m) (xs ++ news) → w.grownBy w' v.ownBlock → (v.ownBlock = some g ∨ g = H) → g < w'.heap.size → (∀ cs ty fr, w'.heap[g]? = some (.cells cs ty fr) → ∀ u ∈ cs, p u) → wpListIn F n P ops Q rest (a.put o.dst (.slice (some ⟨g, 0, none⟩) (k + m) cap)) w') :
    wpListIn F n P ops Q (o :: rest) a w := by
  refine wpListIn_plain hg fun K hK' => ?_
  obtain ⟨g, cap, w', hrun, r1, r2, r3, r4, r5⟩ := run_append_no (P := P) w t o.type base e i z size bytes h1 h2 h3 h4 h5 h6 h7 v k xs hown ad m c news hn hc h1c hm b1 b2 b3 H hH p hpz hpn hpo
  unfold Oper.wpIn
  refine ⟨?_, ?_⟩
  · simp [Oper.about, hop, resolve, Target.leads, Sem.run_pure]
  · rw [Oper.semAt_plain F _ _ (by rw [hop]; intro c hc'; cases hc')]
    simp [execOp, hop, resolve, invoke, builtin, hs, hx, hrun, Result.andThen]
    exact hK' _ _ (hK g cap w' r1 r2 r3 r4 r5)

/-- Rows in cells, that can be read. -/
def RowsC (W : World) (xs : List Value) (rs : List RowM) : Prop :=
  ∀ j, j < rs.length → ∃ ga gc aa ac ta tc, xs[j * 4]? = some (.slice ga (rs[j]?.getD noR).guards.length gc) ∧ xs[j * 4 + 1]? = some (.slice aa (rs[j]?.getD noR).adds.length ac) ∧ xs[j * 4 + 2]? = some (.slice ta (rs[j]?.getD noR).tells.length tc) ∧ xs[j * 4 + 3]? = some (.bool (rs[j]?.getD noR).stop) ∧
    FormsAt W ga (rs[j]?.getD noR).guards ∧ FormsAt W aa (rs[j]?.getD noR).adds ∧ FormsAt W ta (rs[j]?.getD noR).tells
theorem RowsC.keepR {X Y : World} {xs : List Value} {rs : List RowM} (h : RowsC X xs rs) (k : KpR X Y) : RowsC Y xs rs := fun j hj => by
  obtain ⟨ga, gc, aa, ac, ta, tc, e0, e1, e2, e3, f0, f1, f2⟩ := h j hj
  exact ⟨ga, gc, aa, ac, ta, tc, e0, e1, e2, e3, f0.keepR k, f1.keepR k, f2.keepR k⟩
theorem RowsC.app {W : World} {xs : List Value} {rs : List RowM} {r : RowM} {ga aa ta : Option Addr} {gc ac tc : Nat} (h : RowsC W xs rs) (hl : xs.length = rs.length * 4) (f0 : FormsAt W ga r.guards) (f1 : FormsAt W aa r.adds) (f2 : FormsAt W ta r.tells) :
    RowsC W (xs ++ [.slice ga r.guards.length gc, .slice aa r.adds.length ac, .slice ta r.tells.length tc, .bool r.stop]) (rs ++ [r]) := fun j hj => by
  rw [List.length_append] at hj
  by_cases hjr : j < rs.length
  · rw [List.getElem?_append_left (l₁ := rs) hjr, List.getElem?_append_left (by omega), List.getElem?_append_left (by omega), List.getElem?_append_left (by omega), List.getElem?_append_left (by omega)]
    exact h j hjr
  · obtain rfl : j = rs.length := by simp at hj; omega
    rw [List.getElem?_append_right (l₁ := rs) (by omega), List.getElem?_append_right (by omega), List.getElem?_append_right (by omega), List.getElem?_append_right (by omega), List.getElem?_append_right (by omega), hl, Nat.sub_self, Nat.sub_self, show rs.length * 4 + 1 - rs.length * 4 = 1 by omega, show rs.length * 4 + 2 - rs.length * 4 = 2 by omega, show rs.length * 4 + 3 - rs.length * 4 = 3 by omega]
    exact ⟨ga, gc, aa, ac, ta, tc, rfl, rfl, rfl, rfl, f0, f1, f2⟩
theorem RowsOk.toC {W : World} {S : Nat → Prop} {xs : List Value} {rs : List RowM} (h : RowsOk W S xs rs) : RowsC W xs rs := fun j hj => by
  obtain ⟨ga, gc, aa, ac, ta, tc, e0, e1, e2, e3, f0, f1, f2⟩ := h j hj
  exact ⟨ga, gc, aa, ac, ta, tc, e0, e1, e2, e3, f0.at, f1.at, f2.at⟩
/-- A slice of rows in memory. -/
def RowsAt (W : World) (a : Option Addr) (rs : List RowM) : Prop :=
  ∀ j, j < rs.length → ∃ b ga gc aa ac ta tc, a = some ⟨b, 0, none⟩ ∧ W.cell? ⟨b, j * 4, none⟩ = some (.slice ga (rs[j]?.getD noR).guards.length gc) ∧ W.cell? ⟨b, j * 4 + 1, none⟩ = some (.slice aa (rs[j]?.getD noR).adds.length ac) ∧ W.cell? ⟨b, j * 4 + 2, none⟩ = some (.slice ta (rs[j]?.getD noR).tells.length tc) ∧ W.cell? ⟨b, j * 4 + 3, none⟩ = some (.bool (rs[j]?.getD noR).stop) ∧
    FormsAt W ga (rs[j]?.getD noR).guards ∧ FormsAt W aa (rs[j]?.getD noR).adds ∧ FormsAt W ta (rs[j]?.getD noR).tells
theorem RowsAt.below {X Y : World} {a : Option Addr} {rs : List RowM} (h : RowsAt X a rs) (k : Below X.heap.size X Y) : RowsAt Y a rs := fun j hj => by
  obtain ⟨b, ga, gc, aa, ac, ta, tc, e, c0, c1, c2, c3, f0, f1, f2⟩ := h j hj
  have hb := block_lt c0
  refine ⟨b, ga, gc, aa, ac, ta, tc, e, ?_, ?_, ?_, ?_, f0.keep k, f1.keep k, f2.keep k⟩
  · rw [k.cell (p := ⟨b, j * 4, none⟩) hb]; exact c0
  · rw [k.cell (p := ⟨b, j * 4 + 1, none⟩) hb]; exact c1
  · rw [k.cell (p := ⟨b, j * 4 + 2, none⟩) hb]; exact c2
  · rw [k.cell (p := ⟨b, j * 4 + 3, none⟩) hb]; exact c3
theorem rowsAt_own {W : World} {base : Nat} {v : Value} {n : Nat} {xs : List Value} {rs : List RowM} (o : W.ownsRow base 25 4 v n xs) (hn : rs.length = n) (r : RowsC W xs rs) : ∃ a c, v = .slice a n c ∧ RowsAt W a rs := by
  rcases o.2 with ⟨rfl, rfl⟩ | ⟨g, cap, cur, rfl, hg, hh, hl⟩
  · exact ⟨none, 0, rfl, fun j hj => by omega⟩
  · refine ⟨_, _, rfl, fun j hj => ?_⟩
    obtain ⟨ga, gc, aa, ac, ta, tc, e0, e1, e2, e3, f0, f1, f2⟩ := r j hj
    have hadd : ∀ k, (⟨g, 0, none⟩ : Addr).add k = ⟨g, k, none⟩ := fun k => by unfold Addr.add; split <;> simp_all
    have hc := o.cells (g := g) rfl
    simp only [hadd] at hc
    exact ⟨g, ga, gc, aa, ac, ta, tc, rfl, hc _ _ e0, hc _ _ e1, hc _ _ e2, hc _ _ e3, f0, f1, f2⟩

def NoI (u : Value) : Prop := ∀ q, u ≠ .int .i64 q
/-- A slice of rows that grows, in a box of its own. -/
structure JI (w : World) (v : Value) (xs : List Value) (rs : List RowM) (X : World) : Prop where
  b : Below w.heap.size w X
  c : Cel X w.heap.size [v] 54
  o : X.ownsRow (w.heap.size + 1) 25 4 v rs.length xs
  n : ∀ (g : Nat) cs ty fr, v.ownBlock = some g → X.heap[g]? = some (Obj.cells cs ty fr) → ∀ u ∈ cs, NoI u
  r : RowsC X xs rs
section
variable {w X Y : World} {v : Value} {xs : List Value} {rs : List RowM}
theorem JI.start : JI w (.slice none 0 0) [] [] (w.alloc (.cells #[.slice none 0 0] 54)) :=
  ⟨(Below.refl _ _).alloc (Nat.le_refl _) _, Cel.new w _ _, World.ownsRow_nil _ _ _ _, fun g cs ty fr h => by simp [Value.ownBlock] at h, fun j hj => by simp at hj⟩
/-- Where all cells stay. -/
theorem JI.move (j : JI w v xs rs X) (hs : ∀ (g : Nat) cs ty fr, X.heap[g]? = some (Obj.cells cs ty fr) → Y.heap[g]? = some (Obj.cells cs ty fr)) (hb : Below w.heap.size w Y) (k : KpR X Y) : JI w v xs rs Y := by
  obtain ⟨b, c, o, n, r⟩ := j
  refine ⟨hb, hs _ _ _ _ c, ?_, ?_, r.keepR k⟩
  · refine ⟨o.1, ?_⟩
    rcases o.2 with h | ⟨g, cap, cur, rfl, hg, hh, hl⟩
    · exact Or.inl h
    · exact Or.inr ⟨g, cap, cur, rfl, hg, hs _ _ _ _ hh, hl⟩
  · intro g cs ty fr hv hh
    rcases o.2 with ⟨rfl, _⟩ | ⟨g', cap, cur, rfl, hg, hh', hl⟩
    · simp [Value.ownBlock] at hv
    · simp [Value.ownBlock] at hv
      subst hv
      have := hs _ _ _ _ hh'
      rw [hh] at this
      cases this
      exact n g' _ _ _ rfl hh'
theorem JI.below (j : JI w v xs rs X) (k : Below X.heap.size X Y) : JI w v xs rs Y :=
  j.move (fun g cs ty fr h => (k.block g (lt_of_block h)).trans h) (j.b.trans (k.mono j.b.size)) (KpR.of k)
theorem KpR.put {X : World} {l : Nat} {o o' : Obj} (h : X.heap[l]? = some o) (ho : o.isCells = false) : KpR X (X.putObj l o') := by
  refine ⟨rfl, rfl, rfl, by simp [World.putObj], fun k hk hn => ?_⟩
  by_cases e : k = l
  · subst e
    exact absurd (fun cs t fr hh => by rw [h] at hh; cases hh; cases ho) hn
  · exact World.putObj_heap_other e
theorem JI.put {l : Nat} {p p' : Obj} (j : JI w v xs rs X) (h : X.heap[l]? = some p) (ho : p.isCells = false) (hl : w.heap.size ≤ l) : JI w v xs rs (X.putObj l p') :=
  j.move (fun g cs ty fr hg => by
    have hne : g ≠ l := fun e => by subst e; rw [h] at hg; cases hg; cases ho
    rw [World.putObj_heap_other hne]; exact hg) (below_put j.b hl) (KpR.put h ho)
theorem JI.val (j : JI w v xs rs X) : ∀ q, v ≠ .int .i64 q := by
  rcases j.o.2 with ⟨rfl, _⟩ | ⟨g', cap, cur, rfl, _⟩ <;> (intro q h; cases h)
theorem JI.looseBox (j : JI w v xs rs X) : Loose X.heap[w.heap.size]? := fun cs t fr e => by
  have h := j.c
  unfold Cel at h
  rw [h] at e
  cases e
  refine ⟨Or.inr (Or.inr rfl), fun i q hq => ?_⟩
  match i with
  | 0 => exact j.val q (by simpa using hq)
  | i + 1 => simp at hq
theorem JI.looseRow (j : JI w v xs rs X) {g : Nat} (hg : v.ownBlock = some g) : Loose X.heap[g]? := fun cs t fr e => by
  rcases j.o.2 with ⟨rfl, _⟩ | ⟨g', cap, cur, rfl, hb, hh, hl⟩
  · simp [Value.ownBlock] at hg
  · simp [Value.ownBlock] at hg
    subst hg
    have e2 := e
    rw [hh] at e2
    cases e2
    refine ⟨Or.inr (Or.inl rfl), fun i q hq => ?_⟩
    exact j.n g' _ _ _ rfl e _ (Array.mem_of_getElem? hq) q rfl
theorem JI.kpG (j : JI w v xs rs X) (hg : X.grownBy Y v.ownBlock) : KpR X Y := ⟨hg.os, hg.tape, hg.output, hg.size, fun k hk hn => hg.block k hk (fun e => hn (j.looseRow e.symm))⟩
theorem JI.ksG {B : Nat} (j : JI w v xs rs X) (hg : X.grownBy Y v.ownBlock) : KeepsFrom B X Y := ⟨hg.size, fun k o _ hk ho => (hg.block k (Array.getElem?_eq_some_iff.1 hk).1 (fun e => by
  rcases j.o.2 with ⟨rfl, _⟩ | ⟨g', cap, cur, rfl, hb, hh, hl⟩
  · simp [Value.ownBlock] at e
  · simp [Value.ownBlock] at e
    subst e
    rw [hk] at hh; cases hh; cases ho)).trans hk⟩
theorem JI.boxG (j : JI w v xs rs X) (hg : X.grownBy Y v.ownBlock) : Y.cell? ⟨w.heap.size, 0, none⟩ = some v ∧ Y.frozen? ⟨w.heap.size, 0, none⟩ = false := by
  have hbx : v.ownBlock ≠ some w.heap.size := fun e => by
    rcases j.o.2 with ⟨rfl, _⟩ | ⟨g', cap, cur, rfl, hb, hh, hl⟩
    · simp [Value.ownBlock] at e
    · simp [Value.ownBlock] at e
      omega
  exact ⟨(j.c.grew hg hbx).cell 0, (j.c.grew hg hbx).free 0⟩
/-- One row more. -/
theorem JI.app {g c k : Nat} {r : RowM} {ga aa ta : Option Addr} {gc ac tc : Nat} (j : JI w v xs rs X) (hk : rs.length = k) (f0 : FormsAt X ga r.guards) (f1 : FormsAt X aa r.adds) (f2 : FormsAt X ta r.tells)
    (hown : Y.ownsRow (w.heap.size + 1) 25 4 (.slice (some ⟨g, 0, none⟩) (k + 1) c) (k + 1) (xs ++ [.slice ga r.guards.length gc, .slice aa r.adds.length ac, .slice ta r.tells.length tc, .bool r.stop])) (hg : X.grownBy Y v.ownBlock) (hn : ∀ cs ty fr, Y.heap[g]? = some (.cells cs ty fr) → ∀ u ∈ cs, NoI u) :
    JI w (.slice (some ⟨g, 0, none⟩) (k + 1) c) (xs ++ [.slice ga r.guards.length gc, .slice aa r.adds.length ac, .slice ta r.tells.length tc, .bool r.stop]) (rs ++ [r]) (Y.setCell ⟨w.heap.size, 0, none⟩ (.slice (some ⟨g, 0, none⟩) (k + 1) c)) ∧ KpR X (Y.setCell ⟨w.heap.size, 0, none⟩ (.slice (some ⟨g, 0, none⟩) (k + 1) c)) ∧ ∀ B, w.heap.size < B → KeepsFrom B X (Y.setCell ⟨w.heap.size, 0, none⟩ (.slice (some ⟨g, 0, none⟩) (k + 1) c)) := by
  subst hk
  have k1 := j.kpG hg
  have hr := (j.r.keepR k1).app (gc := gc) (ac := ac) (tc := tc) j.o.1 (f0.keepR k1) (f1.keepR k1) (f2.keepR k1)
  have hbx : v.ownBlock ≠ some w.heap.size := fun e => by
    rcases j.o.2 with ⟨rfl, _⟩ | ⟨g', cap, cur, rfl, hb, hh, hl⟩
    · simp [Value.ownBlock] at e
    · simp [Value.ownBlock] at e
      omega
  have c1 : Cel Y w.heap.size [v] 54 := j.c.grew hg hbx
  have l1 : Loose Y.heap[w.heap.size]? := by
    have := j.looseBox
    rw [hg.block _ j.c.lt (fun e => hbx e.symm)]; exact this
  have T : Touch (fun x => x = w.heap.size) Y (Y.setCell ⟨w.heap.size, 0, none⟩ (.slice (some ⟨g, 0, none⟩) (rs.length + 1) c)) := Touch.setCell (S := fun x => x = w.heap.size) (Touch.refl _ _) rfl _
  have k2 : KpR Y (Y.setCell ⟨w.heap.size, 0, none⟩ (.slice (some ⟨g, 0, none⟩) (rs.length + 1) c)) := T.mono (fun k e => by subst e; exact l1)
  have bY : Below w.heap.size w Y := j.b.grown hg j.b.size (fun z hz => by
    rcases j.o.2 with ⟨rfl, _⟩ | ⟨g', cap, cur, rfl, hb, hh, hl⟩
    · simp [Value.ownBlock] at hz
    · simp [Value.ownBlock] at hz
      omega)
  have gl : w.heap.size + 1 ≤ g := by
    rcases hown.2 with ⟨h, _⟩ | ⟨g', cap, cur, h, hb, _⟩
    · cases h
    · simp only [Value.slice.injEq, Option.some.injEq, Addr.mk.injEq, and_true, true_and] at h; omega
  refine ⟨⟨below_touch bY T (Nat.le_refl _), c1.set 0 _, ?_, ?_, hr.keepR k2⟩, k1.trans k2, fun B hB => (j.ksG hg).trans (keeps_touch T hB)⟩
  · rw [List.length_append]
    exact ownsRow_touch hown T (fun k h => by omega)
  · intro g' cs ty fr hv hh
    simp [Value.ownBlock] at hv
    subst hv
    have hb := T.block g (by
      rcases hown.2 with ⟨h, _⟩ | ⟨g', cap, cur, h, hb, hh', _⟩
      · cases h
      · simp only [Value.slice.injEq, Option.some.injEq, Addr.mk.injEq, and_true, true_and] at h
        rw [h.1]; exact lt_of_block hh') (by omega)
    rw [hb] at hh
    exact hn _ _ _ hh
end

set_option maxHeartbeats 1600000 in
theorem through_no (l : Nat) (aB : Nat) (ad : Option Addr) (N cap : Nat) (ls : List LV) (W : World) (n : Nat) (hN : ls.length = N) (hF : LinesG W ad ls) (hN1 : N ≤ 1048576) (hok : actB N ls = false) (hc : W.cell? ⟨aB, 0, none⟩ = some (.slice ad N cap)) :
    CallsIn Fence.wide n Try.prog 114 #[.func (.yield l) #[] #[], .pointer (some ⟨aB, 0, none⟩)] W fun e Y => (∃ v, e = .returned v) ∧ Below W.heap.size W Y := by
  have hdd : ∀ k : Nat, (Fence.wide.depth.isSome = true → 1 ≤ k) := fun k h => by simp [Fence.wide] at h
  refine callsIn_of_wp Try.func114 rfl trivial ?_ rfl
  simp only [Try.ntmps114, List.size_toArray, List.length_cons, List.length_nil, Nat.reduceAdd, Nat.reduceSub, Array.replicate_succ, Array.replicate_zero, List.push_toArray, List.append_toArray, List.nil_append, List.cons_append]
  gi_wp2_with fail
  refine ⟨trivial, hdd _, (callsIn_wide.2 (isteps_any ad N cap ls _ hN hF hN1)).mono ?_⟩
  rintro e w1 ⟨sv, rfl, b1, _⟩
  rw [hok]
  gi_wp2
  go_end0
  exact ⟨⟨_, rfl⟩, b1⟩

theorem news4 (X : World) (a b c d : Value) (t : TypeId) : ∀ j u, [a, b, c, d][j]? = some u → (X.alloc (.cells #[a, b, c, d] t)).cell? ((⟨X.heap.size, 0, none⟩ : Addr).add j) = some u := by
  intro j u h
  have hadd : ∀ k, (⟨X.heap.size, 0, none⟩ : Addr).add k = ⟨X.heap.size, k, none⟩ := fun k => by unfold Addr.add; split <;> simp_all
  have C := Cel.new X [a, b, c, d] t
  rw [hadd]
  match j, h with
  | 0, h => cases h; exact C.cell 0
  | 1, h => cases h; exact C.cell 1
  | 2, h => cases h; exact C.cell 2
  | 3, h => cases h; exact C.cell 3
  | j + 4, h => simp at h

set_option maxHeartbeats 3200000 in
theorem iappseq_in (B : Nat) (ad : Option Addr) (N cap : Nat) (ls : List LV) (w : World) (n : Nat) (hN : ls.length = N) (hF : LinesG w ad ls) (hN1 : N ≤ 1048576) (hcB : Cel w B [.slice ad N cap] 52) :
    CallsIn Fence.wide n Try.prog 113 #[.slice none 0 0, .func (.func 114) #[] #[.pointer (some ⟨B, 0, none⟩)]] w fun e w' => Below w.heap.size w w' ∧ ∃ a c, e = .returned (.slice a (rowsB N ls).length c) ∧ RowsAt w' a (rowsB N ls) := by
  have hdd : ∀ k : Nat, (Fence.wide.depth.isSome = true → 1 ≤ k) := fun k h => by simp [Fence.wide] at h
  refine callsIn_of_wp_marks Try.func113 rfl trivial ?_ rfl
  simp only [Try.ntmps113, List.size_toArray, List.length_cons, List.length_nil, Nat.reduceAdd, Nat.reduceSub, Array.replicate_succ, Array.replicate_zero, List.push_toArray, List.append_toArray, List.nil_append, List.cons_append]
  have J0 := JI.start (w := w)
  obtain ⟨w1, hw1⟩ : ∃ w1, w1 = w.alloc (.cells #[.slice none 0 0] 54) := ⟨_, rfl⟩
  have s1 : w1.heap.size = w.heap.size + 1 := by rw [hw1]; exact World.size_alloc _ _
  have B1 : Below w.heap.size w w1 := by rw [hw1]; exact (Below.refl _ _).alloc (Nat.le_refl _) _
  have cB1 := hcB.below B1
  have F1 := hF.below B1
  gi_wp2_with fail
  rw [← hw1] at J0 ⊢
  clear hw1
  refine wpIn_rows (α := Value × RowM) (gf := 114) (lb := #[.pointer (some ⟨B, 0, none⟩)]) rfl (enters_of Try.func114 (by kernel_rfl) rfl) (encs := fun x => #[x.1]) (fun _ => rfl)
    (fun pre x X => RowFit x.2 ∧ RowX X w1.heap.size x.1 x.2 ∧ pre.length < 128) KpR (fun xs => xs.map Prod.snd = rowsB N ls)
    (fun pre X => ∃ v xs, JI w v xs (pre.map Prod.snd) X)
    (fun pre X Y ⟨v, xs, h⟩ b => ⟨v, xs, h.below b⟩)
    (fun pre X l r r' ⟨v, xs, h⟩ hl lt => ⟨v, xs, h.put hl rfl (by omega)⟩) KpR.loop (fun X Y Z => KpR.trans) ⟨_, _, J0⟩ ?seq ?round ?done
  case seq =>
    intro l J W hJ hb hJ0 hY
    have e0 : (#[.func (.yield l) #[] #[]] ++ #[.pointer (some ⟨B, 0, none⟩)] : Array Value) = #[.func (.yield l) #[] #[], .pointer (some ⟨B, 0, none⟩)] := rfl
    rw [e0]
    cases hu : actB N ls with
    | false =>
      refine (through_no l B ad N cap ls W (n - 1) hN (F1.below hb) hN1 hu ((cB1.below hb).cell 0)).mono ?_
      rintro e Y ⟨h1, b⟩
      refine ⟨h1, [], ?_, hJ _ _ _ hJ0 b⟩
      rw [rowsB, hu]; rfl
    | true =>
      refine (through_any l w1.heap.size (fun rs X => ∃ xs : List (Value × RowM), xs.map Prod.snd = rs ∧ J xs X) (fun rs X Y h b => ?_) (fun m rs v r X h fit rx hlt => ?_) B ad N cap ls W (n - 1) hN (F1.below hb) hN1 hu ((cB1.below hb).cell 0) hb.size ⟨[], rfl, hJ0⟩).mono ?_
      · obtain ⟨xs, e, j⟩ := h
        exact ⟨xs, e, hJ _ _ _ j b⟩
      · obtain ⟨xs, e, j⟩ := h
        obtain ⟨fn, tmps, assign, body, hy, hR⟩ := hY m xs (v, r) X j ⟨fit, rx, by rw [← e, List.length_map] at hlt; exact hlt⟩
        refine ⟨fn, tmps, assign, body, hy, hR.mono ?_⟩
        rintro e' Y ⟨a, b, c⟩
        exact ⟨a, ⟨xs ++ [(v, r)], by simp [e], b⟩, c⟩
      · rintro e Y ⟨h1, ⟨xs, e1, j⟩, _⟩
        exact ⟨h1, xs, by rw [e1, rowsB, hu]; rfl, j⟩
  case round =>
    rintro m l pre ⟨v, rm⟩ X r ⟨vs, xs, hJ⟩ ⟨fit, rx, hlt⟩ hl hll
    dsimp only at fit rx
    obtain ⟨ga, gc, aa, ac, ta, tc, rfl, f0, f1, f2⟩ := rx
    dsimp only
    gi_wp2_with fail
    have bx : Below X.heap.size X (X.alloc (.cells #[.slice ga rm.guards.length gc, .slice aa rm.adds.length ac, .slice ta rm.tells.length tc, .bool rm.stop] 25)) := (Below.refl _ _).alloc (Nat.le_refl _) _
    have cx := Cel.new X [.slice ga rm.guards.length gc, .slice aa rm.adds.length ac, .slice ta rm.tells.length tc, .bool rm.stop] 25
    have hl1 := (bx.block l (lt_of_block hl)).trans hl
    refine ⟨keeps_below bx, KpR.of bx, ?_⟩
    have J1 := (hJ.below bx).put (p' := .loop { r with state := .busy }) hl1 rfl (by omega)
    have X1 := Cel.loop (r' := { r with state := .busy }) cx hl1
    have k1 : KpR X _ := (KpR.of bx).trans (KpR.loop _ l r { r with state := .busy } hl1)
    obtain ⟨Y, hY⟩ : ∃ Y, Y = (X.alloc (.cells #[.slice ga rm.guards.length gc, .slice aa rm.adds.length ac, .slice ta rm.tells.length tc, .bool rm.stop] 25)).putObj l (.loop { r with state := .busy }) := ⟨_, rfl⟩
    rw [← hY] at J1 X1 k1 ⊢
    clear hY
    have FG := f0.at.keepR k1
    have FA := f1.at.keepR k1
    have FT := f2.at.keepR k1
    obtain ⟨k, hk⟩ : ∃ k, (pre.map Prod.snd).length = k := ⟨_, rfl⟩
    have hk1 : k < 128 := by rw [← hk, List.length_map]; exact hlt
    have hc := J1.c.cell 0
    have hx0 := X1.cell 0
    have hx1 := X1.cell 1
    have hx2 := X1.cell 2
    have hx3 := X1.cell 3
    have bz : Below Y.heap.size Y (Y.alloc (.cells #[.slice ga rm.guards.length gc, .slice aa rm.adds.length ac, .slice ta rm.tells.length tc, .bool rm.stop] 25)) := (Below.refl _ _).alloc (Nat.le_refl _) _
    have J2 := J1.below bz
    have hcz := J2.c.cell 0
    have nw := news4 Y (.slice ga rm.guards.length gc) (.slice aa rm.adds.length ac) (.slice ta rm.tells.length tc) (.bool rm.stop) 25
    obtain ⟨zr, hir, hr0, hr1, hr2⟩ := info_parts Try.infoRow
    have lB := J1.c.lt
    have jow := J2.o
    rw [hk] at jow
    gi_wp2_with (gi_at_builtin; go_must (refine wpListIn_append_no _ rfl (.tmp 8) (.tmp 10) 54 rfl (w.heap.size + 1) 25 zr _ 4 80 Try.underlying54 hir hr0 hr1 hr2 rfl (by decide) vs k xs rfl jow ⟨Y.heap.size, 0, none⟩ 1 1 [.slice ga rm.guards.length gc, .slice aa rm.adds.length ac, .slice ta rm.tells.length tc, .bool rm.stop] rfl rfl nw (by simp [Value.oneCell']) (by omega) (by unfold maxLen; omega) (by omega) (by rw [World.size_alloc]; omega) _ rfl NoI (by simp [NoI, Value.cells]) (by simp [NoI]) J2.n ?_); intro g cg w7 hown hgrow hat hlg hno; obtain ⟨hc7, hf7⟩ := J2.boxG hgrow)
    obtain ⟨j9, k9, ks9⟩ := J2.app hk (FG.keep bz) (FA.keep bz) (FT.keep bz) hown hgrow hno
    refine ⟨(keeps_below bz).trans (ks9 _ (by omega)), (KpR.of bz).trans k9, ?_⟩
    dsimp only
    rw [List.map_append]
    exact ⟨_, _, j9⟩
  case done =>
    rintro D xs W hD hS ⟨v, vs, hJ⟩ hK
    rw [hS] at hJ
    have hc := hJ.c.cell 0
    obtain ⟨a, c, rfl, hA⟩ := rowsAt_own hJ.o rfl hJ.r
    gi_wp2
    refine ⟨by simp, .inl ⟨_, _, rfl, run_takeDeferred hK, ?_⟩⟩
    refine ⟨_, results_tmp rfl _ _ _, ?_⟩
    have hJ2 := hJ.put (p' := .deferred none) hK rfl (by omega)
    obtain ⟨a2, c2, e2, hA2⟩ := rowsAt_own hJ2.o rfl hJ2.r
    cases e2
    exact ⟨hJ2.b, _, _, rfl, hA2⟩

theorem iappseq_any (B : Nat) (ad : Option Addr) (N cap : Nat) (ls : List LV) (w : World) (hN : ls.length = N) (hF : LinesG w ad ls) (hN1 : N ≤ 1048576) (hcB : Cel w B [.slice ad N cap] 52) :
    Calls Try.prog 113 #[.slice none 0 0, .func (.func 114) #[] #[.pointer (some ⟨B, 0, none⟩)]] w fun e w' => Below w.heap.size w w' ∧ ∃ a c, e = .returned (.slice a (rowsB N ls).length c) ∧ RowsAt w' a (rowsB N ls) :=
  callsIn_wide.1 (iappseq_in B ad N cap ls w 0 hN hF hN1 hcB)
theorem icollect_any (B : Nat) (ad : Option Addr) (N cap : Nat) (ls : List LV) (w : World) (hN : ls.length = N) (hF : LinesG w ad ls) (hN1 : N ≤ 1048576) (hcB : Cel w B [.slice ad N cap] 52) :
    Calls Try.prog 84 #[.func (.func 114) #[] #[.pointer (some ⟨B, 0, none⟩)]] w fun e w' => Below w.heap.size w w' ∧ ∃ a c, e = .returned (.slice a (rowsB N ls).length c) ∧ RowsAt w' a (rowsB N ls) := by
  go_enter Try.func84, Try.ntmps84
  go_wp2_with fail
  refine (iappseq_any B ad N cap ls w hN hF hN1 hcB).mono ?_
  rintro e w1 ⟨b1, a, c, rfl, h⟩
  go_wp2
  go_ret
  exact ⟨b1, a, c, rfl, h⟩
/-- All ways through an act (impl.RowsOf). -/
theorem irows_any (ad : Option Addr) (N cap : Nat) (ls : List LV) (w : World) (hN : ls.length = N) (hF : LinesG w ad ls) (hN1 : N ≤ 1048576) :
    Calls Try.prog 28 #[.slice ad N cap] w fun e w' => Below w.heap.size w w' ∧ ∃ a c, e = .returned (.slice a (rowsB N ls).length c) ∧ RowsAt w' a (rowsB N ls) := by
  go_enter Try.func28, Try.ntmps28
  go_wp2_with fail
  refine (ithrough_any ad N cap w).mono ?_
  rintro e w1 ⟨B, rfl, b1, cB⟩
  go_wp2_with fail
  refine (icollect_any B ad N cap ls w1 hN (hF.below b1) hN1 cB).mono ?_
  rintro e w2 ⟨b2, a, c, rfl, h⟩
  have b := b1.trans (b2.mono b1.size)
  go_wp2
  go_ret
  exact ⟨b, a, c, rfl, h⟩

end Go.Proofs.Ytjggppnffkcmbaa
namespace Go.Proofs.Ytjggppnffkcmbaa
open Go.RowKit Go.Deep Go.Shelf
set_option linter.unusedVariables false
set_option maxRecDepth 100000

set_option maxHeartbeats 3200000 in
theorem coFs_any (a c : Option Addr) (n cap cap' : Nat) (fs : List Frm) (w : World) (hN : fs.length = n) (hn1 : n ≤ 1048576) (h : FormsAt w a fs) (h' : FormsAt w c fs) :
    Calls Try.prog 116 #[.slice a n cap, .slice c n cap'] w fun e w' => e = .returned (.bool true) ∧ Below w.heap.size w w' := by
  have HN : Hid (fs.length = n) := hN
  clear hN
  go_enter Try.func116, Try.ntmps116
  go_wp2_with fail
  go_loopw [5] (fun i wr => ∃ k : Nat, k ≤ n ∧ i = .int .i64 k ∧ Below w.heap.size w wr) (fun i _ => n - (intOf i).toNat)
  case atStart => exact ⟨0, Nat.zero_le _, rfl, Below.refl _ _⟩
  case round =>
    obtain ⟨k, hk, rfl, hnx⟩ := hrel
    by_cases hlt : k < n
    · obtain ⟨b, off, rfl, a1, c1, x1, y1, p0, p1, p2, i1, j1⟩ := h k (by rw [HN.out]; exact hlt)
      obtain ⟨b', off', rfl, a2, c2, x2, y2, p3, p4, p5, i2, j2⟩ := h' k (by rw [HN.out]; exact hlt)
      obtain ⟨f, hf⟩ : ∃ f, f = fs[k]?.getD ([], [], 0) := ⟨_, rfl⟩
      rw [← hf] at p2 p5 i1 j1 i2 j2
      clear hf h h' HN
      have hlt' : (k : Int) < (n : Int) := by omega
      have KP : Hid (∀ X, Below w.heap.size w X → (X.cell? ⟨b, off + k * 3, none⟩ = some (.slice a1 3 x1) ∧ X.cell? ⟨b, off + k * 3 + 1, none⟩ = some (.slice c1 2 y1) ∧ X.cell? ⟨b, off + k * 3 + 2, none⟩ = some (.int .i64 f.2.2) ∧ X.cell? ⟨b', off' + k * 3, none⟩ = some (.slice a2 3 x2) ∧ X.cell? ⟨b', off' + k * 3 + 1, none⟩ = some (.slice c2 2 y2) ∧ X.cell? ⟨b', off' + k * 3 + 2, none⟩ = some (.int .i64 f.2.2))) := fun X hX => ⟨(hX.cell (p := ⟨b, off + k * 3, none⟩) (block_lt p0)).trans p0, (hX.cell (p := ⟨b, off + k * 3 + 1, none⟩) (block_lt p1)).trans p1, (hX.cell (p := ⟨b, off + k * 3 + 2, none⟩) (block_lt p2)).trans p2, (hX.cell (p := ⟨b', off' + k * 3, none⟩) (block_lt p3)).trans p3, (hX.cell (p := ⟨b', off' + k * 3 + 1, none⟩) (block_lt p4)).trans p4, (hX.cell (p := ⟨b', off' + k * 3 + 2, none⟩) (block_lt p5)).trans p5⟩
      go_upto_region 6 with fail
      refine wp_region_ends (fun X => X.cell? ⟨b, off + k * 3, none⟩ = some (.slice a1 3 x1) ∧ X.cell? ⟨b, off + k * 3 + 1, none⟩ = some (.slice c1 2 y1) ∧ X.cell? ⟨b, off + k * 3 + 2, none⟩ = some (.int .i64 f.2.2) ∧ X.cell? ⟨b', off' + k * 3, none⟩ = some (.slice a2 3 x2) ∧ X.cell? ⟨b', off' + k * 3 + 1, none⟩ = some (.slice c2 2 y2) ∧ X.cell? ⟨b', off' + k * 3 + 2, none⟩ = some (.int .i64 f.2.2)) (fun _ => True) 9 (by kernel_rfl) ?_
      have BV : Below w.heap.size w wr.drew := hnx.drew
      obtain ⟨V, hV⟩ : ∃ V, V = wr.drew := ⟨_, rfl⟩
      rw [← hV] at BV
      rw [← hV]
      clear hV
      have hSS : (V.cell? ⟨b, off + k * 3, none⟩ = some (.slice a1 3 x1) ∧ V.cell? ⟨b, off + k * 3 + 1, none⟩ = some (.slice c1 2 y1) ∧ V.cell? ⟨b, off + k * 3 + 2, none⟩ = some (.int .i64 f.2.2) ∧ V.cell? ⟨b', off' + k * 3, none⟩ = some (.slice a2 3 x2) ∧ V.cell? ⟨b', off' + k * 3 + 1, none⟩ = some (.slice c2 2 y2) ∧ V.cell? ⟨b', off' + k * 3 + 2, none⟩ = some (.int .i64 f.2.2)) ∧ True := ⟨KP.out _ BV, trivial⟩
      refine wpAnyE_take0 (i := 0) (v := ?cfxv0) rfl (by kernel_rfl) (by kernel_rfl) (by kernel_rfl) (by decide) (fun _ _ _ h => h) (Or.inl ⟨by rfl, ?cfxhy0⟩) hSS ?_
      case cfxhy0 => (intro wz hSw; (try dsimp only at hSw); go_simp; try (with_reducible rfl))
      refine wpAnyE_take0 (i := 1) (v := ?cfxv1) rfl (by kernel_rfl) (by kernel_rfl) (by kernel_rfl) (by decide) (fun _ _ _ h => h) (Or.inl ⟨by rfl, ?cfxhy1⟩) hSS ?_
      case cfxhy1 => (intro wz hSw; (try dsimp only at hSw); go_simp; try (with_reducible rfl))
      refine wpAnyE_take0 (i := 2) (v := ?cfxv2) rfl (by kernel_rfl) (by kernel_rfl) (by kernel_rfl) (by decide) (fun _ _ _ h => h) (Or.inl ⟨by rfl, ?cfxhy2⟩) hSS ?_
      case cfxhy2 => (intro wz hSw; (try dsimp only at hSw); go_simp; try (with_reducible rfl))
      refine wpAnyE_take0 (i := 3) (v := ?cfxv3) rfl (by kernel_rfl) (by kernel_rfl) (by kernel_rfl) (by decide) (fun _ _ _ h => h) (Or.inl ⟨by rfl, ?cfxhy3⟩) hSS ?_
      case cfxhy3 => (intro wz hSw; (try dsimp only at hSw); go_simp; try (with_reducible rfl))
      simp only [Act.put, List.setIfInBounds_toArray, List.set_cons_succ, List.set_cons_zero, List.getElem_toArray, List.getElem_cons_succ, List.getElem_cons_zero]
      refine wpAnyE_take0 (i := 4) (v := ?cfxv4) rfl (by kernel_rfl) (by kernel_rfl) (by kernel_rfl) (by decide) (fun _ _ _ h => h) (Or.inl ⟨by rfl, ?cfxhy4⟩) hSS ?_
      case cfxhy4 => (intro wz hSw; (try dsimp only at hSw); go_simp; try (with_reducible rfl))
      refine wpAnyE_take0 (i := 5) (v := ?cfxv5) rfl (by kernel_rfl) (by kernel_rfl) (by kernel_rfl) (by decide) (fun _ _ _ h => h) (Or.inl ⟨by rfl, ?cfxhy5⟩) hSS ?_
      case cfxhy5 => (intro wz hSw; (try dsimp only at hSw); go_simp; try (with_reducible rfl))
      refine wpAnyE_take0 (i := 6) (v := ?cfxv6) rfl (by kernel_rfl) (by kernel_rfl) (by kernel_rfl) (by decide) (fun _ _ _ h => h) (Or.inl ⟨by rfl, ?cfxhy6⟩) hSS ?_
      case cfxhy6 => (intro wz hSw; (try dsimp only at hSw); go_simp; try (with_reducible rfl))
      refine wpAnyE_take0 (i := 7) (v := ?cfxv7) rfl (by kernel_rfl) (by kernel_rfl) (by kernel_rfl) (by decide) (fun _ _ _ h => h) (Or.inl ⟨by rfl, ?cfxhy7⟩) hSS ?_
      case cfxhy7 => (intro wz hSw; (try dsimp only at hSw); go_simp; try (with_reducible rfl))
      simp only [Act.put, List.setIfInBounds_toArray, List.set_cons_succ, List.set_cons_zero, List.getElem_toArray, List.getElem_cons_succ, List.getElem_cons_zero]
      refine wpAnyE_one (i := 8) (by kernel_rfl) rfl (fun K hK => ?_)
      go_simp
      refine (coF_any f f a1 3 x1 c1 2 y1 a2 3 x2 c2 2 y2 V ⟨i1.below BV, j1.below BV, by omega, by omega⟩ ⟨i2.below BV, j2.below BV, by omega, by omega⟩).mono ?_
      rintro ee w1 ⟨rfl, b1⟩
      rw [coP_same]
      have B1 := BV.trans (b1.mono BV.size)
      clear hSS
      have hSS : (w1.cell? ⟨b, off + k * 3, none⟩ = some (.slice a1 3 x1) ∧ w1.cell? ⟨b, off + k * 3 + 1, none⟩ = some (.slice c1 2 y1) ∧ w1.cell? ⟨b, off + k * 3 + 2, none⟩ = some (.int .i64 f.2.2) ∧ w1.cell? ⟨b', off' + k * 3, none⟩ = some (.slice a2 3 x2) ∧ w1.cell? ⟨b', off' + k * 3 + 1, none⟩ = some (.slice c2 2 y2) ∧ w1.cell? ⟨b', off' + k * 3 + 2, none⟩ = some (.int .i64 f.2.2)) ∧ True := ⟨KP.out _ B1, trivial⟩
      (try dsimp only)
      refine hK.out _ _ ⟨hSS.1, fun _ => trivial⟩ ?_
      clear hK K
      refine wpAnyE_one (i := 9) (by kernel_rfl) rfl (fun K hK => ?_)
      go_simp
      refine hK.out _ _ ⟨hSS.1, fun _ => trivial⟩ ?_
      clear hK K
      refine wpAnyE_done (by kernel_rfl) ?_ _
      clear hSS
      clear KP
      go_wp2
      go_roundw
      case rel => exact ⟨k + 1, by omega, by go_num, B1⟩
      case measure => simp [intOf]; omega
    · have hlt' : ¬ (k : Int) < (n : Int) := by omega
      go_wp2
      go_ret
      exact ⟨rfl, hnx⟩

set_option maxHeartbeats 3200000 in
theorem coRw_any (g g' a a' t t' : Option Addr) (G cg cg' A ca ca' T ct ct' : Nat) (st : Bool) (gs us ts : List Frm) (w : World) (h1 : gs.length = G) (h2 : us.length = A) (h3 : ts.length = T) (z1 : G ≤ 1048576) (z2 : A ≤ 1048576) (z3 : T ≤ 1048576)
    (f1 : FormsAt w g gs) (f2 : FormsAt w a us) (f3 : FormsAt w t ts) (e1 : FormsAt w g' gs) (e2 : FormsAt w a' us) (e3 : FormsAt w t' ts) :
    Calls Try.prog 86 #[.agg #[.slice g G cg, .slice a A ca, .slice t T ct, .bool st], .agg #[.slice g' G cg', .slice a' A ca', .slice t' T ct', .bool st]] w fun e w' => e = .returned (.bool true) ∧ Below w.heap.size w w' := by
  have est : (st == st) = true := by cases st <;> rfl
  have HL : Hid (gs.length = G ∧ us.length = A ∧ ts.length = T) := ⟨h1, h2, h3⟩
  clear h1 h2 h3
  go_enter Try.func86, Try.ntmps86
  have al := (Below.refl (w).heap.size (w)).alloc (Nat.le_refl _) (.cells #[.slice g G cg, .slice a A ca, .slice t T ct, .bool st] 25)
  have BB := al
  replace f1 := f1.keep al
  replace f2 := f2.keep al
  replace f3 := f3.keep al
  replace e1 := e1.keep al
  replace e2 := e2.keep al
  replace e3 := e3.keep al
  clear al
  have q2 := Cel.new (w) [.slice g G cg, .slice a A ca, .slice t T ct, .bool st] 25
  have al := (Below.refl ((w).alloc (.cells #[.slice g G cg, .slice a A ca, .slice t T ct, .bool st] 25)).heap.size ((w).alloc (.cells #[.slice g G cg, .slice a A ca, .slice t T ct, .bool st] 25))).alloc (Nat.le_refl _) (.cells #[.slice g' G cg', .slice a' A ca', .slice t' T ct', .bool st] 25)
  replace BB := BB.trans (al.mono BB.size)
  replace f1 := f1.keep al
  replace f2 := f2.keep al
  replace f3 := f3.keep al
  replace e1 := e1.keep al
  replace e2 := e2.keep al
  replace e3 := e3.keep al
  replace q2 := q2.below al
  clear al
  have q3 := Cel.new ((w).alloc (.cells #[.slice g G cg, .slice a A ca, .slice t T ct, .bool st] 25)) [.slice g' G cg', .slice a' A ca', .slice t' T ct', .bool st] 25
  simp only [World.size_alloc] at q3
  have g2_0 := q2.cell 0
  have g2_1 := q2.cell 1
  have g2_2 := q2.cell 2
  have g2_3 := q2.cell 3
  have g3_0 := q3.cell 0
  have g3_1 := q3.cell 1
  have g3_2 := q3.cell 2
  have g3_3 := q3.cell 3
  simp only [List.getElem?_cons_zero, List.getElem?_cons_succ] at g2_0 g2_1 g2_2 g2_3 g3_0 g3_1 g3_2 g3_3
  go_wp2_with fail
  obtain ⟨W1, hW1⟩ : ∃ W, W = ((w).alloc (.cells #[.slice g G cg, .slice a A ca, .slice t T ct, .bool st] 25)).alloc (.cells #[.slice g' G cg', .slice a' A ca', .slice t' T ct', .bool st] 25) := ⟨_, rfl⟩
  rw [← hW1]
  rw [← hW1] at f1 f2 f3 e1 e2 e3 q2 q3 BB g2_0 g2_1 g2_2 g2_3 g3_0 g3_1 g3_2 g3_3
  clear hW1
  obtain ⟨X3, hX3⟩ : ∃ x, x = w.heap.size + 1 := ⟨_, rfl⟩
  rw [← hX3]
  rw [← hX3] at q3 g3_0 g3_1 g3_2 g3_3
  clear hX3
  obtain ⟨X2, hX2⟩ : ∃ x, x = w.heap.size := ⟨_, rfl⟩
  rw [← hX2]
  rw [← hX2] at q2 g2_0 g2_1 g2_2 g2_3
  clear hX2
  refine (coFs_any g g' G cg cg' gs _ HL.out.1 z1 f1 e1).mono ?_
  rintro ee w2 ⟨rfl, b1⟩
  clear g2_0 g2_1 g2_2 g2_3 g3_0 g3_1 g3_2 g3_3
  replace BB := BB.trans (b1.mono BB.size)
  replace f1 := f1.keep b1
  replace f2 := f2.keep b1
  replace f3 := f3.keep b1
  replace e1 := e1.keep b1
  replace e2 := e2.keep b1
  replace e3 := e3.keep b1
  replace q2 := q2.below b1
  replace q3 := q3.below b1
  clear b1
  have g2_0 := q2.cell 0
  have g2_1 := q2.cell 1
  have g2_2 := q2.cell 2
  have g2_3 := q2.cell 3
  have g3_0 := q3.cell 0
  have g3_1 := q3.cell 1
  have g3_2 := q3.cell 2
  have g3_3 := q3.cell 3
  simp only [List.getElem?_cons_zero, List.getElem?_cons_succ] at g2_0 g2_1 g2_2 g2_3 g3_0 g3_1 g3_2 g3_3
  go_wp2_with fail
  refine (coFs_any a a' A ca ca' us _ HL.out.2.1 z2 f2 e2).mono ?_
  rintro ee w3 ⟨rfl, b2⟩
  clear g2_0 g2_1 g2_2 g2_3 g3_0 g3_1 g3_2 g3_3
  replace BB := BB.trans (b2.mono BB.size)
  replace f1 := f1.keep b2
  replace f2 := f2.keep b2
  replace f3 := f3.keep b2
  replace e1 := e1.keep b2
  replace e2 := e2.keep b2
  replace e3 := e3.keep b2
  replace q2 := q2.below b2
  replace q3 := q3.below b2
  clear b2
  have g2_0 := q2.cell 0
  have g2_1 := q2.cell 1
  have g2_2 := q2.cell 2
  have g2_3 := q2.cell 3
  have g3_0 := q3.cell 0
  have g3_1 := q3.cell 1
  have g3_2 := q3.cell 2
  have g3_3 := q3.cell 3
  simp only [List.getElem?_cons_zero, List.getElem?_cons_succ] at g2_0 g2_1 g2_2 g2_3 g3_0 g3_1 g3_2 g3_3
  go_wp2_with fail
  refine (coFs_any t t' T ct ct' ts _ HL.out.2.2 z3 f3 e3).mono ?_
  rintro ee w4 ⟨rfl, b3⟩
  clear g2_0 g2_1 g2_2 g2_3 g3_0 g3_1 g3_2 g3_3
  replace BB := BB.trans (b3.mono BB.size)
  replace f1 := f1.keep b3
  replace f2 := f2.keep b3
  replace f3 := f3.keep b3
  replace e1 := e1.keep b3
  replace e2 := e2.keep b3
  replace e3 := e3.keep b3
  replace q2 := q2.below b3
  replace q3 := q3.below b3
  clear b3
  have g2_0 := q2.cell 0
  have g2_1 := q2.cell 1
  have g2_2 := q2.cell 2
  have g2_3 := q2.cell 3
  have g3_0 := q3.cell 0
  have g3_1 := q3.cell 1
  have g3_2 := q3.cell 2
  have g3_3 := q3.cell 3
  simp only [List.getElem?_cons_zero, List.getElem?_cons_succ] at g2_0 g2_1 g2_2 g2_3 g3_0 g3_1 g3_2 g3_3
  go_wp2
  go_ret
  exact ⟨rfl, BB⟩

set_option maxHeartbeats 3200000 in
theorem coRs_any (a c : Option Addr) (n cap cap' : Nat) (rs : List RowM) (w : World) (hN : rs.length = n) (hn1 : n ≤ 1048576) (hfit : ∀ r ∈ rs, RowFit r) (h : RowsAt w a rs) (h' : RowsAt w c rs) :
    Calls Try.prog 29 #[.slice a n cap, .slice c n cap'] w fun e w' => e = .returned (.bool true) ∧ Below w.heap.size w w' := by
  have HN : Hid (rs.length = n) := hN
  clear hN
  go_enter Try.func29, Try.ntmps29
  go_wp2_with fail
  go_loopw [5] (fun i wr => ∃ k : Nat, k ≤ n ∧ i = .int .i64 k ∧ Below w.heap.size w wr) (fun i _ => n - (intOf i).toNat)
  case atStart => exact ⟨0, Nat.zero_le _, rfl, Below.refl _ _⟩
  case round =>
    obtain ⟨k, hk, rfl, hnx⟩ := hrel
    by_cases hlt : k < n
    · obtain ⟨b, ga, gc, aa, ac, ta, tc, rfl, p0, p1, p2, p3, f0, f1, f2⟩ := h k (by rw [HN.out]; exact hlt)
      obtain ⟨b', ga', gc', aa', ac', ta', tc', rfl, p4, p5, p6, p7, u0, u1, u2⟩ := h' k (by rw [HN.out]; exact hlt)
      have hf := hfit (rs[k]?.getD noR) (by rw [List.getElem?_eq_getElem (by rw [HN.out]; exact hlt)]; exact List.getElem_mem _)
      generalize rs[k]?.getD noR = r at *
      have z1 := hf.lg
      have z2 := hf.la
      have z3 := hf.lt
      obtain ⟨gs, us, ts, st⟩ := r
      dsimp only at *
      obtain ⟨G, hG⟩ : ∃ G, gs.length = G := ⟨_, rfl⟩
      obtain ⟨A, hA⟩ : ∃ A, us.length = A := ⟨_, rfl⟩
      obtain ⟨T, hT⟩ : ∃ T, ts.length = T := ⟨_, rfl⟩
      rw [hG] at p0 p4 z1
      rw [hA] at p1 p5 z2
      rw [hT] at p2 p6 z3
      have HL : Hid (gs.length = G ∧ us.length = A ∧ ts.length = T) := ⟨hG, hA, hT⟩
      clear hG hA hT h h' HN hf hfit
      have hlt' : (k : Int) < (n : Int) := by omega
      have KP : Hid (∀ X, Below w.heap.size w X → (X.cell? ⟨b, k * 4, none⟩ = some (.slice ga G gc) ∧ X.cell? ⟨b, k * 4 + 1, none⟩ = some (.slice aa A ac) ∧ X.cell? ⟨b, k * 4 + 2, none⟩ = some (.slice ta T tc) ∧ X.cell? ⟨b, k * 4 + 3, none⟩ = some (.bool st) ∧ X.cell? ⟨b', k * 4, none⟩ = some (.slice ga' G gc') ∧ X.cell? ⟨b', k * 4 + 1, none⟩ = some (.slice aa' A ac') ∧ X.cell? ⟨b', k * 4 + 2, none⟩ = some (.slice ta' T tc') ∧ X.cell? ⟨b', k * 4 + 3, none⟩ = some (.bool st))) := fun X hX => ⟨(hX.cell (p := ⟨b, k * 4, none⟩) (block_lt p0)).trans p0, (hX.cell (p := ⟨b, k * 4 + 1, none⟩) (block_lt p1)).trans p1, (hX.cell (p := ⟨b, k * 4 + 2, none⟩) (block_lt p2)).trans p2, (hX.cell (p := ⟨b, k * 4 + 3, none⟩) (block_lt p3)).trans p3, (hX.cell (p := ⟨b', k * 4, none⟩) (block_lt p4)).trans p4, (hX.cell (p := ⟨b', k * 4 + 1, none⟩) (block_lt p5)).trans p5, (hX.cell (p := ⟨b', k * 4 + 2, none⟩) (block_lt p6)).trans p6, (hX.cell (p := ⟨b', k * 4 + 3, none⟩) (block_lt p7)).trans p7⟩
      go_upto_region 6 with fail
      refine wp_region_ends (fun X => X.cell? ⟨b, k * 4, none⟩ = some (.slice ga G gc) ∧ X.cell? ⟨b, k * 4 + 1, none⟩ = some (.slice aa A ac) ∧ X.cell? ⟨b, k * 4 + 2, none⟩ = some (.slice ta T tc) ∧ X.cell? ⟨b, k * 4 + 3, none⟩ = some (.bool st) ∧ X.cell? ⟨b', k * 4, none⟩ = some (.slice ga' G gc') ∧ X.cell? ⟨b', k * 4 + 1, none⟩ = some (.slice aa' A ac') ∧ X.cell? ⟨b', k * 4 + 2, none⟩ = some (.slice ta' T tc') ∧ X.cell? ⟨b', k * 4 + 3, none⟩ = some (.bool st)) (fun _ => True) 9 (by kernel_rfl) ?_
      have BV : Below w.heap.size w wr.drew := hnx.drew
      obtain ⟨V, hV⟩ : ∃ V, V = wr.drew := ⟨_, rfl⟩
      rw [← hV] at BV
      rw [← hV]
      clear hV
      have hSS : (V.cell? ⟨b, k * 4, none⟩ = some (.slice ga G gc) ∧ V.cell? ⟨b, k * 4 + 1, none⟩ = some (.slice aa A ac) ∧ V.cell? ⟨b, k * 4 + 2, none⟩ = some (.slice ta T tc) ∧ V.cell? ⟨b, k * 4 + 3, none⟩ = some (.bool st) ∧ V.cell? ⟨b', k * 4, none⟩ = some (.slice ga' G gc') ∧ V.cell? ⟨b', k * 4 + 1, none⟩ = some (.slice aa' A ac') ∧ V.cell? ⟨b', k * 4 + 2, none⟩ = some (.slice ta' T tc') ∧ V.cell? ⟨b', k * 4 + 3, none⟩ = some (.bool st)) ∧ True := ⟨KP.out _ BV, trivial⟩
      refine wpAnyE_take0 (i := 0) (v := ?crxv0) rfl (by kernel_rfl) (by kernel_rfl) (by kernel_rfl) (by decide) (fun _ _ _ h => h) (Or.inl ⟨by rfl, ?crxhy0⟩) hSS ?_
      case crxhy0 => (intro wz hSw; (try dsimp only at hSw); go_simp; try (with_reducible rfl))
      refine wpAnyE_take0 (i := 1) (v := ?crxv1) rfl (by kernel_rfl) (by kernel_rfl) (by kernel_rfl) (by decide) (fun _ _ _ h => h) (Or.inl ⟨by rfl, ?crxhy1⟩) hSS ?_
      case crxhy1 => (intro wz hSw; (try dsimp only at hSw); go_simp; try (with_reducible rfl))
      refine wpAnyE_take0 (i := 2) (v := ?crxv2) rfl (by kernel_rfl) (by kernel_rfl) (by kernel_rfl) (by decide) (fun _ _ _ h => h) (Or.inl ⟨by rfl, ?crxhy2⟩) hSS ?_
      case crxhy2 => (intro wz hSw; (try dsimp only at hSw); go_simp; try (with_reducible rfl))
      refine wpAnyE_take0 (i := 3) (v := ?crxv3) rfl (by kernel_rfl) (by kernel_rfl) (by kernel_rfl) (by decide) (fun _ _ _ h => h) (Or.inl ⟨by rfl, ?crxhy3⟩) hSS ?_
      case crxhy3 => (intro wz hSw; (try dsimp only at hSw); go_simp; try (with_reducible rfl))
      simp only [Act.put, List.setIfInBounds_toArray, List.set_cons_succ, List.set_cons_zero, List.getElem_toArray, List.getElem_cons_succ, List.getElem_cons_zero]
      refine wpAnyE_take0 (i := 4) (v := ?crxv4) rfl (by kernel_rfl) (by kernel_rfl) (by kernel_rfl) (by decide) (fun _ _ _ h => h) (Or.inl ⟨by rfl, ?crxhy4⟩) hSS ?_
      case crxhy4 => (intro wz hSw; (try dsimp only at hSw); go_simp; try (with_reducible rfl))
      refine wpAnyE_take0 (i := 5) (v := ?crxv5) rfl (by kernel_rfl) (by kernel_rfl) (by kernel_rfl) (by decide) (fun _ _ _ h => h) (Or.inl ⟨by rfl, ?crxhy5⟩) hSS ?_
      case crxhy5 => (intro wz hSw; (try dsimp only at hSw); go_simp; try (with_reducible rfl))
      refine wpAnyE_take0 (i := 6) (v := ?crxv6) rfl (by kernel_rfl) (by kernel_rfl) (by kernel_rfl) (by decide) (fun _ _ _ h => h) (Or.inl ⟨by rfl, ?crxhy6⟩) hSS ?_
      case crxhy6 => (intro wz hSw; (try dsimp only at hSw); go_simp; try (with_reducible rfl))
      refine wpAnyE_take0 (i := 7) (v := ?crxv7) rfl (by kernel_rfl) (by kernel_rfl) (by kernel_rfl) (by decide) (fun _ _ _ h => h) (Or.inl ⟨by rfl, ?crxhy7⟩) hSS ?_
      case crxhy7 => (intro wz hSw; (try dsimp only at hSw); go_simp; try (with_reducible rfl))
      simp only [Act.put, List.setIfInBounds_toArray, List.set_cons_succ, List.set_cons_zero, List.getElem_toArray, List.getElem_cons_succ, List.getElem_cons_zero]
      refine wpAnyE_one (i := 8) (by kernel_rfl) rfl (fun K hK => ?_)
      go_simp
      refine (coRw_any ga ga' aa aa' ta ta' G gc gc' A ac ac' T tc tc' st gs us ts V HL.out.1 HL.out.2.1 HL.out.2.2 (by omega) (by omega) (by omega) (f0.keep BV) (f1.keep BV) (f2.keep BV) (u0.keep BV) (u1.keep BV) (u2.keep BV)).mono ?_
      rintro ee w1 ⟨rfl, b1⟩
      have B1 := BV.trans (b1.mono BV.size)
      clear hSS
      have hSS : (w1.cell? ⟨b, k * 4, none⟩ = some (.slice ga G gc) ∧ w1.cell? ⟨b, k * 4 + 1, none⟩ = some (.slice aa A ac) ∧ w1.cell? ⟨b, k * 4 + 2, none⟩ = some (.slice ta T tc) ∧ w1.cell? ⟨b, k * 4 + 3, none⟩ = some (.bool st) ∧ w1.cell? ⟨b', k * 4, none⟩ = some (.slice ga' G gc') ∧ w1.cell? ⟨b', k * 4 + 1, none⟩ = some (.slice aa' A ac') ∧ w1.cell? ⟨b', k * 4 + 2, none⟩ = some (.slice ta' T tc') ∧ w1.cell? ⟨b', k * 4 + 3, none⟩ = some (.bool st)) ∧ True := ⟨KP.out _ B1, trivial⟩
      (try dsimp only)
      refine hK.out _ _ ⟨hSS.1, fun _ => trivial⟩ ?_
      clear hK K
      refine wpAnyE_one (i := 9) (by kernel_rfl) rfl (fun K hK => ?_)
      go_simp
      refine hK.out _ _ ⟨hSS.1, fun _ => trivial⟩ ?_
      clear hK K
      refine wpAnyE_done (by kernel_rfl) ?_ _
      clear hSS
      clear KP
      go_wp2
      go_roundw
      case rel => exact ⟨k + 1, by omega, by go_num, B1⟩
      case measure => simp [intOf]; omega
    · have hlt' : ¬ (k : Int) < (n : Int) := by omega
      go_wp2
      go_ret
      exact ⟨rfl, hnx⟩

end Go.Proofs.Ytjggppnffkcmbaa
namespace Go.Proofs.Ytjggppnffkcmbaa
open Go.RowKit
set_option linter.unusedVariables false
set_option maxRecDepth 100000

/-- An answer of either: rows that lie in memory. -/
def RwM (w w' : World) (e : Ending) (rs : List RowM) : Prop := ∃ a n c, e = .returned (.slice a n c) ∧ n = rs.length ∧ RowsAt w' a rs ∧ Below w.heap.size w w'
theorem pRows (ad : Option Addr) (N cap : Nat) (ls : List LV) (w : World) (hN : ls.length = N) (hF : LinesG w ad ls) (hN1 : N ≤ 1048576) :
    Calls Try.prog 28 #[.slice ad N cap] w fun e w' => RwM w w' e (rowsB N ls) :=
  (irows_any ad N cap ls w hN hF hN1).mono fun e w' h => by
    obtain ⟨b, a, c, he, hr⟩ := h
    exact ⟨a, _, c, he, rfl, hr, b⟩
theorem qRows (ad : Option Addr) (N cap : Nat) (ls : List LV) (w : World) (hN : ls.length = N) (hF : LinesG w ad ls) (hN1 : N ≤ 1048576) :
    Calls Try.prog 30 #[.slice ad N cap] w fun e w' => RwM w w' e (rowsB N ls) :=
  (srows_any ad N cap ls w hN hF hN1).mono fun e w' h => by
    obtain ⟨G, cp, xs, he, j⟩ := h
    obtain ⟨a, c, hv, hr⟩ := rowsAt_own j.o rfl j.r.toC
    exact ⟨_, _, _, he, rfl, by cases hv; exact hr, j.b⟩
theorem rowsB_fit {N : Nat} {ls : List LV} {w : World} {ad : Option Addr} (hN : ls.length = N) (hF : LinesG w ad ls) : ∀ r ∈ rowsB N ls, RowFit r := fun r hr => by
  unfold rowsB at hr
  split at hr
  · rename_i h
    exact rowsL_fit (by rw [hN]; exact (actB_parts h).1) (actB_parts h).2 hF r hr
  · simp at hr
theorem rowsB_le {N : Nat} {ls : List LV} (hN : ls.length = N) : (rowsB N ls).length ≤ 8 := by
  unfold rowsB
  split
  · rename_i h
    obtain ⟨_, h2, h3, _⟩ := rowsL_few hN h
    exact Nat.le_trans h2 (Nat.pow_le_pow_right (by omega) h3)
  · simp
theorem rowsB_yes {N : Nat} {ls : List LV} (h : actB N ls = true) : rowsB N ls = rowsL ls := by rw [rowsB, h]; rfl
theorem rowsB_no {N : Nat} {ls : List LV} (h : actB N ls = false) : rowsB N ls = [] := by rw [rowsB, h]; rfl

end Go.Proofs.Ytjggppnffkcmbaa
