/-
  The parts that must be kept an eye on, as the program finds them (impl.CatForms). Length at most 1048576.
-/
import Derived.Maps.OwnIn
import Derived.Test.YtfmpcihghlnlnaaGreatDoorQa
namespace Go.Proofs.YtfmpcihghlnlnaaGreatDoor
open Go.RowKit Go.Deep Go.Shelf
open Option.some renaming injEq → qA
open World renaming size_alloc → qB
open List renaming getElem?_eq_getElem → qC, length_append → qD, take_of_length_le → qE, length_singleton → qG, length_map → qH
open Nat renaming le_refl → qF
set_option linter.unusedVariables false
set_option maxRecDepth 100000
set_option maxHeartbeats 25600000
variable {B n n0 : Nat} {Ds : List Nat} {W W' X w : World} {bs : Nat -> Nat} {ts : List IV} {v : Value}
attribute [local go_sem] Oper.semAt_some
section
variable {F : Fence} {n : Nat} {P : Program} {ops : Array Oper} {Q : Exit -> Act -> World -> Prop} {md : Region.Mode} {S : World -> Prop}
theorem wpAnyS_two {i j : Nat} {oi oj : Oper} {fuel : Nat} {listed : Array Bool} {a : Act} (hr : Region.ready md ops listed = [i, j]) (hi : ops[i]? = some oi) (hj : ops[j]? = some oj)
  (h1 : ∀ K' : Act -> World -> Prop, Shut (∀ a w, S w -> wpAnyS F n P md ops Q S fuel (listed.setIfInBounds i true) a w -> K' a w) -> if Region.wanted oi (yielded ops a.tmps) = true then Oper.wpIn F n P oi a w K' Q else (∀ f, oi.about P w a.eval = some f -> F.fn f) /\ K' (a.put oi.dst undef) w)
  (h2 : ∀ K' : Act -> World -> Prop, Shut (∀ a w, S w -> wpAnyS F n P md ops Q S fuel (listed.setIfInBounds j true) a w -> K' a w) -> if Region.wanted oj (yielded ops a.tmps) = true then Oper.wpIn F n P oj a w K' Q else (∀ f, oj.about P w a.eval = some f -> F.fn f) /\ K' (a.put oj.dst undef) w) : wpAnyS F n P md ops Q S (fuel + 1) listed a w := by
 refine ⟨fun h0 => (by rw [hr] at h0; cases h0), fun z hz => ?_⟩;rw [hr] at hz
 rcases List.mem_cons.1 hz with rfl | hz
 ·exact wpOpIn_step hi (fun K' hK => h1 K' (fun a w hS hW => hK a w ⟨hS, hW⟩))
 rcases List.mem_cons.1 hz with rfl | hz
 ·exact wpOpIn_step hj (fun K' hK => h2 K' (fun a w hS hW => hK a w ⟨hS, hW⟩))
 cases hz
end
def MkDs (Ds : List Nat) : List Deferred := Ds.map fun D => { target := .collected D, args := #[] }
theorem leaves_marks {F : Fence} {P : Program} {fn : Func} {tmps : Array Value} {R : Ending -> World -> Prop} (hres : ∀ W', (results fn tmps).run P W' = .ok v W') : ∀ (Ds : List Nat) (W : World), (∀ D ∈ Ds, W.heap[D]? = some (.deferred (some []))) -> Ds.Nodup ->
  (∀ W', Touch (fun k => k ∈ Ds) W W' -> R (.returned v) W') -> LeavesInM F n P fn tmps R (MkDs Ds) .returning W
 | [], W, _, _, hR => ⟨v, hres W, hR W (Touch.refl _ _)⟩
 | D :: Ds, W, hb, hn, hR => by
  refine ⟨by simp, .inl ⟨D, _, rfl, run_takeDeferred (hb D (by simp)), ?_⟩⟩;obtain ⟨h1, h2⟩ := List.nodup_cons.1 hn;refine leaves_marks hres Ds _ (fun D' hD' => ?_) h2 (fun W' t => hR W' ?_)
  ·rw [World.putObj_heap_other (fun e => h1 (by rw [<- e]; exact hD'))]
   exact hb D' (by simp [hD'])
  refine Touch.trans (b := W.putObj D _) ⟨rfl, rfl, rfl, by simp [World.putObj], fun k hk hk2 => World.putObj_heap_other (fun e => hk2 (by simp [e]))⟩ (t.mono (fun k hk => by simp [hk]))
structure MkOk (n0 : Nat) (Ds : List Nat) (W : World) : Prop where
 b : ∀ D ∈ Ds, W.heap[D]? = some (.deferred (some []))
 n : Ds.Nodup
 l : ∀ D ∈ Ds, n0 <= D
theorem MkOk.nil (n0 : Nat) (W : World) : MkOk n0 [] W := ⟨fun _ h => by simp at h, List.nodup_nil, fun _ h => by simp at h⟩
theorem MkOk.below (h : MkOk n0 Ds W) (b : Below W.heap.size W W') : MkOk n0 Ds W' := ⟨fun D hD => (b.block D (lt_of_block (h.b D hD))).trans (h.b D hD), h.n, h.l⟩
theorem MkOk.touch {S : Nat -> Prop} (h : MkOk n0 Ds W) (t : Touch S W W') (hS : ∀ k, S k -> ∀ o, W.heap[k]? ≠ some (.deferred o)) : MkOk n0 Ds W' := ⟨fun D hD => (t.block D (lt_of_block (h.b D hD)) (fun hs => hS D hs _ (h.b D hD))).trans (h.b D hD), h.n, h.l⟩
theorem MkOk.loop {l : Nat} {r : Loop} {o : Obj} (h : MkOk n0 Ds W) (hl : W.heap[l]? = some (.loop r)) : MkOk n0 Ds (W.putObj l o) := ⟨fun D hD => by
  have hne : D ≠ l := fun e => by
   have := h.b D hD;rw [e, hl] at this
   cases this
  rw [World.putObj_heap_other hne]; exact h.b D hD, h.n, h.l⟩
theorem OwnM.loop {l : Nat} {D : DataW Unit} {r : Loop} {o : Obj} (h : OwnM X B n D) (hl : X.heap[l]? = some (.loop r)) : OwnM (X.putObj l o) B n D := by
 obtain ⟨es, clock, hb, q⟩ := h
 have hne : B ≠ l := fun e => by
  rw [e, hl] at hb
  cases hb
 exact ⟨es, clock, by rw [World.putObj_heap_other hne]; exact hb, q⟩
theorem OwnM.obj {D : DataW Unit} (h : OwnM X B n D) : ∃ es clock, X.heap[B]? = some (.map es clock) := by
 obtain ⟨es, clock, hb, _⟩ := h
 exact ⟨es, clock, hb⟩
theorem OwnM.kpR {Y : World} {D : DataW Unit} (h : OwnM X B n D) (t : Touch (fun k => k = B) X Y) : KpR X Y := t.mono (fun k e => by
 subst e;obtain ⟨es, clock, hb⟩ := h.obj;intro cs ty fr he;rw [hb] at he
 cases he)
theorem addP_len (ps : List (List Int)) {p : List Int} : ps.length <= (addPb ps p).length := by
 unfold addPb
 split
 ·exact qF _
 simp
theorem guardsP_len {fs : List Frm} : ∀ ps, ps.length <= (guardsP ps fs).length := by
 induction fs with
 | nil => intro ps; exact qF _
 | cons f fs ih => intro ps; exact Nat.le_trans (addP_len ps) (ih _)
theorem rowsP_len {rs : List RowM} : ∀ ps, ps.length <= (rowsP ps rs).length := by
 induction rs with
 | nil => intro ps; exact qF _
 | cons r rs ih => intro ps; exact Nat.le_trans (guardsP_len ps) (ih _)
theorem actsP_len (ss : List L2V) : ∀ ps, ps.length <= (actsP ps ss).length := by
 induction ss with
 | nil => intro ps; exact qF _
 | cons s ss ih => intro ps; exact Nat.le_trans (rowsP_len ps) (ih _)
theorem catP_pos (ss : List L2V) : 3 <= (catP ss).length := actsP_len ss pots3
structure JO (w : World) (v : Value) (ts : List IV) (bs : Nat -> Nat) (W : World) : Prop where
 b : Below w.heap.size w W
 o : W.ownsRow w.heap.size 23 1 v ts.length (ts.map IV.v)
 k : ∀ j, j < ts.length -> (ts[j]?.getD noI).n = 3 /\ OwnX W (ts[j]?.getD noI).a (bs j) 3 (ts[j]?.getD noI).x /\ w.heap.size <= bs j /\ some (bs j) ≠ v.ownBlock
 d : ∀ i j, i < j -> j < ts.length -> bs i < bs j
theorem JO.nil (w W : World) (hb : Below w.heap.size w W) (bs : Nat -> Nat) : JO w (.slice none 0 0) [] bs W := ⟨hb, World.ownsRow_nil W _ _ _, fun j hj => by simp at hj, fun i j _ hj => by simp at hj⟩
theorem JO.below (j : JO w v ts bs W) (h : Below W.heap.size W W') : JO w v ts bs W' :=
 ⟨j.b.trans (h.mono j.b.size), by
  refine ⟨j.o.1, ?_⟩
  rcases j.o.2 with h2 | ⟨g, cap, cur, hv, hg, hh, r⟩
  ·exact Or.inl h2
  exact Or.inr ⟨g, cap, cur, hv, hg, by rw [h.block g (lt_of_block hh)]; exact hh, r⟩, fun i hi => by obtain ⟨a, b, c, d⟩ := j.k i hi; exact ⟨a, b.below h, c, d⟩, j.d⟩
theorem JO.blk (j : JO w v ts bs W) {g : Nat} (h : v.ownBlock = some g) : w.heap.size <= g /\ ∃ cur, W.heap[g]? = some (.cells cur 23 (0, 0)) := by
 rcases j.o.2 with ⟨h', _⟩ | ⟨g', cap, cur, hv, hg, hh, r⟩
 ·rw [h'] at h; simp [Value.ownBlock] at h
 rw [hv] at h;simp only [Value.ownBlock, qA] at h;subst h
 exact ⟨hg, cur, hh⟩
theorem JO.past {S : Nat -> Prop} (j : JO w v ts bs W) (t : Touch S W W') (hS : ∀ k, S k -> w.heap.size <= k /\ ∀ cs ty fr, W.heap[k]? ≠ some (.cells cs ty fr)) : JO w v ts bs W' := by
 refine ⟨j.b.trans (t.below j.b.size (fun k hk => (hS k hk).1)), ?_, fun i hi => ?_, j.d⟩
 ·refine ⟨j.o.1, ?_⟩
  rcases j.o.2 with h2 | ⟨g, cap, cur, hv, hg, hh, r⟩
  ·exact Or.inl h2
  exact Or.inr ⟨g, cap, cur, hv, hg, by rw [t.block g (lt_of_block hh) (fun h => (hS g h).2 _ _ _ hh)]; exact hh, r⟩
 obtain ⟨a, b, c, d⟩ := j.k i hi;refine ⟨a, b.touch t (fun _ h => ?_), c, d⟩
 rcases b.2 with h0 | ⟨_, cur, hc, _⟩
 ·omega
 exact (hS _ h).2 _ _ _ hc
theorem JO.app {v' : Value} {s : IV} {A k : Nat} {o : Obj} (j : JO w v ts bs W) (hk : ts.length = k) (hs : s.n = 3) (hA : OwnX W s.a A 3 s.x) (hlo : w.heap.size <= A) (hnew : ∀ i, i < k -> bs i < A) (hne : some A ≠ v.ownBlock)
  (hown : W'.ownsRow w.heap.size 23 1 v' (k + 1) (ts.map IV.v ++ [s.v])) (hg : (W.alloc o).grownBy W' v.ownBlock) (hat : v'.ownBlock = v.ownBlock \/ v'.ownBlock = some (W.alloc o).heap.size) : JO w v' (ts ++ [s]) (fun i => if i < k then bs i else A) W' := by
 subst hk;have B1 : Below W.heap.size W (W.alloc o) := bal;have ja := j.below B1;have hlA := hA.lt (by omega)
 have key : ∀ (a : Option Addr) (X : Nat) (x : List Int), OwnX W a X 3 x -> some X ≠ v.ownBlock -> OwnX W' a X 3 x /\ some X ≠ v'.ownBlock := fun a X x h1 h2 => by
  have hl := h1.lt (by omega);refine ⟨?_, fun e => ?_⟩
  ·have h3 := h1.below B1
   rcases h3.2 with h0 | ⟨e1, cur, hc, hv⟩
   ·omega
   exact ⟨h3.1, .inr ⟨e1, cur, hc.grew hg (fun e => h2 e.symm), hv⟩⟩
  rcases hat with h | h
  ·exact h2 (e.trans h)
  rw [h, qB] at e;simp only [qA] at e
  omega
 refine ⟨ja.b.grown hg ja.b.size (fun z hz => (j.blk hz).1), by rw [qD, List.map_append]; exact hown, fun i hi => ?_, fun i i' h hi' => ?_⟩
 ·by_cases h : i < ts.length
  ·rw [List.getElem?_append_left h];obtain ⟨a, b, c, d⟩ := j.k i h;simp only [h, if_true];obtain ⟨q1, q2⟩ := key _ _ _ b d
   exact ⟨a, q1, c, q2⟩
  rw [qD, qG] at hi;obtain rfl : i = ts.length := by omega
  rw [List.getElem?_append_right (qF _), Nat.sub_self];simp only [Nat.lt_irrefl, if_false];obtain ⟨q1, q2⟩ := key _ _ _ hA hne
  exact ⟨hs, q1, hlo, q2⟩
 rw [qD, qG] at hi';have h1 : i < ts.length := by omega
 simp only [h1, if_true]
 by_cases h2 : i' < ts.length
 ·simp only [h2, if_true]; exact j.d i i' h h2
 simp only [h2, if_false]; exact hnew i h1
theorem MkOk.grown {o : Obj} (h : MkOk n0 Ds W) (j : JO w v ts bs W) (hg : (W.alloc o).grownBy W' v.ownBlock) : MkOk n0 Ds W' := by
 have h1 := h.below ((Below.refl _ _).alloc (qF _) o);refine ⟨fun D hD => ?_, h.n, h.l⟩;rw [hg.block D (lt_of_block (h1.b D hD)) (fun e => ?_)]
 ·exact h1.b D hD
 obtain ⟨_, cur, hh⟩ := j.blk e.symm;rw [h.b D hD] at hh
 cases hh
theorem Cel.grownKT {o : Obj} {L : Nat} {cur : List Value} (h : Cel W L cur KT) (j : JO w v ts bs W) (hg : (W.alloc o).grownBy W' v.ownBlock) : Cel W' L cur KT := by
 refine (h.alloc o).grew hg (fun e => ?_);obtain ⟨_, c2, hh⟩ := j.blk e;unfold Cel at h;rw [h] at hh;simp only [qA, Obj.cells.injEq] at hh
 exact absurd hh.2.1 (by decide)
theorem pots3_guards : guardsP [] way0.pots = pots3 := by decide +kernel
theorem pot_fit : ∀ k, k < 3 -> fitX 10000000 (way0.pots[k]?.getD ([], [], 0)) := fun k hk => (WayOk.start.pf k hk).mono (by have := wb_six (n := 0) (by omega); simp [wb] at *)
theorem icatforms_in (ad : Option Addr) (N cap : Nat) (ss : List L2V) (w : World) (n : Nat) (hN : ss.length = N) (hF : LSG w ad ss) (hN1 : N <= 1048576) :
  CallsIn Fence.wide n Tryz.prog 79 #[.slice ad N cap] w fun e w' => Below w.heap.size w w' /\ ((catB N ss = false /\ e = .returned (.slice none 0 0)) \/ (catB N ss = true /\ ∃ G cG ts bs, e = .returned (.slice (some ⟨G, 0, none⟩) (catP ss).length cG) /\ ts.map IV.x = catP ss /\ JO w (.slice (some ⟨G, 0, none⟩) (catP ss).length cG) ts bs w')) := by
 have hdd : ∀ k : Nat, (Fence.wide.depth.isSome = true -> 1 <= k) := fun k h => by simp [Fence.wide] at h
 have HN : Hid (ss.length = N) := hN;have HF : Hid (LSG w ad ss) := hF;have hmm := @run_makeMap Tryz.prog;refine callsIn_of_wp_marks Tryz.func79 rfl trivial ?_ rfl;simp only [Tryz.ntmps79, List.size_toArray, List.length_cons, List.length_nil, Nat.reduceAdd, Nat.reduceSub, Array.replicate_succ, Array.replicate_zero, List.push_toArray, List.append_toArray, List.nil_append, List.cons_append]
 gi_wp2_with fail
 refine ⟨trivial, hdd _, (callsIn_wide.2 (icat_any ad N cap ss hN hF hN1)).mono ?_⟩;rintro e w1 ⟨rfl, b1⟩;obtain ⟨u, hu⟩ : ∃ u, catB N ss = u := ⟨_, rfl⟩
 rw [hu]
 cases u with
 | false =>
  gi_wp2
  exact ⟨_, results_tmp rfl _ _ _, b1, Or.inl ⟨hu, rfl⟩⟩
 | true =>
  have N4 := (catB_parts hu).1;have HALL : Hid (ss.all L2V.ok = true) := (catB_parts hu).2;have HU : Hid (catB N ss = true) := hu;clear hu hN hF
  gi_wp2_with fail
  have m0 : OwnM ((w1.alloc (.map #[] 0)).alloc (.cells #[.map (some w1.heap.size)] 155)) w1.heap.size 0 (.map []) := (World.ownsMap_made w1 Tryz.prog KT (plainElem Tryz.prog ET)).alloc _
  have p0 : Cel ((w1.alloc (.map #[] 0)).alloc (.cells #[.map (some w1.heap.size)] 155)) (w1.heap.size + 1) [.map (some w1.heap.size)] 155 := by
   have := Cel.new (w1.alloc (.map #[] 0)) [.map (some w1.heap.size)] 155;rw [qB] at this; exact this
  have b2 : Below w1.heap.size w1 ((w1.alloc (.map #[] 0)).alloc (.cells #[.map (some w1.heap.size)] 155)) := (bal).alloc (by simp) _;obtain ⟨Z, hZ⟩ : ∃ Z, Z = (w1.alloc (.map #[] 0)).alloc (.cells #[.map (some w1.heap.size)] 155) := ⟨_, rfl⟩
  rw [<- hZ] at m0 p0 b2 ⊢;have lB0 := b1.size;obtain ⟨B, hB⟩ : ∃ B, B = w1.heap.size := ⟨_, rfl⟩
  rw [<- hB] at m0 p0 ⊢;have hBw : w.heap.size <= B := by omega
  have B2 := btr b1 b2;clear hZ hmm hB b2 b1;have KP : Hid (∀ V, Touch (fun k => k = B) Z V -> V.cell? ⟨B + 1, 0, none⟩ = some (.map (some B))) := fun V t => (p0.touch t (fun h => by have : B + 1 = B := h; omega)).cell 0;have e0 : Below Z.heap.size Z Z.drew := (Below.refl _ _).drew;have hSS := KP.out _ (Touch.of e0);refine wpIn_region_S (fun w' => w'.cell? ⟨B + 1, 0, none⟩ = some (.map (some B))) (by kernel_rfl) ?_;refine wpAnyS_two (i := 0) (j := 1) (by kernel_rfl) rfl rfl (fun K hK => ?_) (fun K hK => ?_)
  ·go_simp;refine hK.out _ _ hSS ?_;refine wpAnyS_one (i := 1) (by kernel_rfl) rfl (fun K hK => ?_);go_simp;refine ⟨trivial, hdd _, (callsIn_wide.2 (ipots_any)).mono ?_⟩;rintro e w2 ⟨v, xs, rfl, jv⟩;obtain ⟨pa, pcap, rfl, FP⟩ := jv.slice rfl;have b3 : Below Z.heap.size Z w2 := btr e0 jv.b;have m2 := m0.below b3;(try dsimp only);refine hK.out _ _ (KP.out _ (Touch.of b3)) ?_;clear hK K jv;refine wpAnyS_one (i := 2) (by kernel_rfl) rfl (fun K hK => ?_);go_simp;refine ⟨trivial, hdd _, (callsIn_wide.2 (iput_any B 0 (.map []) [] pa 3 pcap way0.pots _ m2 MapIs.empty (by omega) rfl FP pot_fit)).mono ?_⟩;rintro e w3 ⟨⟨v3, rfl⟩, t3, D3, m3, d3⟩;rw [pots3_guards] at d3;have p3 : Cel w3 (B + 1) [.map (some B)] 155 := (p0.below b3).touch t3 (fun h => by have : B + 1 = B := h; omega);have B3 : Below w.heap.size w w3 := (btr B2 b3).trans (t3.below (B := w.heap.size) (Nat.le_trans B2.size b3.size) (fun k hk => by have : k = B := hk; omega));have s3 := t3.size;(try dsimp only);refine hK.out _ _ (p3.cell 0) ?_;refine wpAnyS_done (by kernel_rfl) ?_ _;have lp3 := p3.lt;clear KP m0 p0 m2 FP t3 b3 e0 B2 lB0
   gi_wp2_with fail
   refine wpIn_loop (fun a' w' => ∃ (u5 u6 u20 u21 u22 u23 u24 u25 u26 u27 u28 u29 u30 : Value) (k : Nat) (Ds : List Nat) (D : DataW Unit) (m : Nat), k <= N /\ OwnM w' B m D /\ m <= 3 + 128000 * k /\ MapIs D (actsP pots3 (ss.take k)) /\ Cel w' (B + 1) [.map (some B)] 155 /\ Below w.heap.size w w' /\ MkOk w.heap.size Ds w' /\ a' = { tmps := #[.slice ad N cap, undef, .slice none 0 0, .pointer (some ⟨B + 1, 0, none⟩), undef, u5, u6, undef, undef, undef, .slice ad N cap, .bool true, .bool false, .map (some B), .map (some B), .slice pa 3 pcap, v3, .slice ad N cap, .int .i64 N, .int .i64 (k : Int), u20, u21, u22, u23, u24, u25, u26, u27, u28, u29, u30, undef, undef, undef, undef, undef, undef, undef, undef, undef, undef, undef, undef, undef, undef], defers := MkDs Ds }) (fun a' _ => N - (intOf (a'.tmps.getD 19 undef)).toNat) ⟨undef, undef, undef, undef, undef, undef, undef, undef, undef, undef, undef, undef, undef, 0, [], D3, 3, by omega, m3, by omega, d3, p3, B3, MkOk.nil _ _, rfl⟩ ?_;rintro a0 wr ⟨u5, u6, u20, u21, u22, u23, u24, u25, u26, u27, u28, u29, u30, k, Ds, D, m, hk, hm, hmb, hD, hp, hb, hmk, rfl⟩;clear m3 d3 p3 B3 lp3 s3;have HD : Hid (MapIs D (actsP pots3 (ss.take k))) := hD;have HMK : Hid (MkOk w.heap.size Ds wr) := hmk;have lp := hp.lt;clear hD hmk
   by_cases hlt : k < N
   ·have hlt' : (k : Int) < N := by omega
    have his : k < ss.length := by rw [HN.out]; exact hlt
    obtain ⟨ab, ao, rfl, hc, hLG⟩ := (HF.out.below hb) k his;have HSA : Hid (∀ ps, ps = actsP pots3 (ss.take k) -> rowsP ps (rowsL (ss[k]?.getD noL).x) = actsP pots3 (ss.take (k + 1))) := fun ps h => by rw [h, actsP_snoc his]
    have hsok : (ss[k]?.getD noL).ok = true := by
     rw [qC his]
     exact List.all_eq_true.1 HALL.out _ (List.getElem_mem his)
    obtain ⟨s, hs⟩ : ∃ s, s = ss[k]?.getD noL := ⟨_, rfl⟩
    rw [<- hs] at hc hLG HSA hsok;obtain ⟨sa, sn, sc, sx⟩ := s;have hAct : actB sn sx = true := hsok;obtain ⟨hxl, hLin, hsn⟩ := hLG;have hc' : wr.cell? ⟨ab, ao + k, none⟩ = some (.slice sa sn sc) := hc;have HLIN : Hid (LinesG wr sa sx) := hLin;clear hs hc hsok hLin;obtain ⟨PS, hPS⟩ : ∃ PS, PS = actsP pots3 (ss.take k) := ⟨_, rfl⟩
    have HSA2 : Hid (rowsP PS (rowsL sx) = actsP pots3 (ss.take (k + 1))) := HSA.out PS hPS;have HD' : Hid (MapIs D (rowsP PS [])) := by show MapIs _ _; rw [hPS]; exact HD.out
    clear HSA HD hPS
    gi_wp2_with fail
    refine ⟨trivial, hdd _, (callsIn_wide.2 (ithrough_any sa sn sc wr)).mono ?_⟩;rintro e w4 ⟨Bc, rfl, b4, cB⟩;have m4 := OwnM.below hm b4;have p4 := hp.below b4;have mk4 := HMK.out.below b4;have s4 := b4.size;have B4 : Below w.heap.size w w4 := btr hb b4;have F4 := HLIN.out.below b4;have sB := B4.size;clear hm hp hb HMK hc'
    gi_wp2_with fail
    refine wpIn_rows (α := Value × RowM) (gf := 141) (lb := #[.pointer (some ⟨Bc, 0, none⟩)]) rfl (enters_of Tryz.func141 (by kernel_rfl) rfl) (encs := fun x => #[x.1]) (fun _ => rfl)
     (fun pre x X => pre.length < 128 /\ RowFit x.2 /\ RowX X w4.heap.size x.1 x.2) KpR (fun xs => xs.map Prod.snd = rowsL sx)
     (fun pre X => ∃ (D : DataW Unit) (m : Nat), OwnM X B m D /\ m <= 3 + 128000 * k + 1000 * pre.length /\ MapIs D (rowsP PS (pre.map Prod.snd)) /\ Cel X (B + 1) [.map (some B)] 155 /\ Below w.heap.size w X /\ MkOk w.heap.size Ds X)
     (fun pre X Y h b => by
      obtain ⟨D, m, h1, h2, h3, h4, h5, h6⟩ := h
      exact ⟨D, m, OwnM.below h1 b, h2, h3, h4.below b, btr h5 b, h6.below b⟩)
     (fun pre X l r r' h hl lt => by
      obtain ⟨D, m, h1, h2, h3, h4, h5, h6⟩ := h
      exact ⟨D, m, OwnM.loop h1 hl, h2, h3, h4.loop hl, below_loop h5 (by omega), h6.loop hl⟩) KpR.loop (fun X Y Z => KpR.trans) ⟨D, m, m4, by simp; omega, HD'.out, p4, B4, mk4⟩ ?seq ?round ?done
    case seq =>
     intro l J W hJ hb2 hJ0 hY;have ee0 : (#[.func (.yield l) #[] #[]] ++ #[.pointer (some ⟨Bc, 0, none⟩)] : Array Value) = #[.func (.yield l) #[] #[], .pointer (some ⟨Bc, 0, none⟩)] := rfl;rw [ee0];refine (through_any l w4.heap.size (fun rs X => ∃ xs : List (Value × RowM), xs.map Prod.snd = rs /\ J xs X) (fun rs X Y h b => ?_) (fun mm rs v r X h fit rx hlen => ?_) Bc sa sn sc sx W (n - 1) hxl (F4.below hb2) hsn hAct ((cB.below hb2).cell 0) hb2.size ⟨[], rfl, hJ0⟩).mono ?_
     ·obtain ⟨xs, e, j⟩ := h
      exact ⟨xs, e, hJ _ _ _ j b⟩
     ·obtain ⟨xs, e, j⟩ := h;obtain ⟨fn, tmps, assign, body, hy, hR⟩ := hY mm xs (v, r) X j ⟨by rw [<- e, qH] at hlen; exact hlen, fit, rx⟩;refine ⟨fn, tmps, assign, body, hy, hR.mono ?_⟩;rintro e' Y ⟨a, b, c⟩
      exact ⟨a, ⟨xs ++ [(v, r)], by simp [e], b⟩, c⟩
     rintro e Y ⟨h1, ⟨xs, e1, j⟩, _⟩
     exact ⟨h1, xs, e1, j⟩
    case round =>
     rintro mm l pre ⟨v, rm⟩ X r ⟨D1, m1, hO, hm1, hD1, hC, hB, hMk⟩ ⟨hlen, fit, rx⟩ hl hlt2;dsimp only at fit rx;obtain ⟨ga, gc, aa, ac, ta, tc, rfl, f0, f1, f2⟩ := rx;dsimp only
     gi_wp2_with fail
     have bx : Below X.heap.size X (X.alloc (.cells #[.slice ga rm.guards.length gc, .slice aa rm.adds.length ac, .slice ta rm.tells.length tc, .bool rm.stop] 113)) := bal;have cx := Cel.new X [.slice ga rm.guards.length gc, .slice aa rm.adds.length ac, .slice ta rm.tells.length tc, .bool rm.stop] 113;have hl1 := (bx.block l (lt_of_block hl)).trans hl;refine ⟨keeps_below bx, KpR.of bx, ?_⟩;have O1 : OwnM _ _ _ _ := OwnM.loop (o := .loop { r with state := .busy }) (OwnM.below hO bx) hl1;have C1 := Cel.loop (r' := { r with state := .busy }) (hC.below bx) hl1;have X1 := Cel.loop (r' := { r with state := .busy }) cx hl1;have MK1 := MkOk.loop (o := .loop { r with state := .busy }) (hMk.below bx) hl1;have k1 : KpR X _ := (KpR.of bx).trans (KpR.loop _ l r { r with state := .busy } hl1);have B1 := below_loop (r' := { r with state := .busy }) (btr hB bx) (l := l) (by omega);obtain ⟨Y, hY⟩ : ∃ Y, Y = (X.alloc (.cells #[.slice ga rm.guards.length gc, .slice aa rm.adds.length ac, .slice ta rm.tells.length tc, .bool rm.stop] 113)).putObj l (.loop { r with state := .busy }) := ⟨_, rfl⟩
     rw [<- hY] at O1 C1 X1 k1 B1 MK1 ⊢;clear hY;have FG := f0.at.keepR k1;have hc1 := C1.cell 0;have hx1 := X1.cell 0;have lB1 : B < w4.heap.size := m4.lt;have lgg := fit.lg;clear cx bx hl1 hO hC hB f0 f1 f2
     gi_wp2_with fail
     refine ⟨trivial, hdd _, CallsIn.mono (CallsIn.inRound l (callsIn_wide.2 (iput_any B m1 D1 _ ga rm.guards.length gc rm.guards Y O1 hD1 (by omega) rfl FG fit.g))) ?_⟩;rintro e Y1 ⟨⟨v1, rfl⟩, t1, D2, m2, d2⟩;have C2 := cel_past C1 t1
     have MK2 := MK1.touch t1 (fun q hq o ho => by
      have : q = B := hq;subst this;obtain ⟨es, clock, hb⟩ := O1.obj;rw [hb] at ho
      cases ho)
     clear hc1 hx1
     gi_wp2_with fail
     refine ⟨keeps_touch t1, OwnM.kpR O1 t1, D2, _, m2, ?_, ?_, C2, below_touch B1 t1, MK2⟩
     ·rw [qD, qG]; omega
     rw [List.map_append];have e2 : rowsP PS (pre.map Prod.snd ++ [rm]) = guardsP (rowsP PS (pre.map Prod.snd)) rm.guards := by simp [rowsP, List.foldl_append]
     exact e2 ▸ d2
    case done =>
     rintro DD xs W hDD hS ⟨D1, m1, hO, hm1, hD1, hC, hB, hMk⟩ hK;rw [hS] at hD1
     have hxl2 : xs.length <= 128 := by
      have := congrArg List.length hS;rw [qH] at this;rw [this]; exact goW_128 (by omega)
     have MK3 : MkOk w.heap.size (DD :: Ds) W := by
      refine ⟨fun D' hD' => ?_, List.nodup_cons.2 ⟨fun hin => ?_, hMk.n⟩, fun D' hD' => ?_⟩
      ·rcases List.mem_cons.1 hD' with rfl | h
       ·exact hK
       exact hMk.b D' h
      ·have := lt_of_block (mk4.b DD hin)
       omega
      rcases List.mem_cons.1 hD' with rfl | h
      ·omega
      exact hMk.l D' h
     have HD1 : Hid (MapIs D1 (actsP pots3 (ss.take (k + 1)))) := by show MapIs _ _; rw [<- HSA2.out]; exact hD1
     clear hD1 hMk hK
     gi_wp2
     refine ⟨⟨_, _, _, _, _, _, _, _, _, _, _, _, _, k + 1, DD :: Ds, D1, m1, by omega, hO, by omega, HD1.out, hC, hB, MK3, rfl⟩, ?_⟩;simp [intOf]; omega
   obtain rfl : k = N := by omega
   have hall : ss.take k = ss := qE (by rw [HN.out]; exact qF _);obtain ⟨ps, hps⟩ : ∃ ps, ps = catP ss := ⟨_, rfl⟩
   have HPS : Hid (ps = catP ss) := hps;have HDP : Hid (MapIs D ps) := by show MapIs _ _; rw [hps, catP, <- hall]; rw [hall]; have := HD.out; rw [hall] at this; exact this
   have hlen : ps.length <= 600000 := by
    have h1 := HDP.out.sz;have h2 := hm.size_le
    omega
   clear HD hall hps;have hpc := hp.cell 0
   gi_wp2_with fail
   refine ⟨trivial, hdd _, (callsIn_wide.2 (iorder_any B m D ps wr hm HDP.out)).mono ?_⟩;rintro e w5 ⟨L, cur, rfl, b5, lL, c5, hKA⟩;have HKA : Hid (∀ j, j < ps.length -> KeyAt cur j (ps[j]?.getD [])) := hKA;have HWF : Hid (∀ j, j < ps.length -> (ps[j]?.getD []).length = 3) := fun j hj => (HDP.out.wf _ (by rw [qC hj]; exact List.getElem_mem hj)).1;have mk5 := HMK.out.below b5;have B5 := btr hb b5;have lL0 : w.heap.size <= L := Nat.le_trans hb.size lL;obtain ⟨M, hM⟩ : ∃ M, M = ps.length := ⟨_, rfl⟩
   have HM : Hid (M = ps.length) := hM;rw [<- hM] at hlen ⊢;have j5 : JO w (.slice none 0 0) [] (fun _ => 0) w5 := JO.nil w w5 B5 _;clear hKA hM hm hp hb HMK b5 HDP hpc
   gi_wp2_with fail
   gi_loopw [7, 9, 34] (fun v _ i wr => ∃ (j : Nat) (ts : List IV) (bs : Nat -> Nat), j <= M /\ i = .int .i64 j /\ ts.length = j /\ JO w v ts bs wr /\ ts.map IV.x = ps.take j /\ Cel wr L cur KT /\ MkOk w.heap.size Ds wr) (fun _ _ i _ => M - (intOf i).toNat)
   case atStart => exact ⟨0, [], fun _ => 0, Nat.zero_le _, rfl, rfl, j5, rfl, c5, mk5⟩
   case round =>
    clear j5 c5 mk5 B5 lL;obtain ⟨j, ts, bs, hj, rfl, htl, jo, hx, hc, hmk⟩ := hrel;have HTL : Hid (ts.length = j) := htl;have HX : Hid (ts.map IV.x = ps.take j) := hx;have HMK : Hid (MkOk w.heap.size Ds wr) := hmk;clear htl hx hmk
    by_cases hlt2 : j < M
    ·have hlt2' : (j : Int) < M := by omega
     have hjp : j < ps.length := by have := HM.out; omega
     obtain ⟨k0, k1, k2⟩ := HKA.out j hjp;have c0 := (hc.cell _).trans k0;have c1 := (hc.cell _).trans k1;have c2 := (hc.cell _).trans k2;have h3 := HWF.out j hjp
     have HXS : Hid (ps.take (j + 1) = ps.take j ++ [ps[j]?.getD []]) := by
      show _ = _
      rw [List.take_succ_eq_append_getElem hjp, qC hjp]; rfl
     obtain ⟨p, hp⟩ : ∃ p, p = ps[j]?.getD [] := ⟨_, rfl⟩
     rw [<- hp] at c0 c1 c2 h3 HXS;have HP3 : Hid (p = [p[0]?.getD 0, p[1]?.getD 0, p[2]?.getD 0]) := three_eq h3;have Hlen3 : Hid (p.length = 3) := h3;generalize hx0 : p[0]?.getD 0 = x0 at *;generalize hx1 : p[1]?.getD 0 = x1 at *;generalize hx2 : p[2]?.getD 0 = x2 at *;have bx : Below wr.heap.size wr (wr.alloc (.cells #[.int .i64 x0, .int .i64 x1, .int .i64 x2] KT)) := bal;have cx := Cel.new wr [.int .i64 x0, .int .i64 x1, .int .i64 x2] KT
     have ix : Ints (wr.alloc (.cells #[.int .i64 x0, .int .i64 x1, .int .i64 x2] KT)) (some ⟨wr.heap.size, 0, none⟩) 3 p := by
      rw [HP3.out];refine ⟨rfl, fun i hi => ⟨wr.heap.size, 0, rfl, ?_⟩⟩;rw [Nat.zero_add, cx.cell i]
      match i, hi with
      | 0, _ => rfl
      | 1, _ => rfl
      | 2, _ => rfl
     clear hx0 hx1 hx2 hp h3 k0 k1 k2
     gi_wp2_with fail
     refine ⟨trivial, hdd _, (callsIn_wide.2 (clone_any 3 3 p ix)).mono ?_⟩;rintro e w6 ⟨v6, rfl, jA⟩;obtain ⟨aA, cA, A, rfl, oA, gA⟩ := jA.ownx Hlen3.out;have lA := gA (by omega);rw [qB] at lA;have b6 : Below wr.heap.size wr w6 := bx.trans (jA.b.mono (by rw [qB]; omega));have jo6 := jo.below b6;have hc6 := hc.below b6;have mk6 := HMK.out.below b6;have s6 := b6.size;have sw := jo.b.size
     have HBS : Hid (∀ i, i < j -> bs i < A) := fun i hi => by
      obtain ⟨_, h1, _, _⟩ := jo.k i (by rw [HTL.out]; exact hi);have := h1.lt (by omega)
      omega
     have HNE : Hid (some A ≠ u7.ownBlock) := fun e => by
      obtain ⟨_, cc, hh⟩ := jo.blk e.symm;have := lt_of_block hh
      omega
     have jow := jo6.o;rw [HTL.out] at jow;clear jo hc HMK jA gA b6 bx cx ix c0 c1 c2;obtain ⟨i0, hi0, hz0, hz1, hz2⟩ := info_parts Tryz.infoI
     gi_wp2_with (gi_at_builtin; go_must (refine wpListIn_append_own_at _ rfl (.tmp 38) (.tmp 41) 76 rfl w.heap.size 23 i0 _ 1 24 Tryz.underlying76 hi0 hz0 hz1 hz2 rfl (by decide) _ _ _ rfl (jow.alloc _) ⟨w6.heap.size, 0, none⟩ 1 1 [.slice aA 3 cA] rfl rfl (news1 w6) oneSl (by unfold maxLen; omega) (by omega) (by rw [qB]; omega) ?_); intro v7 w7 hown hgrow hnil hat)
     have jo7 := jo6.app (s := ⟨aA, 3, cA, p⟩) HTL.out rfl oA (by omega) HBS.out HNE.out hown hgrow hat;have hc7 := hc6.grownKT jo6 hgrow;have mk7 := mk6.grown jo6 hgrow
     have HX7 : Hid ((ts ++ [(⟨aA, 3, cA, p⟩ : IV)]).map IV.x = ps.take (j + 1)) := by
      show _ = _
      rw [List.map_append, HX.out, HXS.out]; rfl
     have HT7 : Hid ((ts ++ [(⟨aA, 3, cA, p⟩ : IV)]).length = j + 1) := by show _ = _; rw [qD, HTL.out]; rfl
     clear hown hgrow hnil hat jow jo6 hc6 mk6 oA HBS HNE
     gi_wp2
     go_roundw
     case rel => exact ⟨j + 1, _, _, by omega, by go_num, HT7.out, jo7, HX7.out, hc7, mk7⟩
     case measure => simp [intOf]; omega
    obtain rfl : j = M := by omega
    have HXE : Hid (ts.map IV.x = catP ss) := by
     show _ = _
     rw [HX.out, qE (by have := HM.out; omega), HPS.out]
    have HLE : Hid (ts.length = (catP ss).length) := by
     show _ = _
     rw [<- HXE.out, qH]
    gi_wp2
    refine leaves_marks (v := u7) (fun W' => by simp [results, Tryz.results79, go_sem]) Ds _ HMK.out.b HMK.out.n (fun W' t => ?_);have jo' := jo.past t (fun q hq => ⟨HMK.out.l q hq, fun cs ty fr h => by rw [HMK.out.b q hq] at h; cases h⟩);have hpos := catP_pos ss;have hle := HLE.out
    rcases jo'.o.2 with ⟨_, h0⟩ | ⟨g, cap', cur', hv, _, _⟩
    ·omega
    rw [hle] at hv;subst hv
    exact ⟨jo'.b, .inr ⟨HU.out, g, cap', ts, bs, rfl, HXE.out, jo'⟩⟩
  go_simp;refine ⟨trivial, hdd _, (callsIn_wide.2 (ipots_any)).mono ?_⟩;rintro e w2 ⟨v, xs, rfl, jv⟩;obtain ⟨pa, pcap, rfl, FP⟩ := jv.slice rfl;have b3 : Below Z.heap.size Z w2 := btr e0 jv.b;have m2 := m0.below b3;(try dsimp only);refine hK.out _ _ (KP.out _ (Touch.of b3)) ?_;clear hK K jv;have hS2 := KP.out _ (Touch.of b3);refine wpAnyS_one (i := 0) (by kernel_rfl) rfl (fun K hK => ?_);go_simp;refine hK.out _ _ hS2 ?_;refine wpAnyS_one (i := 2) (by kernel_rfl) rfl (fun K hK => ?_);go_simp;refine ⟨trivial, hdd _, (callsIn_wide.2 (iput_any B 0 (.map []) [] pa 3 pcap way0.pots _ m2 MapIs.empty (by omega) rfl FP pot_fit)).mono ?_⟩;rintro e w3 ⟨⟨v3, rfl⟩, t3, D3, m3, d3⟩;rw [pots3_guards] at d3;have p3 : Cel w3 (B + 1) [.map (some B)] 155 := (p0.below b3).touch t3 (fun h => by have : B + 1 = B := h; omega);have B3 : Below w.heap.size w w3 := (btr B2 b3).trans (t3.below (B := w.heap.size) (Nat.le_trans B2.size b3.size) (fun k hk => by have : k = B := hk; omega));have s3 := t3.size;(try dsimp only);refine hK.out _ _ (p3.cell 0) ?_;refine wpAnyS_done (by kernel_rfl) ?_ _;have lp3 := p3.lt;clear KP m0 p0 m2 FP t3 b3 e0 B2 lB0
  gi_wp2_with fail
  refine wpIn_loop (fun a' w' => ∃ (u5 u6 u20 u21 u22 u23 u24 u25 u26 u27 u28 u29 u30 : Value) (k : Nat) (Ds : List Nat) (D : DataW Unit) (m : Nat), k <= N /\ OwnM w' B m D /\ m <= 3 + 128000 * k /\ MapIs D (actsP pots3 (ss.take k)) /\ Cel w' (B + 1) [.map (some B)] 155 /\ Below w.heap.size w w' /\ MkOk w.heap.size Ds w' /\ a' = { tmps := #[.slice ad N cap, undef, .slice none 0 0, .pointer (some ⟨B + 1, 0, none⟩), undef, u5, u6, undef, undef, undef, .slice ad N cap, .bool true, .bool false, .map (some B), .map (some B), .slice pa 3 pcap, v3, .slice ad N cap, .int .i64 N, .int .i64 (k : Int), u20, u21, u22, u23, u24, u25, u26, u27, u28, u29, u30, undef, undef, undef, undef, undef, undef, undef, undef, undef, undef, undef, undef, undef, undef], defers := MkDs Ds }) (fun a' _ => N - (intOf (a'.tmps.getD 19 undef)).toNat) ⟨undef, undef, undef, undef, undef, undef, undef, undef, undef, undef, undef, undef, undef, 0, [], D3, 3, by omega, m3, by omega, d3, p3, B3, MkOk.nil _ _, rfl⟩ ?_;rintro a0 wr ⟨u5, u6, u20, u21, u22, u23, u24, u25, u26, u27, u28, u29, u30, k, Ds, D, m, hk, hm, hmb, hD, hp, hb, hmk, rfl⟩;clear m3 d3 p3 B3 lp3 s3;have HD : Hid (MapIs D (actsP pots3 (ss.take k))) := hD;have HMK : Hid (MkOk w.heap.size Ds wr) := hmk;have lp := hp.lt;clear hD hmk
  by_cases hlt : k < N
  ·have hlt' : (k : Int) < N := by omega
   have his : k < ss.length := by rw [HN.out]; exact hlt
   obtain ⟨ab, ao, rfl, hc, hLG⟩ := (HF.out.below hb) k his;have HSA : Hid (∀ ps, ps = actsP pots3 (ss.take k) -> rowsP ps (rowsL (ss[k]?.getD noL).x) = actsP pots3 (ss.take (k + 1))) := fun ps h => by rw [h, actsP_snoc his]
   have hsok : (ss[k]?.getD noL).ok = true := by
    rw [qC his]
    exact List.all_eq_true.1 HALL.out _ (List.getElem_mem his)
   obtain ⟨s, hs⟩ : ∃ s, s = ss[k]?.getD noL := ⟨_, rfl⟩
   rw [<- hs] at hc hLG HSA hsok;obtain ⟨sa, sn, sc, sx⟩ := s;have hAct : actB sn sx = true := hsok;obtain ⟨hxl, hLin, hsn⟩ := hLG;have hc' : wr.cell? ⟨ab, ao + k, none⟩ = some (.slice sa sn sc) := hc;have HLIN : Hid (LinesG wr sa sx) := hLin;clear hs hc hsok hLin;obtain ⟨PS, hPS⟩ : ∃ PS, PS = actsP pots3 (ss.take k) := ⟨_, rfl⟩
   have HSA2 : Hid (rowsP PS (rowsL sx) = actsP pots3 (ss.take (k + 1))) := HSA.out PS hPS;have HD' : Hid (MapIs D (rowsP PS [])) := by show MapIs _ _; rw [hPS]; exact HD.out
   clear HSA HD hPS
   gi_wp2_with fail
   refine ⟨trivial, hdd _, (callsIn_wide.2 (ithrough_any sa sn sc wr)).mono ?_⟩;rintro e w4 ⟨Bc, rfl, b4, cB⟩;have m4 := OwnM.below hm b4;have p4 := hp.below b4;have mk4 := HMK.out.below b4;have s4 := b4.size;have B4 : Below w.heap.size w w4 := btr hb b4;have F4 := HLIN.out.below b4;have sB := B4.size;clear hm hp hb HMK hc'
   gi_wp2_with fail
   refine wpIn_rows (α := Value × RowM) (gf := 141) (lb := #[.pointer (some ⟨Bc, 0, none⟩)]) rfl (enters_of Tryz.func141 (by kernel_rfl) rfl) (encs := fun x => #[x.1]) (fun _ => rfl)
    (fun pre x X => pre.length < 128 /\ RowFit x.2 /\ RowX X w4.heap.size x.1 x.2) KpR (fun xs => xs.map Prod.snd = rowsL sx)
    (fun pre X => ∃ (D : DataW Unit) (m : Nat), OwnM X B m D /\ m <= 3 + 128000 * k + 1000 * pre.length /\ MapIs D (rowsP PS (pre.map Prod.snd)) /\ Cel X (B + 1) [.map (some B)] 155 /\ Below w.heap.size w X /\ MkOk w.heap.size Ds X)
    (fun pre X Y h b => by
     obtain ⟨D, m, h1, h2, h3, h4, h5, h6⟩ := h
     exact ⟨D, m, OwnM.below h1 b, h2, h3, h4.below b, btr h5 b, h6.below b⟩)
    (fun pre X l r r' h hl lt => by
     obtain ⟨D, m, h1, h2, h3, h4, h5, h6⟩ := h
     exact ⟨D, m, OwnM.loop h1 hl, h2, h3, h4.loop hl, below_loop h5 (by omega), h6.loop hl⟩) KpR.loop (fun X Y Z => KpR.trans) ⟨D, m, m4, by simp; omega, HD'.out, p4, B4, mk4⟩ ?seq ?round ?done
   case seq =>
    intro l J W hJ hb2 hJ0 hY;have ee0 : (#[.func (.yield l) #[] #[]] ++ #[.pointer (some ⟨Bc, 0, none⟩)] : Array Value) = #[.func (.yield l) #[] #[], .pointer (some ⟨Bc, 0, none⟩)] := rfl;rw [ee0];refine (through_any l w4.heap.size (fun rs X => ∃ xs : List (Value × RowM), xs.map Prod.snd = rs /\ J xs X) (fun rs X Y h b => ?_) (fun mm rs v r X h fit rx hlen => ?_) Bc sa sn sc sx W (n - 1) hxl (F4.below hb2) hsn hAct ((cB.below hb2).cell 0) hb2.size ⟨[], rfl, hJ0⟩).mono ?_
    ·obtain ⟨xs, e, j⟩ := h
     exact ⟨xs, e, hJ _ _ _ j b⟩
    ·obtain ⟨xs, e, j⟩ := h;obtain ⟨fn, tmps, assign, body, hy, hR⟩ := hY mm xs (v, r) X j ⟨by rw [<- e, qH] at hlen; exact hlen, fit, rx⟩;refine ⟨fn, tmps, assign, body, hy, hR.mono ?_⟩;rintro e' Y ⟨a, b, c⟩
     exact ⟨a, ⟨xs ++ [(v, r)], by simp [e], b⟩, c⟩
    rintro e Y ⟨h1, ⟨xs, e1, j⟩, _⟩
    exact ⟨h1, xs, e1, j⟩
   case round =>
    rintro mm l pre ⟨v, rm⟩ X r ⟨D1, m1, hO, hm1, hD1, hC, hB, hMk⟩ ⟨hlen, fit, rx⟩ hl hlt2;dsimp only at fit rx;obtain ⟨ga, gc, aa, ac, ta, tc, rfl, f0, f1, f2⟩ := rx;dsimp only
    gi_wp2_with fail
    have bx : Below X.heap.size X (X.alloc (.cells #[.slice ga rm.guards.length gc, .slice aa rm.adds.length ac, .slice ta rm.tells.length tc, .bool rm.stop] 113)) := bal;have cx := Cel.new X [.slice ga rm.guards.length gc, .slice aa rm.adds.length ac, .slice ta rm.tells.length tc, .bool rm.stop] 113;have hl1 := (bx.block l (lt_of_block hl)).trans hl;refine ⟨keeps_below bx, KpR.of bx, ?_⟩;have O1 : OwnM _ _ _ _ := OwnM.loop (o := .loop { r with state := .busy }) (OwnM.below hO bx) hl1;have C1 := Cel.loop (r' := { r with state := .busy }) (hC.below bx) hl1;have X1 := Cel.loop (r' := { r with state := .busy }) cx hl1;have MK1 := MkOk.loop (o := .loop { r with state := .busy }) (hMk.below bx) hl1;have k1 : KpR X _ := (KpR.of bx).trans (KpR.loop _ l r { r with state := .busy } hl1);have B1 := below_loop (r' := { r with state := .busy }) (btr hB bx) (l := l) (by omega);obtain ⟨Y, hY⟩ : ∃ Y, Y = (X.alloc (.cells #[.slice ga rm.guards.length gc, .slice aa rm.adds.length ac, .slice ta rm.tells.length tc, .bool rm.stop] 113)).putObj l (.loop { r with state := .busy }) := ⟨_, rfl⟩
    rw [<- hY] at O1 C1 X1 k1 B1 MK1 ⊢;clear hY;have FG := f0.at.keepR k1;have hc1 := C1.cell 0;have hx1 := X1.cell 0;have lB1 : B < w4.heap.size := m4.lt;have lgg := fit.lg;clear cx bx hl1 hO hC hB f0 f1 f2
    gi_wp2_with fail
    refine ⟨trivial, hdd _, CallsIn.mono (CallsIn.inRound l (callsIn_wide.2 (iput_any B m1 D1 _ ga rm.guards.length gc rm.guards Y O1 hD1 (by omega) rfl FG fit.g))) ?_⟩;rintro e Y1 ⟨⟨v1, rfl⟩, t1, D2, m2, d2⟩;have C2 := cel_past C1 t1
    have MK2 := MK1.touch t1 (fun q hq o ho => by
     have : q = B := hq;subst this;obtain ⟨es, clock, hb⟩ := O1.obj;rw [hb] at ho
     cases ho)
    clear hc1 hx1
    gi_wp2_with fail
    refine ⟨keeps_touch t1, OwnM.kpR O1 t1, D2, _, m2, ?_, ?_, C2, below_touch B1 t1, MK2⟩
    ·rw [qD, qG]; omega
    rw [List.map_append];have e2 : rowsP PS (pre.map Prod.snd ++ [rm]) = guardsP (rowsP PS (pre.map Prod.snd)) rm.guards := by simp [rowsP, List.foldl_append]
    exact e2 ▸ d2
   case done =>
    rintro DD xs W hDD hS ⟨D1, m1, hO, hm1, hD1, hC, hB, hMk⟩ hK;rw [hS] at hD1
    have hxl2 : xs.length <= 128 := by
     have := congrArg List.length hS;rw [qH] at this;rw [this]; exact goW_128 (by omega)
    have MK3 : MkOk w.heap.size (DD :: Ds) W := by
     refine ⟨fun D' hD' => ?_, List.nodup_cons.2 ⟨fun hin => ?_, hMk.n⟩, fun D' hD' => ?_⟩
     ·rcases List.mem_cons.1 hD' with rfl | h
      ·exact hK
      exact hMk.b D' h
     ·have := lt_of_block (mk4.b DD hin)
      omega
     rcases List.mem_cons.1 hD' with rfl | h
     ·omega
     exact hMk.l D' h
    have HD1 : Hid (MapIs D1 (actsP pots3 (ss.take (k + 1)))) := by show MapIs _ _; rw [<- HSA2.out]; exact hD1
    clear hD1 hMk hK
    gi_wp2
    refine ⟨⟨_, _, _, _, _, _, _, _, _, _, _, _, _, k + 1, DD :: Ds, D1, m1, by omega, hO, by omega, HD1.out, hC, hB, MK3, rfl⟩, ?_⟩;simp [intOf]; omega
  obtain rfl : k = N := by omega
  have hall : ss.take k = ss := qE (by rw [HN.out]; exact qF _);obtain ⟨ps, hps⟩ : ∃ ps, ps = catP ss := ⟨_, rfl⟩
  have HPS : Hid (ps = catP ss) := hps;have HDP : Hid (MapIs D ps) := by show MapIs _ _; rw [hps, catP, <- hall]; rw [hall]; have := HD.out; rw [hall] at this; exact this
  have hlen : ps.length <= 600000 := by
   have h1 := HDP.out.sz;have h2 := hm.size_le
   omega
  clear HD hall hps;have hpc := hp.cell 0
  gi_wp2_with fail
  refine ⟨trivial, hdd _, (callsIn_wide.2 (iorder_any B m D ps wr hm HDP.out)).mono ?_⟩;rintro e w5 ⟨L, cur, rfl, b5, lL, c5, hKA⟩;have HKA : Hid (∀ j, j < ps.length -> KeyAt cur j (ps[j]?.getD [])) := hKA;have HWF : Hid (∀ j, j < ps.length -> (ps[j]?.getD []).length = 3) := fun j hj => (HDP.out.wf _ (by rw [qC hj]; exact List.getElem_mem hj)).1;have mk5 := HMK.out.below b5;have B5 := btr hb b5;have lL0 : w.heap.size <= L := Nat.le_trans hb.size lL;obtain ⟨M, hM⟩ : ∃ M, M = ps.length := ⟨_, rfl⟩
  have HM : Hid (M = ps.length) := hM;rw [<- hM] at hlen ⊢;have j5 : JO w (.slice none 0 0) [] (fun _ => 0) w5 := JO.nil w w5 B5 _;clear hKA hM hm hp hb HMK b5 HDP hpc
  gi_wp2_with fail
  gi_loopw [7, 9, 34] (fun v _ i wr => ∃ (j : Nat) (ts : List IV) (bs : Nat -> Nat), j <= M /\ i = .int .i64 j /\ ts.length = j /\ JO w v ts bs wr /\ ts.map IV.x = ps.take j /\ Cel wr L cur KT /\ MkOk w.heap.size Ds wr) (fun _ _ i _ => M - (intOf i).toNat)
  case atStart => exact ⟨0, [], fun _ => 0, Nat.zero_le _, rfl, rfl, j5, rfl, c5, mk5⟩
  case round =>
   clear j5 c5 mk5 B5 lL;obtain ⟨j, ts, bs, hj, rfl, htl, jo, hx, hc, hmk⟩ := hrel;have HTL : Hid (ts.length = j) := htl;have HX : Hid (ts.map IV.x = ps.take j) := hx;have HMK : Hid (MkOk w.heap.size Ds wr) := hmk;clear htl hx hmk
   by_cases hlt2 : j < M
   ·have hlt2' : (j : Int) < M := by omega
    have hjp : j < ps.length := by have := HM.out; omega
    obtain ⟨k0, k1, k2⟩ := HKA.out j hjp;have c0 := (hc.cell _).trans k0;have c1 := (hc.cell _).trans k1;have c2 := (hc.cell _).trans k2;have h3 := HWF.out j hjp
    have HXS : Hid (ps.take (j + 1) = ps.take j ++ [ps[j]?.getD []]) := by
     show _ = _
     rw [List.take_succ_eq_append_getElem hjp, qC hjp]; rfl
    obtain ⟨p, hp⟩ : ∃ p, p = ps[j]?.getD [] := ⟨_, rfl⟩
    rw [<- hp] at c0 c1 c2 h3 HXS;have HP3 : Hid (p = [p[0]?.getD 0, p[1]?.getD 0, p[2]?.getD 0]) := three_eq h3;have Hlen3 : Hid (p.length = 3) := h3;generalize hx0 : p[0]?.getD 0 = x0 at *;generalize hx1 : p[1]?.getD 0 = x1 at *;generalize hx2 : p[2]?.getD 0 = x2 at *;have bx : Below wr.heap.size wr (wr.alloc (.cells #[.int .i64 x0, .int .i64 x1, .int .i64 x2] KT)) := bal;have cx := Cel.new wr [.int .i64 x0, .int .i64 x1, .int .i64 x2] KT
    have ix : Ints (wr.alloc (.cells #[.int .i64 x0, .int .i64 x1, .int .i64 x2] KT)) (some ⟨wr.heap.size, 0, none⟩) 3 p := by
     rw [HP3.out];refine ⟨rfl, fun i hi => ⟨wr.heap.size, 0, rfl, ?_⟩⟩;rw [Nat.zero_add, cx.cell i]
     match i, hi with
     | 0, _ => rfl
     | 1, _ => rfl
     | 2, _ => rfl
    clear hx0 hx1 hx2 hp h3 k0 k1 k2
    gi_wp2_with fail
    refine ⟨trivial, hdd _, (callsIn_wide.2 (clone_any 3 3 p ix)).mono ?_⟩;rintro e w6 ⟨v6, rfl, jA⟩;obtain ⟨aA, cA, A, rfl, oA, gA⟩ := jA.ownx Hlen3.out;have lA := gA (by omega);rw [qB] at lA;have b6 : Below wr.heap.size wr w6 := bx.trans (jA.b.mono (by rw [qB]; omega));have jo6 := jo.below b6;have hc6 := hc.below b6;have mk6 := HMK.out.below b6;have s6 := b6.size;have sw := jo.b.size
    have HBS : Hid (∀ i, i < j -> bs i < A) := fun i hi => by
     obtain ⟨_, h1, _, _⟩ := jo.k i (by rw [HTL.out]; exact hi);have := h1.lt (by omega)
     omega
    have HNE : Hid (some A ≠ u7.ownBlock) := fun e => by
     obtain ⟨_, cc, hh⟩ := jo.blk e.symm;have := lt_of_block hh
     omega
    have jow := jo6.o;rw [HTL.out] at jow;clear jo hc HMK jA gA b6 bx cx ix c0 c1 c2;obtain ⟨i0, hi0, hz0, hz1, hz2⟩ := info_parts Tryz.infoI
    gi_wp2_with (gi_at_builtin; go_must (refine wpListIn_append_own_at _ rfl (.tmp 38) (.tmp 41) 76 rfl w.heap.size 23 i0 _ 1 24 Tryz.underlying76 hi0 hz0 hz1 hz2 rfl (by decide) _ _ _ rfl (jow.alloc _) ⟨w6.heap.size, 0, none⟩ 1 1 [.slice aA 3 cA] rfl rfl (news1 w6) oneSl (by unfold maxLen; omega) (by omega) (by rw [qB]; omega) ?_); intro v7 w7 hown hgrow hnil hat)
    have jo7 := jo6.app (s := ⟨aA, 3, cA, p⟩) HTL.out rfl oA (by omega) HBS.out HNE.out hown hgrow hat;have hc7 := hc6.grownKT jo6 hgrow;have mk7 := mk6.grown jo6 hgrow
    have HX7 : Hid ((ts ++ [(⟨aA, 3, cA, p⟩ : IV)]).map IV.x = ps.take (j + 1)) := by
     show _ = _
     rw [List.map_append, HX.out, HXS.out]; rfl
    have HT7 : Hid ((ts ++ [(⟨aA, 3, cA, p⟩ : IV)]).length = j + 1) := by show _ = _; rw [qD, HTL.out]; rfl
    clear hown hgrow hnil hat jow jo6 hc6 mk6 oA HBS HNE
    gi_wp2
    go_roundw
    case rel => exact ⟨j + 1, _, _, by omega, by go_num, HT7.out, jo7, HX7.out, hc7, mk7⟩
    case measure => simp [intOf]; omega
   obtain rfl : j = M := by omega
   have HXE : Hid (ts.map IV.x = catP ss) := by
    show _ = _
    rw [HX.out, qE (by have := HM.out; omega), HPS.out]
   have HLE : Hid (ts.length = (catP ss).length) := by
    show _ = _
    rw [<- HXE.out, qH]
   gi_wp2
   refine leaves_marks (v := u7) (fun W' => by simp [results, Tryz.results79, go_sem]) Ds _ HMK.out.b HMK.out.n (fun W' t => ?_);have jo' := jo.past t (fun q hq => ⟨HMK.out.l q hq, fun cs ty fr h => by rw [HMK.out.b q hq] at h; cases h⟩);have hpos := catP_pos ss;have hle := HLE.out
   rcases jo'.o.2 with ⟨_, h0⟩ | ⟨g, cap', cur', hv, _, _⟩
   ·omega
   rw [hle] at hv;subst hv
   exact ⟨jo'.b, .inr ⟨HU.out, g, cap', ts, bs, rfl, HXE.out, jo'⟩⟩
theorem icatforms_any (ad : Option Addr) (N cap : Nat) (ss : List L2V) (w : World) (hN : ss.length = N) (hF : LSG w ad ss) (hN1 : N <= 1048576) :
  Calls Tryz.prog 79 #[.slice ad N cap] w fun e w' => Below w.heap.size w w' /\ ((catB N ss = false /\ e = .returned (.slice none 0 0)) \/ (catB N ss = true /\ ∃ G cG ts bs, e = .returned (.slice (some ⟨G, 0, none⟩) (catP ss).length cG) /\ ts.map IV.x = catP ss /\ JO w (.slice (some ⟨G, 0, none⟩) (catP ss).length cG) ts bs w')) :=
 callsIn_wide.1 (icatforms_in ad N cap ss w 0 hN hF hN1)
end Go.Proofs.YtfmpcihghlnlnaaGreatDoor
