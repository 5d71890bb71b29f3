/-
  Lemmas that the claim's last text rests on.
-/
import Derived.Maps.OwnIn
import Derived.Lib.ItoaNum
import Derived.Lib.ItoaLen
import Derived.Laws.IdiomStrings
import Derived.Lib.Join
import Derived.Test.YtpmihhbgjimpmaaGreatDoorNxR
namespace Go.Proofs.YtpmihhbgjimpmaaGreatDoor
open Go.RowKit Go.Deep Go.Shelf Go.ChangeShapes Go.WideShapes Go.ChangeAt Go.Joins
open Option.some renaming injEq → qA
open World renaming size_alloc → qB
open List renaming getElem?_eq_getElem → qC, length_append → qD, take_of_length_le → qE, take_succ_eq_append_getElem → qF, length_cons → qG, length_singleton → qJ, length_map → qK
open Nat renaming le_refl → qH, zero_le → qI
set_option linter.unusedVariables false
set_option maxRecDepth 100000
set_option maxHeartbeats 25600000
variable {B G k n n0 : Nat} {Ds : List Nat} {E zs : List Int} {S : Nat -> Prop} {T : List (List Int)} {W W' X w : World} {a : Option Addr} {bs : Nat -> Nat} {ts : List IV} {v : Value}
attribute [local go_sem] Oper.semAt_some
section
variable {F : Fence} {n : Nat} {P : Program} {ops : Array Oper} {Q : Exit -> Act -> World -> Prop} {md : Region.Mode} {S : World -> Prop}
theorem wpAnyS_two {i j : Nat} {oi oj : Oper} {fuel : Nat} {listed : Array Bool} {a : Act} (hr : Region.ready md ops listed = [i, j]) (hi : ops[i]? = some oi) (hj : ops[j]? = some oj)
  (h1 : ∀ K' : Act -> World -> Prop, Shut (∀ a w, S w -> wpAnyS F n P md ops Q S fuel (listed.setIfInBounds i true) a w -> K' a w) -> if Region.wanted oi (yielded ops a.tmps) = true then Oper.wpIn F n P oi a w K' Q else (∀ f, oi.about P w a.eval = some f -> F.fn f) /\ K' (a.put oi.dst undef) w)
  (h2 : ∀ K' : Act -> World -> Prop, Shut (∀ a w, S w -> wpAnyS F n P md ops Q S fuel (listed.setIfInBounds j true) a w -> K' a w) -> if Region.wanted oj (yielded ops a.tmps) = true then Oper.wpIn F n P oj a w K' Q else (∀ f, oj.about P w a.eval = some f -> F.fn f) /\ K' (a.put oj.dst undef) w) : wpAnyS F n P md ops Q S (fuel + 1) listed a w := by
 refine ⟨fun h0 => (by rw [hr] at h0; cases h0), fun z hz => ?_⟩;rw [hr] at hz
 rcases List.mem_cons.1 hz with rfl | hz
 ·exact wpOpIn_step hi (fun K' hK => h1 K' (fun a w hS hW => hK a w ⟨hS, hW⟩))
 rcases List.mem_cons.1 hz with rfl | hz
 ·exact wpOpIn_step hj (fun K' hK => h2 K' (fun a w hS hW => hK a w ⟨hS, hW⟩))
 cases hz
end
def MkDs (Ds : List Nat) : List Deferred := Ds.map fun D => { target := .collected D, args := #[] }
theorem leaves_marks {F : Fence} {P : Program} {fn : Func} {tmps : Array Value} {R : Ending -> World -> Prop} (hres : ∀ W', (results fn tmps).run P W' = .ok v W') : ∀ (Ds : List Nat) (W : World), (∀ D ∈ Ds, W.heap[D]? = some (.deferred (some []))) -> Ds.Nodup ->
  (∀ W', Touch (fun k => k ∈ Ds) W W' -> R (.returned v) W') -> LeavesInM F n P fn tmps R (MkDs Ds) .returning W
 | [], W, _, _, hR => ⟨v, hres W, hR W (Touch.refl _ _)⟩
 | D :: Ds, W, hb, hn, hR => by
  refine ⟨by simp, .inl ⟨D, _, rfl, run_takeDeferred (hb D (by simp)), ?_⟩⟩;obtain ⟨h1, h2⟩ := List.nodup_cons.1 hn;refine leaves_marks hres Ds _ (fun D' hD' => ?_) h2 (fun W' t => hR W' ?_)
  ·rw [World.putObj_heap_other (fun e => h1 (by rw [<- e]; exact hD'))]
   exact hb D' (by simp [hD'])
  refine Touch.trans (b := W.putObj D _) ⟨rfl, rfl, rfl, by simp [World.putObj], fun k hk hk2 => World.putObj_heap_other (fun e => hk2 (by simp [e]))⟩ (t.mono (fun k hk => by simp [hk]))
structure MkOk (n0 : Nat) (Ds : List Nat) (W : World) : Prop where
 b : ∀ D ∈ Ds, W.heap[D]? = some (.deferred (some []))
 n : Ds.Nodup
 l : ∀ D ∈ Ds, n0 <= D
theorem MkOk.nil (n0 : Nat) (W : World) : MkOk n0 [] W := ⟨fun _ h => by simp at h, List.nodup_nil, fun _ h => by simp at h⟩
theorem MkOk.below (h : MkOk n0 Ds W) (b : Below W.heap.size W W') : MkOk n0 Ds W' := ⟨fun D hD => (b.block D (lt_of_block (h.b D hD))).trans (h.b D hD), h.n, h.l⟩
theorem MkOk.touch (h : MkOk n0 Ds W) (t : Touch S W W') (hS : ∀ k, S k -> ∀ o, W.heap[k]? ≠ some (.deferred o)) : MkOk n0 Ds W' := ⟨fun D hD => (t.block D (lt_of_block (h.b D hD)) (fun hs => hS D hs _ (h.b D hD))).trans (h.b D hD), h.n, h.l⟩
theorem MkOk.loop {l : Nat} {r : Loop} {o : Obj} (h : MkOk n0 Ds W) (hl : W.heap[l]? = some (.loop r)) : MkOk n0 Ds (W.putObj l o) := ⟨fun D hD => by
  have hne : D ≠ l := fun e => by
   have := h.b D hD;rw [e, hl] at this
   cases this
  rw [World.putObj_heap_other hne]; exact h.b D hD, h.n, h.l⟩
theorem OwnM.loop {l : Nat} {D : DataW Unit} {r : Loop} {o : Obj} (h : OwnM X B n D) (hl : X.heap[l]? = some (.loop r)) : OwnM (X.putObj l o) B n D := by
 obtain ⟨es, clock, hb, q⟩ := h
 have hne : B ≠ l := fun e => by
  rw [e, hl] at hb
  cases hb
 exact ⟨es, clock, by rw [World.putObj_heap_other hne]; exact hb, q⟩
theorem OwnM.obj {D : DataW Unit} (h : OwnM X B n D) : ∃ es clock, X.heap[B]? = some (.map es clock) := by
 obtain ⟨es, clock, hb, _⟩ := h
 exact ⟨es, clock, hb⟩
theorem OwnM.kpR {Y : World} {D : DataW Unit} (h : OwnM X B n D) (t : Touch (fun k => k = B) X Y) : KpR X Y := t.mono (fun k e => by
 subst e;obtain ⟨es, clock, hb⟩ := h.obj;intro cs ty fr he;rw [hb] at he
 cases he)
theorem addP_len (ps : List (List Int)) {p : List Int} : ps.length <= (addPb ps p).length := by
 unfold addPb
 split
 ·exact qH _
 simp
theorem guardsP_len {fs : List Frm} : ∀ ps, ps.length <= (guardsP ps fs).length := by
 induction fs with
 | nil => intro ps; exact qH _
 | cons f fs ih => intro ps; exact Nat.le_trans (addP_len ps) (ih _)
theorem rowsP_len {rs : List RowM} : ∀ ps, ps.length <= (rowsP ps rs).length := by
 induction rs with
 | nil => intro ps; exact qH _
 | cons r rs ih => intro ps; exact Nat.le_trans (guardsP_len ps) (ih _)
theorem actsP_len (ss : List L2V) : ∀ ps, ps.length <= (actsP ps ss).length := by
 induction ss with
 | nil => intro ps; exact qH _
 | cons s ss ih => intro ps; exact Nat.le_trans (rowsP_len ps) (ih _)
theorem catP_pos (ss : List L2V) : 3 <= (catP ss).length := actsP_len ss pots3
structure JO (w : World) (v : Value) (ts : List IV) (bs : Nat -> Nat) (W : World) : Prop where
 b : Below w.heap.size w W
 o : W.ownsRow w.heap.size 24 1 v ts.length (ts.map IV.v)
 k : ∀ j, j < ts.length -> (ts[j]?.getD noI).n = 3 /\ OwnX W (ts[j]?.getD noI).a (bs j) 3 (ts[j]?.getD noI).x /\ w.heap.size <= bs j /\ some (bs j) ≠ v.ownBlock
 d : ∀ i j, i < j -> j < ts.length -> bs i < bs j
theorem JO.nil (w W : World) (hb : Below w.heap.size w W) (bs : Nat -> Nat) : JO w (.slice none 0 0) [] bs W := ⟨hb, World.ownsRow_nil W _ _ _, fun j hj => by simp at hj, fun i j _ hj => by simp at hj⟩
theorem JO.below (j : JO w v ts bs W) (h : Below W.heap.size W W') : JO w v ts bs W' :=
 ⟨j.b.trans (h.mono j.b.size), by
  refine ⟨j.o.1, ?_⟩
  rcases j.o.2 with h2 | ⟨g, cap, cur, hv, hg, hh, r⟩
  ·exact Or.inl h2
  exact Or.inr ⟨g, cap, cur, hv, hg, by rw [h.block g (lt_of_block hh)]; exact hh, r⟩, fun i hi => by obtain ⟨a, b, c, d⟩ := j.k i hi; exact ⟨a, b.below h, c, d⟩, j.d⟩
theorem JO.blk (j : JO w v ts bs W) {g : Nat} (h : v.ownBlock = some g) : w.heap.size <= g /\ ∃ cur, W.heap[g]? = some (.cells cur 24 (0, 0)) := by
 rcases j.o.2 with ⟨h', _⟩ | ⟨g', cap, cur, hv, hg, hh, r⟩
 ·rw [h'] at h; simp [Value.ownBlock] at h
 rw [hv] at h;simp only [Value.ownBlock, qA] at h;subst h
 exact ⟨hg, cur, hh⟩
theorem JO.past (j : JO w v ts bs W) (t : Touch S W W') (hS : ∀ k, S k -> w.heap.size <= k /\ ∀ cs ty fr, W.heap[k]? ≠ some (.cells cs ty fr)) : JO w v ts bs W' := by
 refine ⟨j.b.trans (t.below j.b.size (fun k hk => (hS k hk).1)), ?_, fun i hi => ?_, j.d⟩
 ·refine ⟨j.o.1, ?_⟩
  rcases j.o.2 with h2 | ⟨g, cap, cur, hv, hg, hh, r⟩
  ·exact Or.inl h2
  exact Or.inr ⟨g, cap, cur, hv, hg, by rw [t.block g (lt_of_block hh) (fun h => (hS g h).2 _ _ _ hh)]; exact hh, r⟩
 obtain ⟨a, b, c, d⟩ := j.k i hi;refine ⟨a, b.touch t (fun _ h => ?_), c, d⟩
 rcases b.2 with h0 | ⟨_, cur, hc, _⟩
 ·omega
 exact (hS _ h).2 _ _ _ hc
theorem JO.app {v' : Value} {s : IV} {A : Nat} {o : Obj} (j : JO w v ts bs W) (hk : ts.length = k) (hs : s.n = 3) (hA : OwnX W s.a A 3 s.x) (hlo : w.heap.size <= A) (hnew : ∀ i, i < k -> bs i < A) (hne : some A ≠ v.ownBlock)
  (hown : W'.ownsRow w.heap.size 24 1 v' (k + 1) (ts.map IV.v ++ [s.v])) (hg : (W.alloc o).grownBy W' v.ownBlock) (hat : v'.ownBlock = v.ownBlock \/ v'.ownBlock = some (W.alloc o).heap.size) : JO w v' (ts ++ [s]) (fun i => if i < k then bs i else A) W' := by
 subst hk;have B1 : Below W.heap.size W (W.alloc o) := bal;have ja := j.below B1;have hlA := hA.lt (by omega)
 have key : ∀ (a : Option Addr) (X : Nat) (x : List Int), OwnX W a X 3 x -> some X ≠ v.ownBlock -> OwnX W' a X 3 x /\ some X ≠ v'.ownBlock := fun a X x h1 h2 => by
  have hl := h1.lt (by omega);refine ⟨?_, fun e => ?_⟩
  ·have h3 := h1.below B1
   rcases h3.2 with h0 | ⟨e1, cur, hc, hv⟩
   ·omega
   exact ⟨h3.1, .inr ⟨e1, cur, hc.grew hg (fun e => h2 e.symm), hv⟩⟩
  rcases hat with h | h
  ·exact h2 (e.trans h)
  rw [h, qB] at e;simp only [qA] at e
  omega
 refine ⟨ja.b.grown hg ja.b.size (fun z hz => (j.blk hz).1), by rw [qD, List.map_append]; exact hown, fun i hi => ?_, fun i i' h hi' => ?_⟩
 ·by_cases h : i < ts.length
  ·rw [List.getElem?_append_left h];obtain ⟨a, b, c, d⟩ := j.k i h;simp only [h, if_true];obtain ⟨q1, q2⟩ := key _ _ _ b d
   exact ⟨a, q1, c, q2⟩
  rw [qD, qJ] at hi;obtain rfl : i = ts.length := by omega
  rw [List.getElem?_append_right (qH _), Nat.sub_self];simp only [Nat.lt_irrefl, if_false];obtain ⟨q1, q2⟩ := key _ _ _ hA hne
  exact ⟨hs, q1, hlo, q2⟩
 rw [qD, qJ] at hi';have h1 : i < ts.length := by omega
 simp only [h1, if_true]
 by_cases h2 : i' < ts.length
 ·simp only [h2, if_true]; exact j.d i i' h h2
 simp only [h2, if_false]; exact hnew i h1
theorem MkOk.grown {o : Obj} (h : MkOk n0 Ds W) (j : JO w v ts bs W) (hg : (W.alloc o).grownBy W' v.ownBlock) : MkOk n0 Ds W' := by
 have h1 := h.below ((Below.refl _ _).alloc (qH _) o);refine ⟨fun D hD => ?_, h.n, h.l⟩;rw [hg.block D (lt_of_block (h1.b D hD)) (fun e => ?_)]
 ·exact h1.b D hD
 obtain ⟨_, cur, hh⟩ := j.blk e.symm;rw [h.b D hD] at hh
 cases hh
theorem Cel.grownKT {o : Obj} {L : Nat} {cur : List Value} (h : Cel W L cur KT) (j : JO w v ts bs W) (hg : (W.alloc o).grownBy W' v.ownBlock) : Cel W' L cur KT := by
 refine (h.alloc o).grew hg (fun e => ?_);obtain ⟨_, c2, hh⟩ := j.blk e;unfold Cel at h;rw [h] at hh;simp only [qA, Obj.cells.injEq] at hh
 exact absurd hh.2.1 (by decide)
theorem pots3_guards : guardsP [] way0.pots = pots3 := by decide +kernel
theorem pot_fit : ∀ k, k < 3 -> fitX 10000000 (way0.pots[k]?.getD ([], [], 0)) := fun k hk => (WayOk.start.pf k hk).mono (by have := wb_six (n := 0) (by omega); simp [wb] at *)
theorem icatforms_in (ad : Option Addr) (N cap : Nat) (ss : List L2V) (w : World) (n : Nat) (hN : ss.length = N) (hF : LSG w ad ss) (hN1 : N <= 1048576) :
  CallsIn Fence.wide n Tryz.prog 94 #[.slice ad N cap] w fun e w' => Below w.heap.size w w' /\ ((catB N ss = false /\ e = .returned (.slice none 0 0)) \/ (catB N ss = true /\ ∃ G cG ts bs, e = .returned (.slice (some ⟨G, 0, none⟩) (catP ss).length cG) /\ ts.map IV.x = catP ss /\ JO w (.slice (some ⟨G, 0, none⟩) (catP ss).length cG) ts bs w')) := by
 have hdd : ∀ k : Nat, (Fence.wide.depth.isSome = true -> 1 <= k) := fun k h => by simp [Fence.wide] at h
 have HN : Hid (ss.length = N) := hN;have HF : Hid (LSG w ad ss) := hF;have hmm := @run_makeMap Tryz.prog;refine callsIn_of_wp_marks Tryz.func94 rfl trivial ?_ rfl;simp only [Tryz.ntmps94, List.size_toArray, qG, List.length_nil, Nat.reduceAdd, Nat.reduceSub, Array.replicate_succ, Array.replicate_zero, List.push_toArray, List.append_toArray, List.nil_append, List.cons_append]
 gi_wp2_with fail
 refine ⟨trivial, hdd _, (callsIn_wide.2 (icat_any ad N cap ss hN hF hN1)).mono ?_⟩;rintro e w1 ⟨rfl, b1⟩;obtain ⟨u, hu⟩ : ∃ u, catB N ss = u := ⟨_, rfl⟩
 rw [hu]
 cases u with
 | false =>
  gi_wp2
  exact ⟨_, results_tmp rfl _ _ _, b1, Or.inl ⟨hu, rfl⟩⟩
 | true =>
  have N4 := (catB_parts hu).1;have HALL : Hid (ss.all L2V.ok = true) := (catB_parts hu).2;have HU : Hid (catB N ss = true) := hu;clear hu hN hF
  gi_wp2_with fail
  have m0 : OwnM ((w1.alloc (.map #[] 0)).alloc (.cells #[.map (some w1.heap.size)] 181)) w1.heap.size 0 (.map []) := (World.ownsMap_made w1 Tryz.prog KT (plainElem Tryz.prog ET)).alloc _
  have p0 : Cel ((w1.alloc (.map #[] 0)).alloc (.cells #[.map (some w1.heap.size)] 181)) (w1.heap.size + 1) [.map (some w1.heap.size)] 181 := by
   have := Cel.new (w1.alloc (.map #[] 0)) [.map (some w1.heap.size)] 181;rw [qB] at this; exact this
  have b2 : Below w1.heap.size w1 ((w1.alloc (.map #[] 0)).alloc (.cells #[.map (some w1.heap.size)] 181)) := (bal).alloc (by simp) _;obtain ⟨Z, hZ⟩ : ∃ Z, Z = (w1.alloc (.map #[] 0)).alloc (.cells #[.map (some w1.heap.size)] 181) := ⟨_, rfl⟩
  rw [<- hZ] at m0 p0 b2 ⊢;have lB0 := b1.size;obtain ⟨B, hB⟩ : ∃ B, B = w1.heap.size := ⟨_, rfl⟩
  rw [<- hB] at m0 p0 ⊢;have hBw : w.heap.size <= B := by omega
  have B2 := btr b1 b2;clear hZ hmm hB b2 b1;have KP : Hid (∀ V, Touch (fun k => k = B) Z V -> V.cell? ⟨B + 1, 0, none⟩ = some (.map (some B))) := fun V t => (p0.touch t (fun h => by have : B + 1 = B := h; omega)).cell 0;have e0 : Below Z.heap.size Z Z.drew := (Below.refl _ _).drew;have hSS := KP.out _ (Touch.of e0);refine wpIn_region_S (fun w' => w'.cell? ⟨B + 1, 0, none⟩ = some (.map (some B))) (by kernel_rfl) ?_;refine wpAnyS_two (i := 0) (j := 1) (by kernel_rfl) rfl rfl (fun K hK => ?_) (fun K hK => ?_)
  ·go_simp;refine hK.out _ _ hSS ?_;refine wpAnyS_one (i := 1) (by kernel_rfl) rfl (fun K hK => ?_);go_simp;refine ⟨trivial, hdd _, (callsIn_wide.2 (ipots_any)).mono ?_⟩;rintro e w2 ⟨v, xs, rfl, jv⟩;obtain ⟨pa, pcap, rfl, FP⟩ := jv.slice rfl;have b3 : Below Z.heap.size Z w2 := btr e0 jv.b;have m2 := m0.below b3;(try dsimp only);refine hK.out _ _ (KP.out _ (Touch.of b3)) ?_;clear hK K jv;refine wpAnyS_one (i := 2) (by kernel_rfl) rfl (fun K hK => ?_);go_simp;refine ⟨trivial, hdd _, (callsIn_wide.2 (iput_any B 0 (.map []) [] pa 3 pcap way0.pots _ m2 MapIs.empty (by omega) rfl FP pot_fit)).mono ?_⟩;rintro e w3 ⟨⟨v3, rfl⟩, t3, D3, m3, d3⟩;rw [pots3_guards] at d3;have p3 : Cel w3 (B + 1) [.map (some B)] 181 := (p0.below b3).touch t3 (fun h => by have : B + 1 = B := h; omega);have B3 : Below w.heap.size w w3 := (btr B2 b3).trans (t3.below (B := w.heap.size) (Nat.le_trans B2.size b3.size) (fun k hk => by have : k = B := hk; omega));have s3 := t3.size;(try dsimp only);refine hK.out _ _ (p3.cell 0) ?_;refine wpAnyS_done (by kernel_rfl) ?_ _;have lp3 := p3.lt;clear KP m0 p0 m2 FP t3 b3 e0 B2 lB0
   gi_wp2_with fail
   refine wpIn_loop (fun a' w' => ∃ (u5 u6 u20 u21 u22 u23 u24 u25 u26 u27 u28 u29 u30 : Value) (k : Nat) (Ds : List Nat) (D : DataW Unit) (m : Nat), k <= N /\ OwnM w' B m D /\ m <= 3 + 128000 * k /\ MapIs D (actsP pots3 (ss.take k)) /\ Cel w' (B + 1) [.map (some B)] 181 /\ Below w.heap.size w w' /\ MkOk w.heap.size Ds w' /\ a' = { tmps := #[.slice ad N cap, undef, .slice none 0 0, .pointer (some ⟨B + 1, 0, none⟩), undef, u5, u6, undef, undef, undef, .slice ad N cap, .bool true, .bool false, .map (some B), .map (some B), .slice pa 3 pcap, v3, .slice ad N cap, .int .i64 N, .int .i64 (k : Int), u20, u21, u22, u23, u24, u25, u26, u27, u28, u29, u30, undef, undef, undef, undef, undef, undef, undef, undef, undef, undef, undef, undef, undef, undef], defers := MkDs Ds }) (fun a' _ => N - (intOf (a'.tmps.getD 19 undef)).toNat) ⟨undef, undef, undef, undef, undef, undef, undef, undef, undef, undef, undef, undef, undef, 0, [], D3, 3, by omega, m3, by omega, d3, p3, B3, MkOk.nil _ _, rfl⟩ ?_;rintro a0 wr ⟨u5, u6, u20, u21, u22, u23, u24, u25, u26, u27, u28, u29, u30, k, Ds, D, m, hk, hm, hmb, hD, hp, hb, hmk, rfl⟩;clear m3 d3 p3 B3 lp3 s3;have HD : Hid (MapIs D (actsP pots3 (ss.take k))) := hD;have HMK : Hid (MkOk w.heap.size Ds wr) := hmk;have lp := hp.lt;clear hD hmk
   by_cases hlt : k < N
   ·have hlt' : (k : Int) < N := by omega
    have his : k < ss.length := by rw [HN.out]; exact hlt
    obtain ⟨ab, ao, rfl, hc, hLG⟩ := (HF.out.below hb) k his;have HSA : Hid (∀ ps, ps = actsP pots3 (ss.take k) -> rowsP ps (rowsL (ss[k]?.getD noL).x) = actsP pots3 (ss.take (k + 1))) := fun ps h => by rw [h, actsP_snoc his]
    have hsok : (ss[k]?.getD noL).ok = true := by
     rw [qC his]
     exact List.all_eq_true.1 HALL.out _ (List.getElem_mem his)
    obtain ⟨s, hs⟩ : ∃ s, s = ss[k]?.getD noL := ⟨_, rfl⟩
    rw [<- hs] at hc hLG HSA hsok;obtain ⟨sa, sn, sc, sx⟩ := s;have hAct : actB sn sx = true := hsok;obtain ⟨hxl, hLin, hsn⟩ := hLG;have hc' : wr.cell? ⟨ab, ao + k, none⟩ = some (.slice sa sn sc) := hc;have HLIN : Hid (LinesG wr sa sx) := hLin;clear hs hc hsok hLin;obtain ⟨PS, hPS⟩ : ∃ PS, PS = actsP pots3 (ss.take k) := ⟨_, rfl⟩
    have HSA2 : Hid (rowsP PS (rowsL sx) = actsP pots3 (ss.take (k + 1))) := HSA.out PS hPS;have HD' : Hid (MapIs D (rowsP PS [])) := by show MapIs _ _; rw [hPS]; exact HD.out
    clear HSA HD hPS
    gi_wp2_with fail
    refine ⟨trivial, hdd _, (callsIn_wide.2 (ithrough_any sa sn sc wr)).mono ?_⟩;rintro e w4 ⟨Bc, rfl, b4, cB⟩;have m4 := OwnM.below hm b4;have p4 := hp.below b4;have mk4 := HMK.out.below b4;have s4 := b4.size;have B4 : Below w.heap.size w w4 := btr hb b4;have F4 := HLIN.out.below b4;have sB := B4.size;clear hm hp hb HMK hc'
    gi_wp2_with fail
    refine wpIn_rows (α := Value × RowM) (gf := 158) (lb := #[.pointer (some ⟨Bc, 0, none⟩)]) rfl (enters_of Tryz.func158 (by kernel_rfl) rfl) (encs := fun x => #[x.1]) (fun _ => rfl)
     (fun pre x X => pre.length < 128 /\ RowFit x.2 /\ RowX X w4.heap.size x.1 x.2) KpR (fun xs => xs.map Prod.snd = rowsL sx)
     (fun pre X => ∃ (D : DataW Unit) (m : Nat), OwnM X B m D /\ m <= 3 + 128000 * k + 1000 * pre.length /\ MapIs D (rowsP PS (pre.map Prod.snd)) /\ Cel X (B + 1) [.map (some B)] 181 /\ Below w.heap.size w X /\ MkOk w.heap.size Ds X)
     (fun pre X Y h b => by
      obtain ⟨D, m, h1, h2, h3, h4, h5, h6⟩ := h
      exact ⟨D, m, OwnM.below h1 b, h2, h3, h4.below b, btr h5 b, h6.below b⟩)
     (fun pre X l r r' h hl lt => by
      obtain ⟨D, m, h1, h2, h3, h4, h5, h6⟩ := h
      exact ⟨D, m, OwnM.loop h1 hl, h2, h3, h4.loop hl, below_loop h5 (by omega), h6.loop hl⟩) KpR.loop (fun X Y Z => KpR.trans) ⟨D, m, m4, by simp; omega, HD'.out, p4, B4, mk4⟩ ?seq ?round ?done
    case seq =>
     intro l J W hJ hb2 hJ0 hY;have ee0 : (#[.func (.yield l) #[] #[]] ++ #[.pointer (some ⟨Bc, 0, none⟩)] : Array Value) = #[.func (.yield l) #[] #[], .pointer (some ⟨Bc, 0, none⟩)] := rfl;rw [ee0];refine (through_any l w4.heap.size (fun rs X => ∃ xs : List (Value × RowM), xs.map Prod.snd = rs /\ J xs X) (fun rs X Y h b => ?_) (fun mm rs v r X h fit rx hlen => ?_) Bc sa sn sc sx W (n - 1) hxl (F4.below hb2) hsn hAct ((cB.below hb2).cell 0) hb2.size ⟨[], rfl, hJ0⟩).mono ?_
     ·obtain ⟨xs, e, j⟩ := h
      exact ⟨xs, e, hJ _ _ _ j b⟩
     ·obtain ⟨xs, e, j⟩ := h;obtain ⟨fn, tmps, assign, body, hy, hR⟩ := hY mm xs (v, r) X j ⟨by rw [<- e, qK] at hlen; exact hlen, fit, rx⟩;refine ⟨fn, tmps, assign, body, hy, hR.mono ?_⟩;rintro e' Y ⟨a, b, c⟩
      exact ⟨a, ⟨xs ++ [(v, r)], by simp [e], b⟩, c⟩
     rintro e Y ⟨h1, ⟨xs, e1, j⟩, _⟩
     exact ⟨h1, xs, e1, j⟩
    case round =>
     rintro mm l pre ⟨v, rm⟩ X r ⟨D1, m1, hO, hm1, hD1, hC, hB, hMk⟩ ⟨hlen, fit, rx⟩ hl hlt2;dsimp only at fit rx;obtain ⟨ga, gc, aa, ac, ta, tc, rfl, f0, f1, f2⟩ := rx;dsimp only
     gi_wp2_with fail
     have bx : Below X.heap.size X (X.alloc (.cells #[.slice ga rm.guards.length gc, .slice aa rm.adds.length ac, .slice ta rm.tells.length tc, .bool rm.stop] 188)) := bal;have cx := Cel.new X [.slice ga rm.guards.length gc, .slice aa rm.adds.length ac, .slice ta rm.tells.length tc, .bool rm.stop] 188;have hl1 := (bx.block l (lt_of_block hl)).trans hl;refine ⟨keeps_below bx, KpR.of bx, ?_⟩;have O1 : OwnM _ _ _ _ := OwnM.loop (o := .loop { r with state := .busy }) (OwnM.below hO bx) hl1;have C1 := Cel.loop (r' := { r with state := .busy }) (hC.below bx) hl1;have X1 := Cel.loop (r' := { r with state := .busy }) cx hl1;have MK1 := MkOk.loop (o := .loop { r with state := .busy }) (hMk.below bx) hl1;have k1 : KpR X _ := (KpR.of bx).trans (KpR.loop _ l r { r with state := .busy } hl1);have B1 := below_loop (r' := { r with state := .busy }) (btr hB bx) (l := l) (by omega);obtain ⟨Y, hY⟩ : ∃ Y, Y = (X.alloc (.cells #[.slice ga rm.guards.length gc, .slice aa rm.adds.length ac, .slice ta rm.tells.length tc, .bool rm.stop] 188)).putObj l (.loop { r with state := .busy }) := ⟨_, rfl⟩
     rw [<- hY] at O1 C1 X1 k1 B1 MK1 ⊢;clear hY;have FG := f0.at.keepR k1;have hc1 := C1.cell 0;have hx1 := X1.cell 0;have lB1 : B < w4.heap.size := m4.lt;have lgg := fit.lg;clear cx bx hl1 hO hC hB f0 f1 f2
     gi_wp2_with fail
     refine ⟨trivial, hdd _, CallsIn.mono (CallsIn.inRound l (callsIn_wide.2 (iput_any B m1 D1 _ ga rm.guards.length gc rm.guards Y O1 hD1 (by omega) rfl FG fit.g))) ?_⟩;rintro e Y1 ⟨⟨v1, rfl⟩, t1, D2, m2, d2⟩;have C2 := cel_past C1 t1
     have MK2 := MK1.touch t1 (fun q hq o ho => by
      have : q = B := hq;subst this;obtain ⟨es, clock, hb⟩ := O1.obj;rw [hb] at ho
      cases ho)
     clear hc1 hx1
     gi_wp2_with fail
     refine ⟨keeps_touch t1, OwnM.kpR O1 t1, D2, _, m2, ?_, ?_, C2, below_touch B1 t1, MK2⟩
     ·rw [qD, qJ]; omega
     rw [List.map_append];have e2 : rowsP PS (pre.map Prod.snd ++ [rm]) = guardsP (rowsP PS (pre.map Prod.snd)) rm.guards := by simp [rowsP, List.foldl_append]
     exact e2 ▸ d2
    case done =>
     rintro DD xs W hDD hS ⟨D1, m1, hO, hm1, hD1, hC, hB, hMk⟩ hK;rw [hS] at hD1
     have hxl2 : xs.length <= 128 := by
      have := congrArg List.length hS;rw [qK] at this;rw [this]; exact goW_128 (by omega)
     have MK3 : MkOk w.heap.size (DD :: Ds) W := by
      refine ⟨fun D' hD' => ?_, List.nodup_cons.2 ⟨fun hin => ?_, hMk.n⟩, fun D' hD' => ?_⟩
      ·rcases List.mem_cons.1 hD' with rfl | h
       ·exact hK
       exact hMk.b D' h
      ·have := lt_of_block (mk4.b DD hin)
       omega
      rcases List.mem_cons.1 hD' with rfl | h
      ·omega
      exact hMk.l D' h
     have HD1 : Hid (MapIs D1 (actsP pots3 (ss.take (k + 1)))) := by show MapIs _ _; rw [<- HSA2.out]; exact hD1
     clear hD1 hMk hK
     gi_wp2
     refine ⟨⟨_, _, _, _, _, _, _, _, _, _, _, _, _, k + 1, DD :: Ds, D1, m1, by omega, hO, by omega, HD1.out, hC, hB, MK3, rfl⟩, ?_⟩;simp [intOf]; omega
   obtain rfl : k = N := by omega
   have hall : ss.take k = ss := qE (by rw [HN.out]; exact qH _);obtain ⟨ps, hps⟩ : ∃ ps, ps = catP ss := ⟨_, rfl⟩
   have HPS : Hid (ps = catP ss) := hps;have HDP : Hid (MapIs D ps) := by show MapIs _ _; rw [hps, catP, <- hall]; rw [hall]; have := HD.out; rw [hall] at this; exact this
   have hlen : ps.length <= 600000 := by
    have h1 := HDP.out.sz;have h2 := hm.size_le
    omega
   clear HD hall hps;have hpc := hp.cell 0
   gi_wp2_with fail
   refine ⟨trivial, hdd _, (callsIn_wide.2 (iorder_any B m D ps wr hm HDP.out)).mono ?_⟩;rintro e w5 ⟨L, cur, rfl, b5, lL, c5, hKA⟩;have HKA : Hid (∀ j, j < ps.length -> KeyAt cur j (ps[j]?.getD [])) := hKA;have HWF : Hid (∀ j, j < ps.length -> (ps[j]?.getD []).length = 3) := fun j hj => (HDP.out.wf _ (by rw [qC hj]; exact List.getElem_mem hj)).1;have mk5 := HMK.out.below b5;have B5 := btr hb b5;have lL0 : w.heap.size <= L := Nat.le_trans hb.size lL;obtain ⟨M, hM⟩ : ∃ M, M = ps.length := ⟨_, rfl⟩
   have HM : Hid (M = ps.length) := hM;rw [<- hM] at hlen ⊢;have j5 : JO w (.slice none 0 0) [] (fun _ => 0) w5 := JO.nil w w5 B5 _;clear hKA hM hm hp hb HMK b5 HDP hpc
   gi_wp2_with fail
   gi_loopw [7, 9, 34] (fun v _ i wr => ∃ (j : Nat) (ts : List IV) (bs : Nat -> Nat), j <= M /\ i = .int .i64 j /\ ts.length = j /\ JO w v ts bs wr /\ ts.map IV.x = ps.take j /\ Cel wr L cur KT /\ MkOk w.heap.size Ds wr) (fun _ _ i _ => M - (intOf i).toNat)
   case atStart => exact ⟨0, [], fun _ => 0, qI _, rfl, rfl, j5, rfl, c5, mk5⟩
   case round =>
    clear j5 c5 mk5 B5 lL;obtain ⟨j, ts, bs, hj, rfl, htl, jo, hx, hc, hmk⟩ := hrel;have HTL : Hid (ts.length = j) := htl;have HX : Hid (ts.map IV.x = ps.take j) := hx;have HMK : Hid (MkOk w.heap.size Ds wr) := hmk;clear htl hx hmk
    by_cases hlt2 : j < M
    ·have hlt2' : (j : Int) < M := by omega
     have hjp : j < ps.length := by have := HM.out; omega
     obtain ⟨k0, k1, k2⟩ := HKA.out j hjp;have c0 := (hc.cell _).trans k0;have c1 := (hc.cell _).trans k1;have c2 := (hc.cell _).trans k2;have h3 := HWF.out j hjp
     have HXS : Hid (ps.take (j + 1) = ps.take j ++ [ps[j]?.getD []]) := by
      show _ = _
      rw [qF hjp, qC hjp]; rfl
     obtain ⟨p, hp⟩ : ∃ p, p = ps[j]?.getD [] := ⟨_, rfl⟩
     rw [<- hp] at c0 c1 c2 h3 HXS;have HP3 : Hid (p = [p[0]?.getD 0, p[1]?.getD 0, p[2]?.getD 0]) := three_eq h3;have Hlen3 : Hid (p.length = 3) := h3;generalize hx0 : p[0]?.getD 0 = x0 at *;generalize hx1 : p[1]?.getD 0 = x1 at *;generalize hx2 : p[2]?.getD 0 = x2 at *;have bx : Below wr.heap.size wr (wr.alloc (.cells #[.int .i64 x0, .int .i64 x1, .int .i64 x2] KT)) := bal;have cx := Cel.new wr [.int .i64 x0, .int .i64 x1, .int .i64 x2] KT
     have ix : Ints (wr.alloc (.cells #[.int .i64 x0, .int .i64 x1, .int .i64 x2] KT)) (some ⟨wr.heap.size, 0, none⟩) 3 p := by
      rw [HP3.out];refine ⟨rfl, fun i hi => ⟨wr.heap.size, 0, rfl, ?_⟩⟩;rw [Nat.zero_add, cx.cell i]
      match i, hi with
      | 0, _ => rfl
      | 1, _ => rfl
      | 2, _ => rfl
     clear hx0 hx1 hx2 hp h3 k0 k1 k2
     gi_wp2_with fail
     refine ⟨trivial, hdd _, (callsIn_wide.2 (clone_any 3 3 p ix)).mono ?_⟩;rintro e w6 ⟨v6, rfl, jA⟩;obtain ⟨aA, cA, A, rfl, oA, gA⟩ := jA.ownx Hlen3.out;have lA := gA (by omega);rw [qB] at lA;have b6 : Below wr.heap.size wr w6 := bx.trans (jA.b.mono (by rw [qB]; omega));have jo6 := jo.below b6;have hc6 := hc.below b6;have mk6 := HMK.out.below b6;have s6 := b6.size;have sw := jo.b.size
     have HBS : Hid (∀ i, i < j -> bs i < A) := fun i hi => by
      obtain ⟨_, h1, _, _⟩ := jo.k i (by rw [HTL.out]; exact hi);have := h1.lt (by omega)
      omega
     have HNE : Hid (some A ≠ u7.ownBlock) := fun e => by
      obtain ⟨_, cc, hh⟩ := jo.blk e.symm;have := lt_of_block hh
      omega
     have jow := jo6.o;rw [HTL.out] at jow;clear jo hc HMK jA gA b6 bx cx ix c0 c1 c2;obtain ⟨i0, hi0, hz0, hz1, hz2⟩ := info_parts Tryz.infoI
     gi_wp2_with (gi_at_builtin; go_must (refine wpListIn_append_own_at _ rfl (.tmp 38) (.tmp 41) 138 rfl w.heap.size 24 i0 _ 1 24 Tryz.underlying138 hi0 hz0 hz1 hz2 rfl (by decide) _ _ _ rfl (jow.alloc _) ⟨w6.heap.size, 0, none⟩ 1 1 [.slice aA 3 cA] rfl rfl (news1 w6) oneSl (by unfold maxLen; omega) (by omega) (by rw [qB]; omega) ?_); intro v7 w7 hown hgrow hnil hat)
     have jo7 := jo6.app (s := ⟨aA, 3, cA, p⟩) HTL.out rfl oA (by omega) HBS.out HNE.out hown hgrow hat;have hc7 := hc6.grownKT jo6 hgrow;have mk7 := mk6.grown jo6 hgrow
     have HX7 : Hid ((ts ++ [(⟨aA, 3, cA, p⟩ : IV)]).map IV.x = ps.take (j + 1)) := by
      show _ = _
      rw [List.map_append, HX.out, HXS.out]; rfl
     have HT7 : Hid ((ts ++ [(⟨aA, 3, cA, p⟩ : IV)]).length = j + 1) := by show _ = _; rw [qD, HTL.out]; rfl
     clear hown hgrow hnil hat jow jo6 hc6 mk6 oA HBS HNE
     gi_wp2
     go_roundw
     case rel => exact ⟨j + 1, _, _, by omega, by go_num, HT7.out, jo7, HX7.out, hc7, mk7⟩
     case measure => simp [intOf]; omega
    obtain rfl : j = M := by omega
    have HXE : Hid (ts.map IV.x = catP ss) := by
     show _ = _
     rw [HX.out, qE (by have := HM.out; omega), HPS.out]
    have HLE : Hid (ts.length = (catP ss).length) := by
     show _ = _
     rw [<- HXE.out, qK]
    gi_wp2
    refine leaves_marks (v := u7) (fun W' => by simp [results, Tryz.results94, go_sem]) Ds _ HMK.out.b HMK.out.n (fun W' t => ?_);have jo' := jo.past t (fun q hq => ⟨HMK.out.l q hq, fun cs ty fr h => by rw [HMK.out.b q hq] at h; cases h⟩);have hpos := catP_pos ss;have hle := HLE.out
    rcases jo'.o.2 with ⟨_, h0⟩ | ⟨g, cap', cur', hv, _, _⟩
    ·omega
    rw [hle] at hv;subst hv
    exact ⟨jo'.b, .inr ⟨HU.out, g, cap', ts, bs, rfl, HXE.out, jo'⟩⟩
  go_simp;refine ⟨trivial, hdd _, (callsIn_wide.2 (ipots_any)).mono ?_⟩;rintro e w2 ⟨v, xs, rfl, jv⟩;obtain ⟨pa, pcap, rfl, FP⟩ := jv.slice rfl;have b3 : Below Z.heap.size Z w2 := btr e0 jv.b;have m2 := m0.below b3;(try dsimp only);refine hK.out _ _ (KP.out _ (Touch.of b3)) ?_;clear hK K jv;have hS2 := KP.out _ (Touch.of b3);refine wpAnyS_one (i := 0) (by kernel_rfl) rfl (fun K hK => ?_);go_simp;refine hK.out _ _ hS2 ?_;refine wpAnyS_one (i := 2) (by kernel_rfl) rfl (fun K hK => ?_);go_simp;refine ⟨trivial, hdd _, (callsIn_wide.2 (iput_any B 0 (.map []) [] pa 3 pcap way0.pots _ m2 MapIs.empty (by omega) rfl FP pot_fit)).mono ?_⟩;rintro e w3 ⟨⟨v3, rfl⟩, t3, D3, m3, d3⟩;rw [pots3_guards] at d3;have p3 : Cel w3 (B + 1) [.map (some B)] 181 := (p0.below b3).touch t3 (fun h => by have : B + 1 = B := h; omega);have B3 : Below w.heap.size w w3 := (btr B2 b3).trans (t3.below (B := w.heap.size) (Nat.le_trans B2.size b3.size) (fun k hk => by have : k = B := hk; omega));have s3 := t3.size;(try dsimp only);refine hK.out _ _ (p3.cell 0) ?_;refine wpAnyS_done (by kernel_rfl) ?_ _;have lp3 := p3.lt;clear KP m0 p0 m2 FP t3 b3 e0 B2 lB0
  gi_wp2_with fail
  refine wpIn_loop (fun a' w' => ∃ (u5 u6 u20 u21 u22 u23 u24 u25 u26 u27 u28 u29 u30 : Value) (k : Nat) (Ds : List Nat) (D : DataW Unit) (m : Nat), k <= N /\ OwnM w' B m D /\ m <= 3 + 128000 * k /\ MapIs D (actsP pots3 (ss.take k)) /\ Cel w' (B + 1) [.map (some B)] 181 /\ Below w.heap.size w w' /\ MkOk w.heap.size Ds w' /\ a' = { tmps := #[.slice ad N cap, undef, .slice none 0 0, .pointer (some ⟨B + 1, 0, none⟩), undef, u5, u6, undef, undef, undef, .slice ad N cap, .bool true, .bool false, .map (some B), .map (some B), .slice pa 3 pcap, v3, .slice ad N cap, .int .i64 N, .int .i64 (k : Int), u20, u21, u22, u23, u24, u25, u26, u27, u28, u29, u30, undef, undef, undef, undef, undef, undef, undef, undef, undef, undef, undef, undef, undef, undef], defers := MkDs Ds }) (fun a' _ => N - (intOf (a'.tmps.getD 19 undef)).toNat) ⟨undef, undef, undef, undef, undef, undef, undef, undef, undef, undef, undef, undef, undef, 0, [], D3, 3, by omega, m3, by omega, d3, p3, B3, MkOk.nil _ _, rfl⟩ ?_;rintro a0 wr ⟨u5, u6, u20, u21, u22, u23, u24, u25, u26, u27, u28, u29, u30, k, Ds, D, m, hk, hm, hmb, hD, hp, hb, hmk, rfl⟩;clear m3 d3 p3 B3 lp3 s3;have HD : Hid (MapIs D (actsP pots3 (ss.take k))) := hD;have HMK : Hid (MkOk w.heap.size Ds wr) := hmk;have lp := hp.lt;clear hD hmk
  by_cases hlt : k < N
  ·have hlt' : (k : Int) < N := by omega
   have his : k < ss.length := by rw [HN.out]; exact hlt
   obtain ⟨ab, ao, rfl, hc, hLG⟩ := (HF.out.below hb) k his;have HSA : Hid (∀ ps, ps = actsP pots3 (ss.take k) -> rowsP ps (rowsL (ss[k]?.getD noL).x) = actsP pots3 (ss.take (k + 1))) := fun ps h => by rw [h, actsP_snoc his]
   have hsok : (ss[k]?.getD noL).ok = true := by
    rw [qC his]
    exact List.all_eq_true.1 HALL.out _ (List.getElem_mem his)
   obtain ⟨s, hs⟩ : ∃ s, s = ss[k]?.getD noL := ⟨_, rfl⟩
   rw [<- hs] at hc hLG HSA hsok;obtain ⟨sa, sn, sc, sx⟩ := s;have hAct : actB sn sx = true := hsok;obtain ⟨hxl, hLin, hsn⟩ := hLG;have hc' : wr.cell? ⟨ab, ao + k, none⟩ = some (.slice sa sn sc) := hc;have HLIN : Hid (LinesG wr sa sx) := hLin;clear hs hc hsok hLin;obtain ⟨PS, hPS⟩ : ∃ PS, PS = actsP pots3 (ss.take k) := ⟨_, rfl⟩
   have HSA2 : Hid (rowsP PS (rowsL sx) = actsP pots3 (ss.take (k + 1))) := HSA.out PS hPS;have HD' : Hid (MapIs D (rowsP PS [])) := by show MapIs _ _; rw [hPS]; exact HD.out
   clear HSA HD hPS
   gi_wp2_with fail
   refine ⟨trivial, hdd _, (callsIn_wide.2 (ithrough_any sa sn sc wr)).mono ?_⟩;rintro e w4 ⟨Bc, rfl, b4, cB⟩;have m4 := OwnM.below hm b4;have p4 := hp.below b4;have mk4 := HMK.out.below b4;have s4 := b4.size;have B4 : Below w.heap.size w w4 := btr hb b4;have F4 := HLIN.out.below b4;have sB := B4.size;clear hm hp hb HMK hc'
   gi_wp2_with fail
   refine wpIn_rows (α := Value × RowM) (gf := 158) (lb := #[.pointer (some ⟨Bc, 0, none⟩)]) rfl (enters_of Tryz.func158 (by kernel_rfl) rfl) (encs := fun x => #[x.1]) (fun _ => rfl)
    (fun pre x X => pre.length < 128 /\ RowFit x.2 /\ RowX X w4.heap.size x.1 x.2) KpR (fun xs => xs.map Prod.snd = rowsL sx)
    (fun pre X => ∃ (D : DataW Unit) (m : Nat), OwnM X B m D /\ m <= 3 + 128000 * k + 1000 * pre.length /\ MapIs D (rowsP PS (pre.map Prod.snd)) /\ Cel X (B + 1) [.map (some B)] 181 /\ Below w.heap.size w X /\ MkOk w.heap.size Ds X)
    (fun pre X Y h b => by
     obtain ⟨D, m, h1, h2, h3, h4, h5, h6⟩ := h
     exact ⟨D, m, OwnM.below h1 b, h2, h3, h4.below b, btr h5 b, h6.below b⟩)
    (fun pre X l r r' h hl lt => by
     obtain ⟨D, m, h1, h2, h3, h4, h5, h6⟩ := h
     exact ⟨D, m, OwnM.loop h1 hl, h2, h3, h4.loop hl, below_loop h5 (by omega), h6.loop hl⟩) KpR.loop (fun X Y Z => KpR.trans) ⟨D, m, m4, by simp; omega, HD'.out, p4, B4, mk4⟩ ?seq ?round ?done
   case seq =>
    intro l J W hJ hb2 hJ0 hY;have ee0 : (#[.func (.yield l) #[] #[]] ++ #[.pointer (some ⟨Bc, 0, none⟩)] : Array Value) = #[.func (.yield l) #[] #[], .pointer (some ⟨Bc, 0, none⟩)] := rfl;rw [ee0];refine (through_any l w4.heap.size (fun rs X => ∃ xs : List (Value × RowM), xs.map Prod.snd = rs /\ J xs X) (fun rs X Y h b => ?_) (fun mm rs v r X h fit rx hlen => ?_) Bc sa sn sc sx W (n - 1) hxl (F4.below hb2) hsn hAct ((cB.below hb2).cell 0) hb2.size ⟨[], rfl, hJ0⟩).mono ?_
    ·obtain ⟨xs, e, j⟩ := h
     exact ⟨xs, e, hJ _ _ _ j b⟩
    ·obtain ⟨xs, e, j⟩ := h;obtain ⟨fn, tmps, assign, body, hy, hR⟩ := hY mm xs (v, r) X j ⟨by rw [<- e, qK] at hlen; exact hlen, fit, rx⟩;refine ⟨fn, tmps, assign, body, hy, hR.mono ?_⟩;rintro e' Y ⟨a, b, c⟩
     exact ⟨a, ⟨xs ++ [(v, r)], by simp [e], b⟩, c⟩
    rintro e Y ⟨h1, ⟨xs, e1, j⟩, _⟩
    exact ⟨h1, xs, e1, j⟩
   case round =>
    rintro mm l pre ⟨v, rm⟩ X r ⟨D1, m1, hO, hm1, hD1, hC, hB, hMk⟩ ⟨hlen, fit, rx⟩ hl hlt2;dsimp only at fit rx;obtain ⟨ga, gc, aa, ac, ta, tc, rfl, f0, f1, f2⟩ := rx;dsimp only
    gi_wp2_with fail
    have bx : Below X.heap.size X (X.alloc (.cells #[.slice ga rm.guards.length gc, .slice aa rm.adds.length ac, .slice ta rm.tells.length tc, .bool rm.stop] 188)) := bal;have cx := Cel.new X [.slice ga rm.guards.length gc, .slice aa rm.adds.length ac, .slice ta rm.tells.length tc, .bool rm.stop] 188;have hl1 := (bx.block l (lt_of_block hl)).trans hl;refine ⟨keeps_below bx, KpR.of bx, ?_⟩;have O1 : OwnM _ _ _ _ := OwnM.loop (o := .loop { r with state := .busy }) (OwnM.below hO bx) hl1;have C1 := Cel.loop (r' := { r with state := .busy }) (hC.below bx) hl1;have X1 := Cel.loop (r' := { r with state := .busy }) cx hl1;have MK1 := MkOk.loop (o := .loop { r with state := .busy }) (hMk.below bx) hl1;have k1 : KpR X _ := (KpR.of bx).trans (KpR.loop _ l r { r with state := .busy } hl1);have B1 := below_loop (r' := { r with state := .busy }) (btr hB bx) (l := l) (by omega);obtain ⟨Y, hY⟩ : ∃ Y, Y = (X.alloc (.cells #[.slice ga rm.guards.length gc, .slice aa rm.adds.length ac, .slice ta rm.tells.length tc, .bool rm.stop] 188)).putObj l (.loop { r with state := .busy }) := ⟨_, rfl⟩
    rw [<- hY] at O1 C1 X1 k1 B1 MK1 ⊢;clear hY;have FG := f0.at.keepR k1;have hc1 := C1.cell 0;have hx1 := X1.cell 0;have lB1 : B < w4.heap.size := m4.lt;have lgg := fit.lg;clear cx bx hl1 hO hC hB f0 f1 f2
    gi_wp2_with fail
    refine ⟨trivial, hdd _, CallsIn.mono (CallsIn.inRound l (callsIn_wide.2 (iput_any B m1 D1 _ ga rm.guards.length gc rm.guards Y O1 hD1 (by omega) rfl FG fit.g))) ?_⟩;rintro e Y1 ⟨⟨v1, rfl⟩, t1, D2, m2, d2⟩;have C2 := cel_past C1 t1
    have MK2 := MK1.touch t1 (fun q hq o ho => by
     have : q = B := hq;subst this;obtain ⟨es, clock, hb⟩ := O1.obj;rw [hb] at ho
     cases ho)
    clear hc1 hx1
    gi_wp2_with fail
    refine ⟨keeps_touch t1, OwnM.kpR O1 t1, D2, _, m2, ?_, ?_, C2, below_touch B1 t1, MK2⟩
    ·rw [qD, qJ]; omega
    rw [List.map_append];have e2 : rowsP PS (pre.map Prod.snd ++ [rm]) = guardsP (rowsP PS (pre.map Prod.snd)) rm.guards := by simp [rowsP, List.foldl_append]
    exact e2 ▸ d2
   case done =>
    rintro DD xs W hDD hS ⟨D1, m1, hO, hm1, hD1, hC, hB, hMk⟩ hK;rw [hS] at hD1
    have hxl2 : xs.length <= 128 := by
     have := congrArg List.length hS;rw [qK] at this;rw [this]; exact goW_128 (by omega)
    have MK3 : MkOk w.heap.size (DD :: Ds) W := by
     refine ⟨fun D' hD' => ?_, List.nodup_cons.2 ⟨fun hin => ?_, hMk.n⟩, fun D' hD' => ?_⟩
     ·rcases List.mem_cons.1 hD' with rfl | h
      ·exact hK
      exact hMk.b D' h
     ·have := lt_of_block (mk4.b DD hin)
      omega
     rcases List.mem_cons.1 hD' with rfl | h
     ·omega
     exact hMk.l D' h
    have HD1 : Hid (MapIs D1 (actsP pots3 (ss.take (k + 1)))) := by show MapIs _ _; rw [<- HSA2.out]; exact hD1
    clear hD1 hMk hK
    gi_wp2
    refine ⟨⟨_, _, _, _, _, _, _, _, _, _, _, _, _, k + 1, DD :: Ds, D1, m1, by omega, hO, by omega, HD1.out, hC, hB, MK3, rfl⟩, ?_⟩;simp [intOf]; omega
  obtain rfl : k = N := by omega
  have hall : ss.take k = ss := qE (by rw [HN.out]; exact qH _);obtain ⟨ps, hps⟩ : ∃ ps, ps = catP ss := ⟨_, rfl⟩
  have HPS : Hid (ps = catP ss) := hps;have HDP : Hid (MapIs D ps) := by show MapIs _ _; rw [hps, catP, <- hall]; rw [hall]; have := HD.out; rw [hall] at this; exact this
  have hlen : ps.length <= 600000 := by
   have h1 := HDP.out.sz;have h2 := hm.size_le
   omega
  clear HD hall hps;have hpc := hp.cell 0
  gi_wp2_with fail
  refine ⟨trivial, hdd _, (callsIn_wide.2 (iorder_any B m D ps wr hm HDP.out)).mono ?_⟩;rintro e w5 ⟨L, cur, rfl, b5, lL, c5, hKA⟩;have HKA : Hid (∀ j, j < ps.length -> KeyAt cur j (ps[j]?.getD [])) := hKA;have HWF : Hid (∀ j, j < ps.length -> (ps[j]?.getD []).length = 3) := fun j hj => (HDP.out.wf _ (by rw [qC hj]; exact List.getElem_mem hj)).1;have mk5 := HMK.out.below b5;have B5 := btr hb b5;have lL0 : w.heap.size <= L := Nat.le_trans hb.size lL;obtain ⟨M, hM⟩ : ∃ M, M = ps.length := ⟨_, rfl⟩
  have HM : Hid (M = ps.length) := hM;rw [<- hM] at hlen ⊢;have j5 : JO w (.slice none 0 0) [] (fun _ => 0) w5 := JO.nil w w5 B5 _;clear hKA hM hm hp hb HMK b5 HDP hpc
  gi_wp2_with fail
  gi_loopw [7, 9, 34] (fun v _ i wr => ∃ (j : Nat) (ts : List IV) (bs : Nat -> Nat), j <= M /\ i = .int .i64 j /\ ts.length = j /\ JO w v ts bs wr /\ ts.map IV.x = ps.take j /\ Cel wr L cur KT /\ MkOk w.heap.size Ds wr) (fun _ _ i _ => M - (intOf i).toNat)
  case atStart => exact ⟨0, [], fun _ => 0, qI _, rfl, rfl, j5, rfl, c5, mk5⟩
  case round =>
   clear j5 c5 mk5 B5 lL;obtain ⟨j, ts, bs, hj, rfl, htl, jo, hx, hc, hmk⟩ := hrel;have HTL : Hid (ts.length = j) := htl;have HX : Hid (ts.map IV.x = ps.take j) := hx;have HMK : Hid (MkOk w.heap.size Ds wr) := hmk;clear htl hx hmk
   by_cases hlt2 : j < M
   ·have hlt2' : (j : Int) < M := by omega
    have hjp : j < ps.length := by have := HM.out; omega
    obtain ⟨k0, k1, k2⟩ := HKA.out j hjp;have c0 := (hc.cell _).trans k0;have c1 := (hc.cell _).trans k1;have c2 := (hc.cell _).trans k2;have h3 := HWF.out j hjp
    have HXS : Hid (ps.take (j + 1) = ps.take j ++ [ps[j]?.getD []]) := by
     show _ = _
     rw [qF hjp, qC hjp]; rfl
    obtain ⟨p, hp⟩ : ∃ p, p = ps[j]?.getD [] := ⟨_, rfl⟩
    rw [<- hp] at c0 c1 c2 h3 HXS;have HP3 : Hid (p = [p[0]?.getD 0, p[1]?.getD 0, p[2]?.getD 0]) := three_eq h3;have Hlen3 : Hid (p.length = 3) := h3;generalize hx0 : p[0]?.getD 0 = x0 at *;generalize hx1 : p[1]?.getD 0 = x1 at *;generalize hx2 : p[2]?.getD 0 = x2 at *;have bx : Below wr.heap.size wr (wr.alloc (.cells #[.int .i64 x0, .int .i64 x1, .int .i64 x2] KT)) := bal;have cx := Cel.new wr [.int .i64 x0, .int .i64 x1, .int .i64 x2] KT
    have ix : Ints (wr.alloc (.cells #[.int .i64 x0, .int .i64 x1, .int .i64 x2] KT)) (some ⟨wr.heap.size, 0, none⟩) 3 p := by
     rw [HP3.out];refine ⟨rfl, fun i hi => ⟨wr.heap.size, 0, rfl, ?_⟩⟩;rw [Nat.zero_add, cx.cell i]
     match i, hi with
     | 0, _ => rfl
     | 1, _ => rfl
     | 2, _ => rfl
    clear hx0 hx1 hx2 hp h3 k0 k1 k2
    gi_wp2_with fail
    refine ⟨trivial, hdd _, (callsIn_wide.2 (clone_any 3 3 p ix)).mono ?_⟩;rintro e w6 ⟨v6, rfl, jA⟩;obtain ⟨aA, cA, A, rfl, oA, gA⟩ := jA.ownx Hlen3.out;have lA := gA (by omega);rw [qB] at lA;have b6 : Below wr.heap.size wr w6 := bx.trans (jA.b.mono (by rw [qB]; omega));have jo6 := jo.below b6;have hc6 := hc.below b6;have mk6 := HMK.out.below b6;have s6 := b6.size;have sw := jo.b.size
    have HBS : Hid (∀ i, i < j -> bs i < A) := fun i hi => by
     obtain ⟨_, h1, _, _⟩ := jo.k i (by rw [HTL.out]; exact hi);have := h1.lt (by omega)
     omega
    have HNE : Hid (some A ≠ u7.ownBlock) := fun e => by
     obtain ⟨_, cc, hh⟩ := jo.blk e.symm;have := lt_of_block hh
     omega
    have jow := jo6.o;rw [HTL.out] at jow;clear jo hc HMK jA gA b6 bx cx ix c0 c1 c2;obtain ⟨i0, hi0, hz0, hz1, hz2⟩ := info_parts Tryz.infoI
    gi_wp2_with (gi_at_builtin; go_must (refine wpListIn_append_own_at _ rfl (.tmp 38) (.tmp 41) 138 rfl w.heap.size 24 i0 _ 1 24 Tryz.underlying138 hi0 hz0 hz1 hz2 rfl (by decide) _ _ _ rfl (jow.alloc _) ⟨w6.heap.size, 0, none⟩ 1 1 [.slice aA 3 cA] rfl rfl (news1 w6) oneSl (by unfold maxLen; omega) (by omega) (by rw [qB]; omega) ?_); intro v7 w7 hown hgrow hnil hat)
    have jo7 := jo6.app (s := ⟨aA, 3, cA, p⟩) HTL.out rfl oA (by omega) HBS.out HNE.out hown hgrow hat;have hc7 := hc6.grownKT jo6 hgrow;have mk7 := mk6.grown jo6 hgrow
    have HX7 : Hid ((ts ++ [(⟨aA, 3, cA, p⟩ : IV)]).map IV.x = ps.take (j + 1)) := by
     show _ = _
     rw [List.map_append, HX.out, HXS.out]; rfl
    have HT7 : Hid ((ts ++ [(⟨aA, 3, cA, p⟩ : IV)]).length = j + 1) := by show _ = _; rw [qD, HTL.out]; rfl
    clear hown hgrow hnil hat jow jo6 hc6 mk6 oA HBS HNE
    gi_wp2
    go_roundw
    case rel => exact ⟨j + 1, _, _, by omega, by go_num, HT7.out, jo7, HX7.out, hc7, mk7⟩
    case measure => simp [intOf]; omega
   obtain rfl : j = M := by omega
   have HXE : Hid (ts.map IV.x = catP ss) := by
    show _ = _
    rw [HX.out, qE (by have := HM.out; omega), HPS.out]
   have HLE : Hid (ts.length = (catP ss).length) := by
    show _ = _
    rw [<- HXE.out, qK]
   gi_wp2
   refine leaves_marks (v := u7) (fun W' => by simp [results, Tryz.results94, go_sem]) Ds _ HMK.out.b HMK.out.n (fun W' t => ?_);have jo' := jo.past t (fun q hq => ⟨HMK.out.l q hq, fun cs ty fr h => by rw [HMK.out.b q hq] at h; cases h⟩);have hpos := catP_pos ss;have hle := HLE.out
   rcases jo'.o.2 with ⟨_, h0⟩ | ⟨g, cap', cur', hv, _, _⟩
   ·omega
   rw [hle] at hv;subst hv
   exact ⟨jo'.b, .inr ⟨HU.out, g, cap', ts, bs, rfl, HXE.out, jo'⟩⟩
theorem icatforms_any (ad : Option Addr) (N cap : Nat) (ss : List L2V) (w : World) (hN : ss.length = N) (hF : LSG w ad ss) (hN1 : N <= 1048576) :
  Calls Tryz.prog 94 #[.slice ad N cap] w fun e w' => Below w.heap.size w w' /\ ((catB N ss = false /\ e = .returned (.slice none 0 0)) \/ (catB N ss = true /\ ∃ G cG ts bs, e = .returned (.slice (some ⟨G, 0, none⟩) (catP ss).length cG) /\ ts.map IV.x = catP ss /\ JO w (.slice (some ⟨G, 0, none⟩) (catP ss).length cG) ts bs w')) :=
 callsIn_wide.1 (icatforms_in ad N cap ss w 0 hN hF hN1)
structure SL (W : World) (a : Option Addr) (G n : Nat) (ts : List IV) (bs : Nat -> Nat) (f : Nat -> List Int) : Prop where
 c : ∀ j, j < n -> a = some ⟨G, 0, none⟩ /\ W.cell? ⟨G, j, none⟩ = some (.slice (ts[j]?.getD noI).a 3 (ts[j]?.getD noI).cap) /\ OwnX W (ts[j]?.getD noI).a (bs j) 3 (f j) /\ bs j ≠ G
 d : ∀ i j, i < j -> j < n -> bs i < bs j
theorem SL.touch {f : Nat -> List Int} (h : SL W a G n ts bs f) (t : Touch S W W') (hG : 0 < n -> ¬ S G) (hb : ∀ j, j < n -> ¬ S (bs j)) : SL W' a G n ts bs f :=
 ⟨fun j hj => by
  obtain ⟨h1, h2, h3, h4⟩ := h.c j hj;refine ⟨h1, ?_, h3.touch t (fun _ => hb j hj), h4⟩
  rw [World.cell?_of_block (t.block G (block_lt h2) (hG (by omega)))]; exact h2, h.d⟩
theorem SL.ext {f g : Nat -> List Int} (h : SL W a G n ts bs f) (e : ∀ j, j < n -> f j = g j) : SL W a G n ts bs g := ⟨fun j hj => by rw [<- e j hj]; exact h.c j hj, h.d⟩
theorem SL.none (W : World) (a : Option Addr) (G : Nat) (ts : List IV) (bs : Nat -> Nat) (f : Nat -> List Int) : SL W a G 0 ts bs f := ⟨fun j hj => by omega, fun i j _ hj => by omega⟩
theorem JO.sl {cG : Nat} (j : JO w (.slice (some ⟨G, 0, Option.none⟩) n cG) ts bs W) (hn : ts.length = n) : SL W (some ⟨G, 0, Option.none⟩) G n ts bs (fun i => (ts[i]?.getD noI).x) := by
 subst hn;refine ⟨fun i hi => ?_, j.d⟩;obtain ⟨a, b, c, d⟩ := j.k i hi;refine ⟨rfl, ?_, b, fun e => d (by rw [e]; rfl)⟩;rw [own_cell j.o i, List.getElem?_map, qC hi];rw [qC hi] at a;simp only [Option.getD_some] at a;simp [IV.v, a]
theorem SL.isg (h : SL W a G n ts bs (fun i => (ts[i]?.getD noI).x)) (hn : ts.length = n) (h3 : ∀ i, i < n -> (ts[i]?.getD noI).n = 3) : ISG W a ts := fun i hi => by
 obtain ⟨h1, h2, hx, _⟩ := h.c i (by omega);refine ⟨G, 0, h1, ?_, ?_, by rw [h3 i (by omega)]; omega⟩
 ·rw [Nat.zero_add, h2, IV.v, h3 i (by omega)]
 rw [h3 i (by omega)]; exact hx.ints
def lenB (v : Bool) : Nat := if v then 3 else 0
theorem icatpins_at (v : Bool) (R : Nat -> Bool) {ad : Option Addr} {N cap : Nat} (gs : List L2V) {w : World} (hN : gs.length = N) (hF : LSG w ad gs) (hN1 : N <= 1048576) (hv : catB N gs = v) (hR : pinsA gs = R) :
  Calls Tryz.prog 96 #[.slice ad N cap] w fun e w' => ∃ a cp, e = .returned (.slice a (lenB v) cp) /\ Below w.heap.size w w' /\ (v = false \/ (v = true /\ ∃ G, a = some ⟨G, 0, none⟩ /\ w.heap.size <= G /\ OwnBB w' G R)) := by
 refine (icatpins_any ad N cap gs w hN hF hN1).mono ?_;rintro e w' ⟨b, ⟨h, rfl⟩ | ⟨h, G, cG, rfl, hG, o⟩⟩
 ·rw [hv] at h; subst h
  exact ⟨_, 0, rfl, b, Or.inl rfl⟩
 rw [hv] at h; subst h; subst hR
 exact ⟨_, cG, rfl, b, Or.inr ⟨rfl, G, rfl, hG, o⟩⟩
def catT (v : Bool) (ps : List (List Int)) : List (List Int) := if v then ps else []
def tF (T : List (List Int)) (i : Nat) : List Int := T[i]?.getD []
theorem map_at (h : ts.map IV.x = T) {i : Nat} (hi : i < T.length) : (ts[i]?.getD noI).x = tF T i := by
 subst h;rw [qK] at hi;rw [tF, List.getElem?_map, qC hi]; rfl
theorem map_len (h : ts.map IV.x = T) : ts.length = T.length := by rw [<- h, qK]
def UF (W : World) (a : Option Addr) (lo : Nat) (T : List (List Int)) (f : Nat -> List Int) : Prop := ∃ G ts bs, SL W a G T.length ts bs f /\ ts.map IV.x = T /\ (∀ i, i < T.length -> (ts[i]?.getD noI).n = 3) /\ (0 < T.length -> lo <= G) /\ ∀ j, j < T.length -> lo <= bs j
theorem UF.isg {lo : Nat} (h : UF W a lo T (tF T)) : ∃ ts, ISG W a ts /\ ts.map IV.x = T := by
 obtain ⟨G, ts, bs, s, r1, r2, _⟩ := h
 exact ⟨ts, (s.ext (fun j hj => (map_at r1 hj).symm)).isg (map_len r1) r2, r1⟩
theorem icatforms_at (T : List (List Int)) {ad : Option Addr} {N cap : Nat} (gs : List L2V) {w : World} (hN : gs.length = N) (hF : LSG w ad gs) (hN1 : N <= 1048576) (hT : catT (catB N gs) (catP gs) = T) :
  Calls Tryz.prog 94 #[.slice ad N cap] w fun e w' => ∃ a cp, e = .returned (.slice a T.length cp) /\ Below w.heap.size w w' /\ UF w' a w.heap.size T (tF T) := by
 refine (icatforms_any ad N cap gs w hN hF hN1).mono ?_;rintro e w' ⟨b, ⟨h, rfl⟩ | ⟨h, G, cG, ts, bs, rfl, hx, jo⟩⟩
 ·rw [h, catT] at hT;simp only [Bool.false_eq_true, if_false] at hT;subst hT
  exact ⟨_, 0, rfl, b, 0, [], fun _ => 0, SL.none _ _ _ _ _ _, rfl, fun i hi => by simp at hi, fun h => by simp at h, fun j hj => by simp at hj⟩
 rw [h, catT] at hT;simp only [if_true] at hT;rw [hT] at hx jo ⊢;have hl := map_len hx;have s := jo.sl hl;refine ⟨_, cG, rfl, b, G, ts, bs, s.ext (fun j hj => map_at hx hj), hx, fun i hi => (jo.k i (by omega)).1, fun _ => (jo.blk (g := G) rfl).1, fun j hj => (jo.k j (by omega)).2.2.1⟩
def stillTo (R : Nat -> Bool) (E : List Int) (k : Nat) : Bool := (List.range k).all fun v => !(R v && decide (E[v]?.getD 0 ≠ 0))
def stillB (R : Nat -> Bool) (E : List Int) : Bool := stillTo R E 3
theorem still_succ (R : Nat -> Bool) (E : List Int) (k : Nat) : stillTo R E (k + 1) = (stillTo R E k && !(R k && decide (E[k]?.getD 0 ≠ 0))) := by
 rw [stillTo, List.range_succ, List.all_append]; simp [stillTo]
theorem still_no {R : Nat -> Bool} (h : k < 3) (h1 : R k = true) (h2 : E[k]?.getD 0 ≠ 0) : stillB R E = false := by
 rw [stillB, stillTo, List.all_eq_false]
 exact ⟨k, by simpa using h, by simp [h1, h2]⟩
theorem still_go {R : Nat -> Bool} (h : stillTo R E k = true) (h1 : R k = false \/ E[k]?.getD 0 = 0) : stillTo R E (k + 1) = true := by
 rw [still_succ, h]
 rcases h1 with h1 | h1 <;> simp [h1]
theorem ipinned_any {cap : Nat} {c : Option Addr} {cap' : Nat} (R : Nat -> Bool) (E : List Int) {w : World} (hR : BA w a 3 R) (hE : Ints w c 3 E) :
  Calls Tryz.prog 95 #[.slice a 3 cap, .slice c 3 cap'] w fun e w' => e = .returned (.bool (!stillB R E)) /\ w' = w := by
 go_enter Tryz.func95, Tryz.ntmps95
 go_wp2_with fail
 go_loop [5, 6, 9] (fun _ _ i => ∃ k : Nat, k <= 3 /\ i = .int .i64 k /\ stillTo R E k = true) (fun _ _ i => 3 - (intOf i).toNat)
 case atStart => exact ⟨0, qI _, rfl, rfl⟩
 case round =>
  obtain ⟨k, hk, rfl, hall⟩ := hrel;have HA : Hid _ := hall;clear hall
  by_cases hlt : k < 3
  ·obtain ⟨b, off, rfl, hc⟩ := hR k hlt;obtain ⟨b', off', rfl, hcell'⟩ := hE.pos (by omega);have hd := hcell' k hlt;clear hcell';have hlt' : (k : Int) < 3 := by omega
   cases h1 : R k
   ·rw [h1] at hc
    go_wp2
    go_round
    case rel => exact ⟨k + 1, by omega, by go_num, still_go HA.out (Or.inl h1)⟩
    case measure => simp [intOf]; omega
   rw [h1] at hc
   cases h2 : (E[k]?.getD 0 != 0)
   ·have h2' : E[k]?.getD 0 = 0 := by simpa using h2
    have H2 : Hid _ := h2';clear h2'
    go_wp2
    go_round
    case rel => exact ⟨k + 1, by omega, by go_num, still_go HA.out (Or.inr H2.out)⟩
    case measure => simp [intOf]; omega
   have H2 : Hid (E[k]?.getD 0 ≠ 0) := by show _ ≠ _; simpa using h2
   go_wp2
   go_ret
   exact ⟨ret_bool (by rw [still_no hlt h1 H2.out]; rfl), rfl⟩
  obtain rfl : k = 3 := by omega
  go_wp2
  go_ret
  exact ⟨ret_bool (by rw [stillB, HA.out]; rfl), rfl⟩
def keepT (n m : Nat) (C D : List Int) (T : List (List Int)) (s : Int) (k : Nat) (E : List Int) : Bool := keepB n m C D (T.map fun x => ⟨none, x.length, 0, x⟩) s k E
theorem keep_of (h : ISG w a ts) (hT : ts.map IV.x = T) {n m : Nat} {C D : List Int} {s : Int} {k : Nat} {E : List Int} : keepB n m C D ts s k E = keepT n m C D T s k E := by
 have hl := map_len hT;refine keepB_copy (by simp [hl]) (fun i hi => ?_);obtain ⟨b, off, -, -, hI, -⟩ := h i hi;have e := map_at hT (i := i) (by omega)
 have e2 : ((T.map fun x => (⟨none, x.length, 0, x⟩ : IV))[i]?.getD noI) = ⟨none, (tF T i).length, 0, tF T i⟩ := by
  rw [List.getElem?_map, tF, qC (by omega)]; rfl
 rw [e2]
 exact ⟨by show _ = _; rw [<- hI.1, e], e⟩
theorem keepT_elim {m : Nat} {C D : List Int} {s : Int} (h : keepT n m C D T s k E = true) : okN 3 10000 n C = true /\ inB s 0 ((m : Int) - 1) = true /\ k = 3 := by
 have hv : viewB n m C D (T.map fun x => ⟨none, x.length, 0, x⟩) s k E = true := by
  simp only [keepT, keepB, Bool.and_eq_true] at h
  exact h.1
 have e := viewB_elim hv;simp only [viewB, trtB, Bool.and_eq_true] at hv
 exact ⟨hv.1.1, hv.2.2.1, e.2.2.2.2.2.2.2.1⟩
theorem goW_guards {ls : List LV} (f : Nat) : ∀ (i : Nat) (y : Way) (r : RowM), r ∈ goW ls f i y -> r.guards.length <= y.guards.length + f := by
 induction f with
 | zero =>
  intro i y r h;simp only [goW, List.mem_singleton] at h;subst h;simp [endW]
 | succ f ih =>
  intro i y r h;rw [goW] at h
  by_cases hi : i < ls.length
  ·rw [if_pos hi] at h
   by_cases h1 : (ls[i]?.getD noLV).kind = 1
   ·rw [if_pos h1, List.mem_append] at h
    rcases h with h | h
    iterate 2
     ·have := ih _ _ _ h;simp only [Way.guard, qD, qG, List.length_nil] at this
      omega
   rw [if_neg h1] at h
   by_cases h2 : (ls[i]?.getD noLV).kind = 2
   ·rw [if_pos h2] at h;have := ih _ _ _ h;simp only [Way.add] at this
    omega
   rw [if_neg h2] at h
   by_cases h3 : (ls[i]?.getD noLV).kind = 3
   ·rw [if_pos h3] at h;have := ih _ _ _ h;simp only [Way.tell] at this
    omega
   rw [if_neg h3, List.mem_singleton] at h;subst h;simp only [stopW]
   omega
  rw [if_neg hi, List.mem_singleton] at h;subst h;simp only [endW]
  omega
theorem addP_most (ps : List (List Int)) (p : List Int) : (addPb ps p).length <= ps.length + 1 := by
 unfold addPb
 split
 ·omega
 simp
theorem guardsP_most (fs : List Frm) : ∀ ps : List (List Int), (guardsP ps fs).length <= ps.length + fs.length := by
 induction fs with
 | nil => intro ps; simp [guardsP]
 | cons f fs ih =>
  intro ps;have h1 := ih (addPb ps (partL f.1));have h2 := addP_most ps (partL f.1);have e : guardsP ps (f :: fs) = guardsP (addPb ps (partL f.1)) fs := rfl;rw [e, qG]
  omega
theorem rowsP_most (rs : List RowM) (M : Nat) : ∀ ps : List (List Int), (∀ r ∈ rs, r.guards.length <= M) -> (rowsP ps rs).length <= ps.length + rs.length * M := by
 induction rs with
 | nil => intro ps _; simp [rowsP]
 | cons r rs ih =>
  intro ps h;have h1 := ih (guardsP ps r.guards) (fun x hx => h x (List.mem_cons_of_mem _ hx));have h2 := guardsP_most r.guards ps;have h3 := h r List.mem_cons_self;have e : rowsP ps (r :: rs) = rowsP (guardsP ps r.guards) rs := rfl;rw [e, qG, Nat.succ_mul]
  omega
theorem actsP_most (ss : List L2V) : ∀ ps : List (List Int), (actsP ps ss).length <= ps.length + ss.length * 896 := by
 induction ss with
 | nil => intro ps; simp [actsP]
 | cons s ss ih =>
  intro ps;have h1 := ih (rowsP ps (rowsL s.x));have h2 := rowsP_most (rowsL s.x) 7 ps (fun r hr => by have := goW_guards 7 0 way0 r hr; simpa [way0] using this);have h3 : (rowsL s.x).length <= 128 := goW_128 (by omega);have h4 : (rowsL s.x).length * 7 <= 128 * 7 := Nat.mul_le_mul_right _ h3;have e : actsP ps (s :: ss) = actsP (rowsP ps (rowsL s.x)) ss := rfl;rw [e, qG]
  omega
theorem catP_len {ss : List L2V} (h : ss.length <= 4) : (catP ss).length <= 600000 := by
 have h1 := actsP_most ss pots3;have h2 : pots3.length = 3 := rfl
 show (actsP pots3 ss).length <= 600000
 omega
abbrev resP (code : Int) (a : Option Addr) (n cap : Nat) : Value := .agg #[.int .i64 code, .slice a n cap]
structure DV where
 q : Int
 c : Int
 t : IV
def noD : DV := ⟨0, 0, noI⟩
def DV.cs (f : DV) : List Value := [.int .i64 f.q, .int .i64 f.c, IV.v f.t]
def DG (w : World) (f : DV) : Prop := IG w f.t /\ True
theorem DG.below {w' : World} {f : DV} (h : DG w f) (hb : Below w.heap.size w w') : DG w' f := ⟨h.1.below hb, trivial⟩
abbrev doV (s c : Int) (a : Option Addr) (n cap : Nat) : Value := .agg #[.int .i64 s, .int .i64 c, .slice a n cap]
def DSG (w : World) (ad : Option Addr) (fs : List DV) : Prop :=
 ∀ i, i < fs.length -> ∃ b off, ad = some ⟨b, off, none⟩ /\ (∀ r, r < 3 -> w.cell? ⟨b, off + i * 3 + r, none⟩ = (fs[i]?.getD noD).cs[r]?) /\ DG w (fs[i]?.getD noD)
theorem DSG.below {w' : World} {ad : Option Addr} {fs : List DV} (h : DSG w ad fs) (hb : Below w.heap.size w w') : DSG w' ad fs := fun i hi => by
 obtain ⟨b, off, e, hc, hr⟩ := h i hi;have hl : b < w.heap.size := block_lt (v := ((fs[i]?.getD noD).cs[0]?).getD (.bool false)) ((hc 0 (by omega)).trans rfl)
 exact ⟨b, off, e, fun r hr => by rw [hb.cell (p := ⟨b, off + i * 3 + r, none⟩) hl]; exact hc r hr, hr.below hb⟩
theorem cellsD {b o : Nat} {f : DV} (h : ∀ r, r < 3 -> w.cell? ⟨b, o + r, none⟩ = f.cs[r]?) : w.cell? ⟨b, o, none⟩ = some (.int .i64 f.q) /\ w.cell? ⟨b, o + 1, none⟩ = some (.int .i64 f.c) /\ w.cell? ⟨b, o + 2, none⟩ = some (f.t.v) := ⟨h 0 (by omega), h 1 (by omega), h 2 (by omega)⟩
def wordL (c : Int) : List UInt8 := if c = 1 then [100, 111, 110, 101] else if c = 2 then [115, 116, 111, 112, 112, 101, 100] else if c = 3 then [111, 118, 101, 114] else []
def tailL (zs : List Int) : List UInt8 := Lib.joinTail [32] (zs.map Lib.itoa)
def resOkB (c : Int) (n : Nat) (zs : List Int) : Bool := inB c 1 3 && (decide (c = 1 \/ n = 0) && (decide (n <= 6) && allB 999999999999 zs))
def resText (c : Int) (n : Nat) (zs : List Int) : List UInt8 := if resOkB c n zs = true then wordL c ++ tailL zs else []
theorem tail_step (h : k < zs.length) : tailL (zs.take (k + 1)) = tailL (zs.take k) ++ ([32] ++ Lib.itoa (zs[k]?.getD 0)) := by
 unfold tailL Lib.joinTail;rw [qF h, qC h, List.map_append, List.map_append, List.flatten_append];simp only [List.map_cons, List.map_nil, List.flatten_cons, List.flatten_nil, List.append_nil, Option.getD_some]
theorem resText_no {c : Int} (h : resOkB c n zs = false) : resText c n zs = [] := by rw [resText, h]; rfl
theorem resText_yes {c : Int} (h : resOkB c n zs = true) : resText c n zs = wordL c ++ tailL zs := by rw [resText, if_pos h]
theorem word_len (c : Int) : (wordL c).length <= 7 := by
 unfold wordL
 split
 ·decide
 split
 ·decide
 split <;> decide
theorem allB_bnd' {m : Int} (hm : 0 <= m) (h : allB m zs = true) : ∀ i : Nat, -m <= zs[i]?.getD 0 /\ zs[i]?.getD 0 <= m := by
 intro i
 by_cases hi : i < zs.length
 ·unfold allB at h;rw [List.all_eq_true] at h;have := inB_iff.1 (h zs[i] (List.getElem_mem hi));rw [qC hi];simpa using this
 rw [List.getElem?_eq_none (by omega)];simp; omega
theorem ret_str {a b : List UInt8} (h : a = b) : Ending.returned (.string ⟨a.toArray⟩) = .returned (.string ⟨b.toArray⟩) := by rw [h]
end Go.Proofs.YtpmihhbgjimpmaaGreatDoor
