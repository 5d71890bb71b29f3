/-
  Lemmas that the claim's last text rests on.
-/
import Derived.Test.YtacfoeekmcnpjaaGreatDoorQE
namespace Go.Proofs.YtacfoeekmcnpjaaGreatDoor
open Go.RowKit Go.Deep Go.ChangeShapes Go.WideShapes Go.ChangeAt Go.Joins
open List renaming getElem?_eq_getElem → qA, getElem?_cons_zero → qB, getElem?_set_ne → qC, length_append → qD, getElem?_append_right → qE, getElem?_append_left → qF, take_of_length_le → qG, getElem?_set_self → qH, length_cons → qI, length_nil → qJ
open Nat renaming le_refl → qK, zero_le → qL
set_option linter.unusedVariables false
set_option maxRecDepth 100000
set_option maxHeartbeats 25600000
variable {B N cap cap' fuel k lo n o : Nat} {S : Nat -> Prop} {W W' W1 w w' : World} {a ad ae : Option Addr} {fs gs : List DV} {ss : List IV} {vs : List Value} {x0 x1 x2 : Value}
theorem btq {B : Nat} {w v u : World} (h : Below B w v) (k : Below v.heap.size v u) (e : B = w.heap.size := by rfl) : Below B w u := h.trans (k.mono (e ▸ h.size))
structure JGc (w : World) (v : Value) (ts : List GV) (bs ds : Nat -> Nat) (W : World) : Prop where
 b : Below w.heap.size w W
 o : W.ownsRow w.heap.size 222 3 v ts.length (ts.flatMap GV.cs)
 k : ∀ j, j < ts.length -> OwnX W (ts[j]?.getD noG).t.a (bs j) (ts[j]?.getD noG).t.n (ts[j]?.getD noG).t.x /\ (ts[j]?.getD noG).t.n <= 1048576 /\ (0 < (ts[j]?.getD noG).t.n -> w.heap.size <= bs j /\ some (bs j) ≠ v.ownBlock)
 u : ∀ j, j < ts.length -> OwnX W (ts[j]?.getD noG).u.a (ds j) (ts[j]?.getD noG).u.n (ts[j]?.getD noG).u.x /\ (ts[j]?.getD noG).u.n <= 1048576 /\ (0 < (ts[j]?.getD noG).u.n -> w.heap.size <= ds j /\ some (ds j) ≠ v.ownBlock)
 d : ∀ i j, i < ts.length -> j < ts.length -> i ≠ j -> 0 < (ts[i]?.getD noG).t.n -> 0 < (ts[j]?.getD noG).t.n -> bs i ≠ bs j
 e : ∀ i j, i < ts.length -> j < ts.length -> i ≠ j -> 0 < (ts[i]?.getD noG).u.n -> 0 < (ts[j]?.getD noG).u.n -> ds i ≠ ds j
 m : ∀ i j, i < ts.length -> j < ts.length -> 0 < (ts[i]?.getD noG).t.n -> 0 < (ts[j]?.getD noG).u.n -> bs i ≠ ds j
section
variable {w W W' : World} {v v' : Value} {ts : List GV} {bs ds : Nat -> Nat}
theorem JGc.nil (w W : World) (hb : Below w.heap.size w W) (bs ds : Nat -> Nat) : JGc w (.slice none 0 0) [] bs ds W := ⟨hb, World.ownsRow_nil W _ _ _, fun j hj => by simp at hj, fun j hj => by simp at hj, fun i j hi => by simp at hi, fun i j hi => by simp at hi, fun i j hi => by simp at hi⟩
theorem JGc.below (j : JGc w v ts bs ds W) (h : Below W.heap.size W W') : JGc w v ts bs ds W' :=
 ⟨j.b.trans (h.mono j.b.size), own_below j.o h, fun i hi => by obtain ⟨a, b⟩ := j.k i hi; exact ⟨a.below h, b⟩, fun i hi => by obtain ⟨a, b⟩ := j.u i hi; exact ⟨a.below h, b⟩, j.d, j.e, j.m⟩
theorem JGc.own (j : JGc w v ts bs ds W) {g : Nat} (h : v.ownBlock = some g) : w.heap.size <= g /\ g < W.heap.size := by
 rcases j.o.2 with ⟨h', _⟩ | ⟨g', cap, cur, hv, hg, hh, r⟩
 ·rw [h'] at h; simp [Value.ownBlock] at h
 ·rw [hv] at h
  simp only [Value.ownBlock, Option.some.injEq] at h
  subst h
  exact ⟨hg, lt_of_block hh⟩
theorem JGc.isSlice (j : JGc w v ts bs ds W) (hk : ts.length = k) : ∃ a c, v = .slice a k c := by
 subst hk
 rcases j.o.2 with ⟨h', h0⟩ | ⟨g', cap, cur, hv, hg, hh, r⟩
 ·exact ⟨none, 0, by rw [h', h0]⟩
 ·exact ⟨_, _, hv⟩
theorem JGc.app {s : GV} {A C : Nat} {o : Obj} (j : JGc w v ts bs ds W) (hk : ts.length = k) (hA : OwnX W s.t.a A s.t.n s.t.x) (hz : s.t.n <= 1048576) (hlo : 0 < s.t.n -> w.heap.size <= A /\ some A ≠ v.ownBlock) (hC : OwnX W s.u.a C s.u.n s.u.x) (hzC : s.u.n <= 1048576) (hloC : 0 < s.u.n -> w.heap.size <= C /\ some C ≠ v.ownBlock) (hAC : 0 < s.t.n -> 0 < s.u.n -> A ≠ C)
  (hnew : 0 < s.t.n -> ∀ i, i < k -> (0 < (ts[i]?.getD noG).t.n -> bs i ≠ A) /\ (0 < (ts[i]?.getD noG).u.n -> ds i ≠ A)) (hnewC : 0 < s.u.n -> ∀ i, i < k -> (0 < (ts[i]?.getD noG).t.n -> bs i ≠ C) /\ (0 < (ts[i]?.getD noG).u.n -> ds i ≠ C))
  (hown : W'.ownsRow w.heap.size 222 3 v' (k + 1) (ts.flatMap GV.cs ++ s.cs)) (hg : (W.alloc o).grownBy W' v.ownBlock) (hat : v'.ownBlock = v.ownBlock \/ v'.ownBlock = some (W.alloc o).heap.size) : JGc w v' (ts ++ [s]) (fun i => if i < k then bs i else A) (fun i => if i < k then ds i else C) W' := by
 subst hk
 have B1 : Below W.heap.size W (W.alloc o) := bal
 have ja := j.below B1
 have key : ∀ (a : Option Addr) (Y n : Nat) (x : List Int), OwnX W a Y n x -> (0 < n -> w.heap.size <= Y /\ some Y ≠ v.ownBlock) -> OwnX W' a Y n x /\ (0 < n -> w.heap.size <= Y /\ some Y ≠ v'.ownBlock) := fun a Y n x h1 h2 => by
  refine ⟨?_, fun hn => ⟨(h2 hn).1, fun e => ?_⟩⟩
  ·have h3 := h1.below B1
   rcases h3.2 with h0 | ⟨e1, cur, hc, hv⟩
   ·exact ⟨h3.1, .inl h0⟩
   ·by_cases hn : 0 < n
    ·exact ⟨h3.1, .inr ⟨e1, cur, hc.grew hg (fun e => (h2 hn).2 e.symm), hv⟩⟩
    ·exact ⟨h3.1, .inl (by omega)⟩
  ·have hl := h1.lt hn
   rcases hat with h | h
   ·exact (h2 hn).2 (e.trans h)
   ·rw [h, World.size_alloc] at e
    simp only [Option.some.injEq] at e
    omega
 have hold : ∀ i, i < ts.length -> (ts ++ [s])[i]?.getD noG = ts[i]?.getD noG := fun i h => by rw [qF h]
 have hlast : (ts ++ [s])[ts.length]?.getD noG = s := by rw [qE (qK _), Nat.sub_self]; rfl
 have cut : ∀ i, i < (ts ++ [s]).length -> (i < ts.length /\ (ts ++ [s])[i]?.getD noG = ts[i]?.getD noG /\ (if i < ts.length then bs i else A) = bs i /\ (if i < ts.length then ds i else C) = ds i) \/ (i = ts.length /\ (ts ++ [s])[i]?.getD noG = s /\ (if i < ts.length then bs i else A) = A /\ (if i < ts.length then ds i else C) = C) := fun i hi => by
  rw [qD, List.length_singleton] at hi
  by_cases h : i < ts.length
  ·exact .inl ⟨h, hold i h, if_pos h, if_pos h⟩
  ·have e : i = ts.length := by omega
   exact .inr ⟨e, by rw [e]; exact hlast, if_neg h, if_neg h⟩
 refine ⟨ja.b.grown hg ja.b.size (fun z hz => (j.own hz).1), ?_, fun i hi => ?_, fun i hi => ?_, fun i i' hi hi' hne h1 h2 => ?_, fun i i' hi hi' hne h1 h2 => ?_, fun i i' hi hi' h1 h2 => ?_⟩
 ·rw [qD, List.flatMap_append]
  have : [s].flatMap GV.cs = s.cs := by simp
  rw [this]
  exact hown
 ·(try dsimp only)
  rcases cut i hi with ⟨h, e1, e2, _⟩ | ⟨h, e1, e2, _⟩
  ·rw [e1, e2]
   obtain ⟨a, b, d⟩ := j.k i h
   obtain ⟨q1, q2⟩ := key _ _ _ _ a d
   exact ⟨q1, b, q2⟩
  ·rw [e1, e2]
   obtain ⟨q1, q2⟩ := key _ _ _ _ hA hlo
   exact ⟨q1, hz, q2⟩
 ·(try dsimp only)
  rcases cut i hi with ⟨h, e1, _, e2⟩ | ⟨h, e1, _, e2⟩
  ·rw [e1, e2]
   obtain ⟨a, b, d⟩ := j.u i h
   obtain ⟨q1, q2⟩ := key _ _ _ _ a d
   exact ⟨q1, b, q2⟩
  ·rw [e1, e2]
   obtain ⟨q1, q2⟩ := key _ _ _ _ hC hloC
   exact ⟨q1, hzC, q2⟩
 ·(try dsimp only)
  rcases cut i hi with ⟨h, e1, e2, _⟩ | ⟨h, e1, e2, _⟩ <;> rcases cut i' hi' with ⟨h', e1', e2', _⟩ | ⟨h', e1', e2', _⟩ <;> rw [e1] at h1 <;> rw [e1'] at h2 <;> rw [e2, e2']
  ·exact j.d i i' h h' hne h1 h2
  ·exact (hnew h2 i h).1 h1
  ·exact fun e => (hnew h1 i' h').1 h2 e.symm
  ·omega
 ·(try dsimp only)
  rcases cut i hi with ⟨h, e1, _, e2⟩ | ⟨h, e1, _, e2⟩ <;> rcases cut i' hi' with ⟨h', e1', _, e2'⟩ | ⟨h', e1', _, e2'⟩ <;> rw [e1] at h1 <;> rw [e1'] at h2 <;> rw [e2, e2']
  ·exact j.e i i' h h' hne h1 h2
  ·exact (hnewC h2 i h).2 h1
  ·exact fun e => (hnewC h1 i' h').2 h2 e.symm
  ·omega
 ·(try dsimp only)
  rcases cut i hi with ⟨h, e1, e2, _⟩ | ⟨h, e1, e2, _⟩ <;> rcases cut i' hi' with ⟨h', e1', _, e2'⟩ | ⟨h', e1', _, e2'⟩ <;> rw [e1] at h1 <;> rw [e1'] at h2 <;> rw [e2, e2']
  ·exact j.m i i' h h' h1 h2
  ·exact (hnewC h2 i h).1 h1
  ·exact fun e => (hnew h1 i' h').2 h2 e.symm
  ·exact hAC h1 h2
theorem atGc (ts : List GV) : ∀ i, i < ts.length -> ∀ r, r < 3 -> (ts.flatMap GV.cs)[i * 3 + r]? = (ts[i]?.getD noG).cs[r]? := by
 induction ts with
 | nil => intro i hi; simp at hi
 | cons t ts ih =>
  intro i hi r hr
  rw [List.flatMap_cons]
  have hl : t.cs.length = 3 := rfl
  cases i with
  | zero => rw [qF (by omega)]; simp
  | succ i =>
   rw [qE (by omega), hl, show (i + 1) * 3 + r - 3 = i * 3 + r by omega, ih i (by simpa using hi) r hr]
   simp
theorem JGc.lies (j : JGc w v ts bs ds W) (hn : ts.length = n) : ∃ a G cap, v = .slice a n cap /\ GL W a G n (fun i => ts[i]?.getD noG) bs ds /\ (0 < n -> w.heap.size <= G) /\ (∀ i, i < n -> 0 < (ts[i]?.getD noG).t.n -> w.heap.size <= bs i) /\ ∀ i, i < n -> 0 < (ts[i]?.getD noG).u.n -> w.heap.size <= ds i := by
 subst hn
 rcases j.o.2 with ⟨h', h0⟩ | ⟨g, cap, cur, hv, hg, hh, _, _, hcs, htake⟩
 ·refine ⟨none, 0, 0, by rw [h', h0], ?_, fun h => by omega, fun i hi => by omega, fun i hi => by omega⟩
  rw [h0]
  exact GL.zero _ _ _ _ _ _
 ·refine ⟨_, g, cap, hv, ⟨fun h => ⟨rfl, cur.toList, by unfold Cel; simpa using hh, fun i hi r hr => ?_⟩, fun i hi => ?_, fun i hi => ?_, fun i i' hi hi' hne h1 h2 => j.d i i' hi hi' hne h1 h2, fun i i' hi hi' hne h1 h2 => j.e i i' hi hi' hne h1 h2, fun i i' hi hi' h1 h2 => j.m i i' hi hi' h1 h2⟩, fun _ => hg, fun i hi h => ((j.k i hi).2.2 h).1, fun i hi h => ((j.u i hi).2.2 h).1⟩
  ·rw [<- atGc ts i hi r hr, <- htake, List.getElem?_take, if_pos (by omega)]
  ·obtain ⟨a, b, d⟩ := j.k i hi
   refine ⟨a, fun h e => (d h).2 ?_, b⟩
   rw [hv, e]
   rfl
  ·obtain ⟨a, b, d⟩ := j.u i hi
   refine ⟨a, fun h e => (d h).2 ?_, b⟩
   rw [hv, e]
   rfl
end
theorem Tryz.copiedG (v : Value) (w : World) : (Go.method 545 222 v "loop.example/concord/impl.copied").run Tryz.prog w = .ok (353, v) w := by kernel_rfl
theorem icopiesByG_any {Bq : Nat} (fs : List GV) {w : World} (hN : fs.length = N) (hF : MG w Bq N fs) (hN1 : N <= 1048576) :
  Calls Tryz.prog 223 #[.slice (some ⟨Bq, 0, none⟩) N cap, .func (.methodOf 222 "loop.example/concord/impl.copied") #[] #[]] w fun e w' => ∃ v ts bs ds, e = .returned v /\ ts.length = N /\ JGc w v ts bs ds w' /\ ∀ i, i < N -> sameG (fs[i]?.getD noG) (ts[i]?.getD noG) := by
 have HN : Hid (fs.length = N) := hN
 have HF : Hid (MG w Bq N fs) := hF
 clear hN hF
 obtain ⟨zi, hi, hz0, hz1, hz2⟩ := info_parts Tryz.infoClkGot
 have hm := Tryz.copiedG
 go_enter Tryz.func223, Tryz.ntmps223
 go_wp2_with fail
 go_loopw [5, 7, 10] (fun r _ i wr => ∃ (k : Nat) (ts : List GV) (bs ds : Nat -> Nat), k <= N /\ i = .int .i64 k /\ Hid (ts.length = k) /\ JGc w r ts bs ds wr /\ Hid (∀ i, i < k -> sameG (fs[i]?.getD noG) (ts[i]?.getD noG))) (fun _ _ i _ => N - (intOf i).toNat)
 case atStart => exact ⟨0, [], fun _ => 0, fun _ => 0, qL _, rfl, rfl, JGc.nil w _ (Below.refl _ _) _ _, fun i hi => by omega⟩
 case round =>
  obtain ⟨k, ts, bs, ds, hk, rfl, htl, j, HS⟩ := hrel
  by_cases hlt : k < N
  ·obtain ⟨va, vc, rfl⟩ := j.isSlice htl.out
   have hlt' : (k : Int) < N := by omega
   obtain ⟨vs, hcel, hvl, hcs⟩ := (HF.out.below j.b).c
   have hdk := (HF.out.below j.b).l k (by rw [HN.out]; exact hlt)
   have hcs' := hcs k (by rw [HN.out]; exact hlt)
   have hx : ∀ r, r < 3 -> wr.cell? ⟨Bq, k * 3 + r, none⟩ = (fs[k]?.getD noG).cs[r]? := fun r hr => by rw [hcel.cell]; exact hcs' r hr
   generalize HG : fs[k]?.getD noG = g at *
   have HT : Hid (fs[k]?.getD noG = g) := HG
   clear HG hcs hcs'
   obtain ⟨gh, ⟨gta, gtn, gtc, gtx⟩, ⟨gua, gun, guc, gux⟩⟩ := g
   obtain ⟨e0, e1, e2⟩ := cellsG hx
   have e0' : wr.cell? ⟨Bq, k * 3, none⟩ = some (.bool gh) := e0
   have e1' : wr.cell? ⟨Bq, k * 3 + 1, none⟩ = some (.slice gta gtn gtc) := e1
   have e2' : wr.cell? ⟨Bq, k * 3 + 2, none⟩ = some (.slice gua gun guc) := e2
   obtain ⟨⟨Bl, hBl, _, hblk, hlen, hle⟩, ⟨Bm, hBm, _, hblm, hlem, hlf⟩, -⟩ := hdk
   obtain rfl : gta = some ⟨Bl, 0, none⟩ := hBl
   obtain rfl : gua = some ⟨Bm, 0, none⟩ := hBm
   have hblk : Blk wr Bl gtx := hblk
   have hlen : Hid (gtx.length = gtn) := hlen
   have hle : gtn <= 1048576 := hle
   have hblm : Blk wr Bm gux := hblm
   have hlem : Hid (gux.length = gun) := hlem
   have hlf : gun <= 1048576 := hlf
   clear e0 e1 e2 hx
   have A1 : Below wr.heap.size wr (wr.alloc (.cells #[.bool gh, .slice (some ⟨Bl, 0, none⟩) gtn gtc, .slice (some ⟨Bm, 0, none⟩) gun guc] 222)) := bal
   have sz := j.b.size
   go_wp2_with fail
   refine (icopGot_any gtx gux (hblk.below A1) hlen.out hle (hblm.below A1) hlem.out hlf).mono ?_
   rintro ee w3 ⟨na, nc, nB, ma, mc, mB, rfl, b3, o3, p3, g3, q3, ne3⟩
   rw [World.size_alloc] at g3 q3
   have b3' := btq A1 b3
   have j3 := j.below b3'
   have sz3 := b3'.size
   have A : Below w3.heap.size w3 (w3.alloc (.cells #[.bool gh, .slice na gtn nc, .slice ma gun mc] 222)) := bal
   have j4 := j3.below A
   have hnew : Hid (0 < gtn -> ∀ i, i < k -> (0 < (ts[i]?.getD noG).t.n -> bs i ≠ nB) /\ (0 < (ts[i]?.getD noG).u.n -> ds i ≠ nB)) := fun h0 i hi => by
    have h2 := g3 h0
    exact ⟨fun hi0 => by have h1 := ((j.k i (by rw [htl.out]; exact hi)).1).lt hi0; omega, fun hi0 => by have h1 := ((j.u i (by rw [htl.out]; exact hi)).1).lt hi0; omega⟩
   have hnewC : Hid (0 < gun -> ∀ i, i < k -> (0 < (ts[i]?.getD noG).t.n -> bs i ≠ mB) /\ (0 < (ts[i]?.getD noG).u.n -> ds i ≠ mB)) := fun h0 i hi => by
    have h2 := q3 h0
    exact ⟨fun hi0 => by have h1 := ((j.k i (by rw [htl.out]; exact hi)).1).lt hi0; omega, fun hi0 => by have h1 := ((j.u i (by rw [htl.out]; exact hi)).1).lt hi0; omega⟩
   have hlo : Hid (0 < gtn -> w.heap.size <= nB /\ some nB ≠ (Value.slice va k vc).ownBlock) := fun h0 => by
    have h2 := g3 h0
    exact ⟨by omega, fun e => by have := (j.own e.symm).2; omega⟩
   have hloC : Hid (0 < gun -> w.heap.size <= mB /\ some mB ≠ (Value.slice va k vc).ownBlock) := fun h0 => by
    have h2 := q3 h0
    exact ⟨by omega, fun e => by have := (j.own e.symm).2; omega⟩
   have hAC : Hid (0 < gtn -> 0 < gun -> nB ≠ mB) := ne3
   have ho : (w3.alloc (.cells #[.bool gh, .slice na gtn nc, .slice ma gun mc] 222)).ownsRow w.heap.size 222 3 (.slice va k vc) k (ts.flatMap GV.cs) := by
    have := j4.o
    rw [htl.out] at this
    exact this
   clear j e0' e1' e2' hblk hblm A1 b3 b3' g3 q3 ne3 j4
   go_wp2_with (at_builtin; go_must (refine wpList_append_lies _ rfl (.tmp 14) (.tmp 18) 45 rfl w.heap.size 222 zi _ 3 56 Tryz.underlying45 hi hz0 hz1 hz2 rfl (by decide) (.slice va k vc) k (ts.flatMap GV.cs) rfl ho ⟨w3.heap.size, 0, none⟩ 1 1 [.bool gh, .slice na gtn nc, .slice ma gun mc] rfl rfl (World.news_of_block (cs := #[.bool gh, .slice na gtn nc, .slice ma gun mc]) (t := 222) (fr := (0, 0)) (heap_alloc_new w3 _)) (by simp [Value.oneCell']) (by omega) (by unfold maxLen; omega) (by omega) (by rw [World.size_alloc]; omega) _ rfl ?_); intro g cp w4 hown hgrow hat hlt1)
   have j5 := j3.app (s := ⟨gh, ⟨na, gtn, nc, gtx⟩, ⟨ma, gun, mc, gux⟩⟩) htl.out o3 hle hlo.out p3 hlf hloC.out hAC.out hnew.out hnewC.out hown hgrow (hat.elim (fun h => .inl (by rw [h]; rfl)) (fun h => .inr (by rw [h]; rfl)))
   have HS5 : Hid (∀ i, i < k + 1 -> sameG (fs[i]?.getD noG) ((ts ++ [⟨gh, ⟨na, gtn, nc, gtx⟩, ⟨ma, gun, mc, gux⟩⟩])[i]?.getD noG)) := fun i hi => by
    by_cases h : i < k
    ·rw [qF (by rw [htl.out]; exact h)]; exact HS.out i h
    ·obtain rfl : i = k := by omega
     rw [qE (by rw [htl.out]; exact qK _), htl.out, Nat.sub_self, HT.out]
     exact ⟨rfl, rfl, rfl, trivial⟩
   clear hown hgrow hat j3 o3 p3 ho
   go_wp2
   go_roundw
   case rel => exact ⟨k + 1, _, _, _, by omega, by go_num, by show _ = _; rw [qD, htl.out]; rfl, j5, HS5⟩
   case measure => simp [intOf]; omega
  ·obtain rfl : k = N := by omega
   go_wp2
   go_ret
   exact ⟨_, ts, bs, ds, rfl, htl.out, j, HS.out⟩
theorem icopiesG_any {Bq : Nat} (fs : List GV) {w : World} (hN : fs.length = N) (hF : MG w Bq N fs) (hN1 : N <= 1048576) :
  Calls Tryz.prog 171 #[.slice (some ⟨Bq, 0, none⟩) N cap] w fun e w' => ∃ v ts bs ds, e = .returned v /\ ts.length = N /\ JGc w v ts bs ds w' /\ ∀ i, i < N -> sameG (fs[i]?.getD noG) (ts[i]?.getD noG) := by
 go_enter Tryz.func171, Tryz.ntmps171
 go_wp2_with fail
 refine (icopiesByG_any fs hN hF hN1).mono ?_
 rintro e w1 ⟨v, ts, bs, ds, rfl, h1, j, h2⟩
 go_wp2
 go_ret
 exact ⟨v, ts, bs, ds, rfl, h1, j, h2⟩
def DSM (w : World) (ad : Option Addr) (fs : List DV) : Prop :=
 ∀ i, i < fs.length -> ∃ b off, ad = some ⟨b, off, none⟩ /\ (∀ r, r < 3 -> w.cell? ⟨b, off + i * 3 + r, none⟩ = (fs[i]?.getD noD).cs[r]?) /\ DM w (fs[i]?.getD noD)
theorem DSM.below (h : DSM w ad fs) (hb : Below w.heap.size w w') : DSM w' ad fs := fun i hi => by
 obtain ⟨b, off, e, hc, hr⟩ := h i hi
 have hl : b < w.heap.size := block_lt (v := ((fs[i]?.getD noD).cs[0]?).getD (.bool false)) ((hc 0 (by omega)).trans rfl)
 exact ⟨b, off, e, fun r hr => by rw [hb.cell (p := ⟨b, off + i * 3 + r, none⟩) hl]; exact hc r hr, hr.below hb⟩
def DSG (w : World) (ad : Option Addr) (fs : List DV) : Prop :=
 ∀ i, i < fs.length -> ∃ b off, ad = some ⟨b, off, none⟩ /\ (∀ r, r < 3 -> w.cell? ⟨b, off + i * 3 + r, none⟩ = (fs[i]?.getD noD).cs[r]?) /\ DG w (fs[i]?.getD noD)
theorem DSG.below (h : DSG w ad fs) (hb : Below w.heap.size w w') : DSG w' ad fs := fun i hi => by
 obtain ⟨b, off, e, hc, hr⟩ := h i hi
 have hl : b < w.heap.size := block_lt (v := ((fs[i]?.getD noD).cs[0]?).getD (.bool false)) ((hc 0 (by omega)).trans rfl)
 exact ⟨b, off, e, fun r hr => by rw [hb.cell (p := ⟨b, off + i * 3 + r, none⟩) hl]; exact hc r hr, hr.below hb⟩
theorem DSM.g (h : DSM w ad fs) (hs : ∀ i, i < fs.length -> DZ (fs[i]?.getD noD)) : DSG w ad fs := fun i hi => by
 obtain ⟨b, off, e, hc, hr⟩ := h i hi
 exact ⟨b, off, e, hc, hr.g (hs i hi)⟩
theorem cellsD {b : Nat} {f : DV} (h : ∀ r, r < 3 -> w.cell? ⟨b, o + r, none⟩ = f.cs[r]?) : w.cell? ⟨b, o, none⟩ = some (.int .i64 f.q) /\ w.cell? ⟨b, o + 1, none⟩ = some (.int .i64 f.c) /\ w.cell? ⟨b, o + 2, none⟩ = some (f.t.v) := ⟨h 0 (by omega), h 1 (by omega), h 2 (by omega)⟩
theorem open_DS {H : Type} {enc : TypeId × Value -> H} {v : Value} {y : DataW H × List MemPlace}
  (hf : DataW.trod enc Tryz.prog W 0 (fun _ => true) true fuel 27 [v] = some y) :
  ∃ ad N cap fs, v = .slice ad N cap /\ fs.length = N /\ DSM W ad fs /\ N <= maxLen := by
 obtain ⟨ad, N, cap, fs, hv, hl, hN, hall⟩ := open_sliceC noD DV.cs (fun f => DM W f) (c := 3) (by omega) Tryz.underlying27 (by kernel_rfl) (fun _ => rfl) (fun fuel cs x hx => open_DC hx) hf
 exact ⟨ad, N, cap, fs, hv, hl, hall, hN⟩
theorem szDS_any (fs : List DV) {l : Int} {w : World} (hN : fs.length = N) (hF : DSM w ad fs) (hN1 : N <= maxLen) (h0 : 0 <= l) (hl : l <= 1048576) :
  Calls Tryz.prog 77 #[.slice ad N cap, .int .i64 l] w fun e w' => ∃ r, e = .returned (.int .i64 r) /\ -1 <= r /\ r <= 1048576 /\ (0 <= r -> N <= 1048576 /\ ∀ i, i < fs.length -> DZ (fs[i]?.getD noD)) /\ Below w.heap.size w w' := by
 have HN : Hid (fs.length = N) := hN
 clear hN
 unfold maxLen at hN1
 by_cases h : l < N
 ·go_enter Tryz.func77, Tryz.ntmps77
  go_wp2
  go_ret
  exact ⟨-1, rfl, by omega, by omega, fun h => by omega, Below.refl _ _⟩
 ·have hN2 : N <= 1048576 := by omega
  have h' : (N : Int) <= l := by omega
  go_enter Tryz.func77, Tryz.ntmps77
  go_wp2_with fail
  go_loopw [1, 5] (fun lv i wr => ∃ k : Nat, k <= N /\ i = .int .i64 k /\ ∃ x : Int, lv = .int .i64 x /\ 0 <= x /\ x <= 1048576 /\ Below w.heap.size w wr /\ ∀ i, i < k -> DZ (fs[i]?.getD noD)) (fun _ i _ => N - (intOf i).toNat)
  case atStart => exact ⟨0, qL _, rfl, _, rfl, by omega, by omega, Below.refl _ _, fun i hi => by omega⟩
  case round =>
   obtain ⟨k, hk, rfl, x, rfl, hx0, hx1, hb, hall⟩ := hrel
   have HA : Hid _ := hall
   clear hall
   by_cases hlt : k < N
   ·obtain ⟨b, off, rfl, hc, hr⟩ := (hF.below hb) k (by rw [HN.out]; exact hlt)
    generalize HG : fs[k]?.getD noD = g at *
    have HG' : Hid (fs[k]?.getD noD = g) := HG
    clear HG hF
    obtain ⟨e0, e1, e2⟩ := cellsD hc
    obtain ⟨gq, gc, ⟨gta, gtn, gtc, gtx⟩⟩ := g
    have e0' : wr.cell? ⟨b, off + k * 3, none⟩ = some (.int .i64 gq) := e0
    have e1' : wr.cell? ⟨b, off + k * 3 + 1, none⟩ = some (.int .i64 gc) := e1
    have e2' : wr.cell? ⟨b, off + k * 3 + 2, none⟩ = some (.slice gta gtn gtc) := e2
    clear e0 e1 e2 hc
    go_wp2_with fail
    refine (szD_ex gtx hr hx0 hx1).mono ?_
    rintro e w1 ⟨r, rfl, r0, r1, r2, b1⟩
    by_cases hz : r < 0
    ·go_wp2
     go_ret
     exact ⟨-1, rfl, by omega, by omega, fun h => by omega, btq hb b1⟩
    ·have hz0 : 0 <= r := by omega
     have HA2 : Hid (∀ i, i < k + 1 -> DZ (fs[i]?.getD noD)) := fun i hi => by
      by_cases hik : i < k
      ·exact HA.out i hik
      ·obtain rfl : i = k := by omega
       rw [HG'.out]; exact r2 hz0
     clear r2
     go_wp2
     go_roundw
     case rel => exact ⟨k + 1, by omega, by go_num, _, rfl, hz0, r1, btq hb b1, HA2.out⟩
     case measure => simp [intOf]; omega
   ·obtain rfl : k = N := by omega
    go_wp2
    go_ret
    exact ⟨x, rfl, by omega, by omega, fun _ => ⟨hN2, fun i hi => HA.out i (by rw [<- HN.out]; exact hi)⟩, hb⟩
def putD (vs : List Value) (o : Nat) (x0 x1 x2 : Value) : List Value := (((vs.set o x0).set (o + 1) x1).set (o + 2) x2)
theorem putD_len (vs : List Value) (o : Nat) (x0 x1 x2 : Value) : (putD vs o x0 x1 x2).length = vs.length := by simp [putD]
theorem putD_ne {j : Nat} (h : j < o \/ o + 3 <= j) : (putD vs o x0 x1 x2)[j]? = vs[j]? := by
 unfold putD
 rw [qC (by omega), qC (by omega), qC (by omega)]
theorem putD_at (h : o + 3 <= vs.length) (r : Nat) (hr : r < 3) : (putD vs o x0 x1 x2)[o + r]? = [x0, x1, x2][r]? := by
 have hcase : r = 0 \/ r = 1 \/ r = 2 := by omega
 unfold putD
 rcases hcase with rfl | rfl | rfl
 ·simp only [Nat.add_zero]
  rw [qC (by omega), qC (by omega), qH (by omega)]; rfl
 ·rw [qC (by omega), qH (by simp; omega)]; rfl
 ·rw [qH (by simp; omega)]; rfl
structure MD (W : World) (B N : Nat) (gs : List DV) : Prop where
 c : ∃ vs : List Value, Cel W B vs 219 /\ vs.length = N * 3 /\ ∀ i, i < gs.length -> ∀ r, r < 3 -> vs[i * 3 + r]? = (gs[i]?.getD noD).cs[r]?
 l : ∀ i, i < gs.length -> DK W (B + 1) (gs[i]?.getD noD)
theorem MD.lt (h : MD W B N gs) : B < W.heap.size := by
 obtain ⟨vs, h1, _⟩ := h.c
 exact h1.lt
theorem MD.below (h : MD W B N gs) (b : Below W.heap.size W W') : MD W' B N gs := by
 obtain ⟨vs, h1, h2, h3⟩ := h.c
 exact ⟨⟨vs, h1.below b, h2, h3⟩, fun i hi => (h.l i hi).below b⟩
theorem MD.g (h : MD W B N gs) : DSG W (some ⟨B, 0, none⟩) gs := fun i hi => by
 obtain ⟨vs, h1, h2, h3⟩ := h.c
 exact ⟨B, 0, rfl, fun r hr => by rw [Nat.zero_add, h1.cell, h3 i hi r hr], (h.l i hi).g⟩
theorem MD.touch (h : MD W B N gs) (t : Touch S W W') (hs : ∀ k, S k -> k < B) : MD W' B N gs := by
 obtain ⟨vs, h1, h2, h3⟩ := h.c
 exact ⟨⟨vs, h1.touch t (fun hh => by have := hs _ hh; omega), h2, h3⟩, fun i hi => (h.l i hi).touch t (fun k hk => by have := hs _ hk; omega)⟩
theorem MD.setLow (h : MD W B N gs) {X : Nat} (hX : X < B) (i : Nat) (v : Value) : MD (W.setCell ⟨X, i, none⟩ v) B N gs := h.touch (S := fun x => x = X) (Touch.setCell (S := fun x => x = X) (Touch.refl _ _) rfl _) (fun k hk => by omega)
theorem MD.step {gq : Int} {gc : Int} {Pt : Option Addr} {gtn : Nat} {Qt : List Int} (h : MD W B N gs) (hk : gs.length = k) (hkN : k < N) (b : Below W.heap.size W W1) (hs : DK W1 W.heap.size ⟨gq, gc, ⟨Pt, gtn, gtn, Qt⟩⟩) :
  MD (((W1.setCell ⟨B, k * 3, none⟩ (.int .i64 gq)).setCell ⟨B, k * 3 + 1, none⟩ (.int .i64 gc)).setCell ⟨B, k * 3 + 2, none⟩ (.slice Pt gtn gtn)) B N (gs ++ [⟨gq, gc, ⟨Pt, gtn, gtn, Qt⟩⟩]) := by
 have hB := h.lt
 obtain ⟨vs, h1, h2, h3⟩ := (h.below b).c
 have T : Touch (fun x => x = B) W1 (((W1.setCell ⟨B, k * 3, none⟩ (.int .i64 gq)).setCell ⟨B, k * 3 + 1, none⟩ (.int .i64 gc)).setCell ⟨B, k * 3 + 2, none⟩ (.slice Pt gtn gtn)) := (((Touch.refl (fun x => x = B) W1).setCell rfl _).setCell rfl _).setCell rfl _
 refine ⟨⟨putD vs (k * 3) (.int .i64 gq) (.int .i64 gc) (.slice Pt gtn gtn), (((h1).set _ _).set _ _).set _ _, by rw [putD_len]; exact h2, fun i hi r hr => ?_⟩, fun i hi => ?_⟩
 ·rw [qD, hk] at hi
  simp only [qI, qJ] at hi
  by_cases e : i = k
  ·subst e
   rw [putD_at (by rw [h2]; omega) r hr, qE (by omega), hk]
   simp [DV.cs, IV.v]
  ·rw [putD_ne (by omega), qF (by omega)]
   exact h3 i (by omega) r hr
 ·rw [qD, hk] at hi
  simp only [qI, qJ] at hi
  by_cases e : i = k
  ·subst e
   rw [qE (by omega), hk]
   simp only [Nat.sub_self, qB, Option.getD_some]
   exact (hs.mono (by omega)).touch T (fun x hx => by omega)
  ·rw [qF (by omega)]
   exact ((h.l i (by omega)).below b).touch T (fun x hx => by omega)
def copiesDS (fs gs : List DV) : Prop := ∀ i, i < gs.length -> copiesD (fs[i]?.getD noD) (gs[i]?.getD noD)
theorem Tryz.infoPlnDone : (Tryz.prog.info? 219).map (fun i => (i.zero, i.size, i.bytes)) = some (some (.agg #[.int .i64 0, .int .i64 0, .slice none 0 0]), 3, 40) := by kernel_rfl
theorem toDS_any (fs : List DV) {w : World} (hN : fs.length = N) (hF : DSG w ad fs) (hN1 : N <= 1048576) :
  Calls Tryz.prog 84 #[.slice ad N cap] w fun e w' => ∃ gs, e = .returned (.slice (some ⟨w.heap.size, 0, none⟩) N N) /\ gs.length = N /\ copiesDS fs gs /\ Below w.heap.size w w' /\ MD w' w.heap.size N gs := by
 have HN : Hid (fs.length = N) := hN
 clear hN
 obtain ⟨i0, hi, hz0, hz1, hz2⟩ := info_parts Tryz.infoPlnDone
 go_enter Tryz.func84, Tryz.ntmps84
 go_wp2_with (at_make; refine wpList_make_full _ rfl (.tmp 6) (.tmp 6) 43 rfl w.heap.size 219 i0 (.agg #[.int .i64 0, .int .i64 0, .slice none 0 0]) 3 Tryz.underlying43 hi hz0 hz1 .i64 .i64 _ _ N rfl rfl rfl rfl (by rw [hz2]; omega) (by unfold maxLen; omega) (qK _) ?_; intro w1 hown hgrow)
 have hb1 : Below w.heap.size w w1 := (Below.refl _ _).grown hgrow (qK _) (by simp)
 have m0 : MD w1 w.heap.size N [] := by
  rcases hown.2 with ⟨h', _⟩ | ⟨g', cap', cur, h', _, hg, _, _, hcs, htake⟩
  ·simp at h'
  ·simp only [Value.slice.injEq, Option.some.injEq, Addr.mk.injEq, and_true, true_and] at h'
   obtain ⟨rfl, rfl⟩ := h'
   exact ⟨⟨cur.toList, by unfold Cel; rw [hg], by simpa using hcs, fun i hi => by simp at hi⟩, fun i hi => by simp at hi⟩
 clear hown hgrow hi hz0 hz1 hz2
 go_loopw [4] (fun i wr => ∃ k : Nat, k <= N /\ i = .int .i64 k /\ Below w.heap.size w wr /\ ∃ gs, gs.length = k /\ copiesDS fs gs /\ MD wr w.heap.size N gs) (fun i _ => N - (intOf i).toNat)
 case atStart => exact ⟨0, qL _, rfl, hb1, [], rfl, fun i hi => by simp at hi, m0⟩
 case round =>
  clear hb1 m0
  obtain ⟨k, hk, rfl, hb, ts, hts, hcp, hm⟩ := hrel
  have HTS : Hid (ts.length = k) := hts
  have HCP : Hid (copiesDS fs ts) := hcp
  clear hts hcp
  by_cases hlt : k < N
  ·obtain ⟨b, off, rfl, hc, hr⟩ := (hF.below hb) k (by rw [HN.out]; exact hlt)
   generalize HG : fs[k]?.getD noD = g at *
   have HG' : Hid (fs[k]?.getD noD = g) := HG
   clear HG hF
   obtain ⟨e0, e1, e2⟩ := cellsD hc
   obtain ⟨gq, gc, ⟨gta, gtn, gtc, gtx⟩⟩ := g
   have e0' : wr.cell? ⟨b, off + k * 3, none⟩ = some (.int .i64 gq) := e0
   have e1' : wr.cell? ⟨b, off + k * 3 + 1, none⟩ = some (.int .i64 gc) := e1
   have e2' : wr.cell? ⟨b, off + k * 3 + 2, none⟩ = some (.slice gta gtn gtc) := e2
   clear e0 e1 e2 hc
   go_wp2_with fail
   refine (toD_ex gtx hr).mono ?_
   rintro ee w2 ⟨Pt, Qt, rfl, b2, hK, hcp2⟩
   have ms := hm.step HTS.out hlt b2 hK
   obtain ⟨vs, v1, v2, v3⟩ := (hm.below b2).c
   have hx : ∀ r, r < 3 -> ∃ x, w2.cell? ⟨w.heap.size, k * 3 + r, none⟩ = some x := fun r hr => ⟨_, (v1.cell (k * 3 + r)).trans (qA (by rw [v2]; omega))⟩
   obtain ⟨x0, y0⟩ := hx 0 (by omega)
   obtain ⟨x1, y1⟩ := hx 1 (by omega)
   obtain ⟨x2, y2⟩ := hx 2 (by omega)
   simp only [Nat.add_zero] at y0
   have f0 := v1.free (k * 3)
   have f1 := v1.free (k * 3 + 1)
   have f2 := v1.free (k * 3 + 2)
   have hb2 := btq hb b2
   have RB := (((hb2.setCell (p := ⟨w.heap.size, k * 3, none⟩) (qK _) (.int .i64 gq)).setCell (p := ⟨w.heap.size, k * 3 + 1, none⟩) (qK _) (.int .i64 gc)).setCell (p := ⟨w.heap.size, k * 3 + 2, none⟩) (qK _) (.slice Pt gtn gtn))
   have CP : copiesDS fs (ts ++ [⟨gq, gc, ⟨Pt, gtn, gtn, Qt⟩⟩]) := fun i hi => by
    rw [qD, HTS.out] at hi
    simp only [qI, qJ] at hi
    by_cases e : i = k
    ·subst e
     rw [qE (by rw [HTS.out]; exact qK _), HTS.out, HG'.out]
     simpa using hcp2
    ·rw [qF (by rw [HTS.out]; omega)]
     exact HCP.out i (by rw [HTS.out]; omega)
   have HCP2 : Hid _ := CP
   clear hm b2 hb hb2 v1 v2 v3 hx CP hr hcp2 hK
   go_wp2
   go_roundw
   case rel => exact ⟨k + 1, by omega, by go_num, RB, _, by rw [qD, HTS.out]; rfl, HCP2.out, ms⟩
   case measure => simp [intOf]; omega
  ·obtain rfl : k = N := by omega
   go_wp2
   go_ret
   exact ⟨ts, rfl, HTS.out, HCP.out, hb, hm⟩
theorem eqDS_same (fs gs : List DV) {w : World} (hN : fs.length = N) (hM : gs.length = N) (hF : DSG w ad fs) (hG : DSG w ae gs) (hN1 : N <= 1048576)
  (hsame : ∀ i, i < N -> sameD (fs[i]?.getD noD) (gs[i]?.getD noD)) :
  Calls Tryz.prog 89 #[.slice ad N cap, .slice ae N cap'] w fun e w' => e = .returned (.bool true) /\ Below w.heap.size w w' := by
 have HN : Hid (fs.length = N) := hN
 have HM : Hid (gs.length = N) := hM
 have HS : Hid _ := hsame
 clear hN hM hsame
 go_enter Tryz.func89, Tryz.ntmps89
 go_wp2_with fail
 go_loopw [5] (fun i wr => ∃ k : Nat, k <= N /\ i = .int .i64 k /\ Below w.heap.size w wr) (fun i _ => N - (intOf i).toNat)
 case atStart => exact ⟨0, qL _, rfl, Below.refl _ _⟩
 case round =>
  obtain ⟨k, hk, rfl, hb⟩ := hrel
  by_cases hlt : k < N
  ·obtain ⟨b, off, rfl, hc, hr⟩ := (hF.below hb) k (by rw [HN.out]; exact hlt)
   obtain ⟨b', off', rfl, hc', hr'⟩ := (hG.below hb) k (by rw [HM.out]; exact hlt)
   have hs := HS.out k hlt
   generalize HG1 : fs[k]?.getD noD = fe at *
   generalize HG2 : gs[k]?.getD noD = g at *
   clear HG1 HG2 hF hG
   obtain ⟨e0, e1, e2⟩ := cellsD hc
   obtain ⟨feq, fec, ⟨feta, fetn, fetc, fetx⟩⟩ := fe
   have e0' : wr.cell? ⟨b, off + k * 3, none⟩ = some (.int .i64 feq) := e0
   have e1' : wr.cell? ⟨b, off + k * 3 + 1, none⟩ = some (.int .i64 fec) := e1
   have e2' : wr.cell? ⟨b, off + k * 3 + 2, none⟩ = some (.slice feta fetn fetc) := e2
   clear e0 e1 e2 hc
   obtain ⟨d0, d1, d2⟩ := cellsD hc'
   obtain ⟨gq, gc, ⟨gta, gtn, gtc, gtx⟩⟩ := g
   have d0' : wr.cell? ⟨b', off' + k * 3, none⟩ = some (.int .i64 gq) := d0
   have d1' : wr.cell? ⟨b', off' + k * 3 + 1, none⟩ = some (.int .i64 gc) := d1
   have d2' : wr.cell? ⟨b', off' + k * 3 + 2, none⟩ = some (.slice gta gtn gtc) := d2
   clear d0 d1 d2 hc'
   have hlt' : (k : Int) < (N : Int) := by omega
   go_wp2_with fail
   go_region_with (first | (go_at_call 172; refine (eqD_ex fetx gtx (by exact hr.below (Below.refl _ _).drew) (by exact hr'.below (Below.refl _ _).drew) hs).mono ?_; rintro ee w1 ⟨rfl, b1⟩))
   all_goals
    have b1' := below_of_drew b1
    go_wp2
    go_roundw
    case rel => exact ⟨k + 1, by omega, by go_num, btq hb b1'⟩
    case measure => simp [intOf]; omega
  ·go_wp2
   go_ret
   exact ⟨rfl, hb⟩
def QSM (w : World) (ad : Option Addr) (fs : List QV) : Prop :=
 ∀ i, i < fs.length -> ∃ b off, ad = some ⟨b, off, none⟩ /\ (∀ r, r < 4 -> w.cell? ⟨b, off + i * 4 + r, none⟩ = (fs[i]?.getD noQ).cs[r]?) /\ QM w (fs[i]?.getD noQ)
theorem QSM.below {fs : List QV} (h : QSM w ad fs) (hb : Below w.heap.size w w') : QSM w' ad fs := fun i hi => by
 obtain ⟨b, off, e, hc, hr⟩ := h i hi
 have hl : b < w.heap.size := block_lt (v := ((fs[i]?.getD noQ).cs[0]?).getD (.bool false)) ((hc 0 (by omega)).trans rfl)
 exact ⟨b, off, e, fun r hr => by rw [hb.cell (p := ⟨b, off + i * 4 + r, none⟩) hl]; exact hc r hr, hr.below hb⟩
def QSG (w : World) (ad : Option Addr) (fs : List QV) : Prop :=
 ∀ i, i < fs.length -> ∃ b off, ad = some ⟨b, off, none⟩ /\ (∀ r, r < 4 -> w.cell? ⟨b, off + i * 4 + r, none⟩ = (fs[i]?.getD noQ).cs[r]?) /\ QG w (fs[i]?.getD noQ)
theorem QSG.below {fs : List QV} (h : QSG w ad fs) (hb : Below w.heap.size w w') : QSG w' ad fs := fun i hi => by
 obtain ⟨b, off, e, hc, hr⟩ := h i hi
 have hl : b < w.heap.size := block_lt (v := ((fs[i]?.getD noQ).cs[0]?).getD (.bool false)) ((hc 0 (by omega)).trans rfl)
 exact ⟨b, off, e, fun r hr => by rw [hb.cell (p := ⟨b, off + i * 4 + r, none⟩) hl]; exact hc r hr, hr.below hb⟩
theorem QSM.g {fs : List QV} (h : QSM w ad fs) (hs : ∀ i, i < fs.length -> QZ (fs[i]?.getD noQ)) : QSG w ad fs := fun i hi => by
 obtain ⟨b, off, e, hc, hr⟩ := h i hi
 exact ⟨b, off, e, hc, hr.g (hs i hi)⟩
theorem cellsQ {b : Nat} {f : QV} (h : ∀ r, r < 4 -> w.cell? ⟨b, o + r, none⟩ = f.cs[r]?) : w.cell? ⟨b, o, none⟩ = some (.int .i64 f.x) /\ w.cell? ⟨b, o + 1, none⟩ = some (.int .i64 f.q) /\ w.cell? ⟨b, o + 2, none⟩ = some (.int .i64 f.c) /\ w.cell? ⟨b, o + 3, none⟩ = some (f.t.v) := ⟨h 0 (by omega), h 1 (by omega), h 2 (by omega), h 3 (by omega)⟩
theorem open_QS {H : Type} {enc : TypeId × Value -> H} {v : Value} {y : DataW H × List MemPlace}
  (hf : DataW.trod enc Tryz.prog W 0 (fun _ => true) true fuel 28 [v] = some y) :
  ∃ ad N cap fs, v = .slice ad N cap /\ fs.length = N /\ QSM W ad fs /\ N <= maxLen := by
 obtain ⟨ad, N, cap, fs, hv, hl, hN, hall⟩ := open_sliceC noQ QV.cs (fun f => QM W f) (c := 4) (by omega) Tryz.underlying28 (by kernel_rfl) (fun _ => rfl) (fun fuel cs x hx => open_QC hx) hf
 exact ⟨ad, N, cap, fs, hv, hl, hall, hN⟩
theorem szQS_any (fs : List QV) {l : Int} {w : World} (hN : fs.length = N) (hF : QSM w ad fs) (hN1 : N <= maxLen) (h0 : 0 <= l) (hl : l <= 1048576) :
  Calls Tryz.prog 78 #[.slice ad N cap, .int .i64 l] w fun e w' => ∃ r, e = .returned (.int .i64 r) /\ -1 <= r /\ r <= 1048576 /\ (0 <= r -> N <= 1048576 /\ ∀ i, i < fs.length -> QZ (fs[i]?.getD noQ)) /\ Below w.heap.size w w' := by
 have HN : Hid (fs.length = N) := hN
 clear hN
 unfold maxLen at hN1
 by_cases h : l < N
 ·go_enter Tryz.func78, Tryz.ntmps78
  go_wp2
  go_ret
  exact ⟨-1, rfl, by omega, by omega, fun h => by omega, Below.refl _ _⟩
 ·have hN2 : N <= 1048576 := by omega
  have h' : (N : Int) <= l := by omega
  go_enter Tryz.func78, Tryz.ntmps78
  go_wp2_with fail
  go_loopw [1, 5] (fun lv i wr => ∃ k : Nat, k <= N /\ i = .int .i64 k /\ ∃ x : Int, lv = .int .i64 x /\ 0 <= x /\ x <= 1048576 /\ Below w.heap.size w wr /\ ∀ i, i < k -> QZ (fs[i]?.getD noQ)) (fun _ i _ => N - (intOf i).toNat)
  case atStart => exact ⟨0, qL _, rfl, _, rfl, by omega, by omega, Below.refl _ _, fun i hi => by omega⟩
  case round =>
   obtain ⟨k, hk, rfl, x, rfl, hx0, hx1, hb, hall⟩ := hrel
   have HA : Hid _ := hall
   clear hall
   by_cases hlt : k < N
   ·obtain ⟨b, off, rfl, hc, hr⟩ := (hF.below hb) k (by rw [HN.out]; exact hlt)
    generalize HG : fs[k]?.getD noQ = g at *
    have HG' : Hid (fs[k]?.getD noQ = g) := HG
    clear HG hF
    obtain ⟨e0, e1, e2, e3⟩ := cellsQ hc
    obtain ⟨gx, gq, gc, ⟨gta, gtn, gtc, gtx⟩⟩ := g
    have e0' : wr.cell? ⟨b, off + k * 4, none⟩ = some (.int .i64 gx) := e0
    have e1' : wr.cell? ⟨b, off + k * 4 + 1, none⟩ = some (.int .i64 gq) := e1
    have e2' : wr.cell? ⟨b, off + k * 4 + 2, none⟩ = some (.int .i64 gc) := e2
    have e3' : wr.cell? ⟨b, off + k * 4 + 3, none⟩ = some (.slice gta gtn gtc) := e3
    clear e0 e1 e2 e3 hc
    go_wp2_with fail
    refine (szQ_ex gtx hr hx0 hx1).mono ?_
    rintro e w1 ⟨r, rfl, r0, r1, r2, b1⟩
    by_cases hz : r < 0
    ·go_wp2
     go_ret
     exact ⟨-1, rfl, by omega, by omega, fun h => by omega, btq hb b1⟩
    ·have hz0 : 0 <= r := by omega
     have HA2 : Hid (∀ i, i < k + 1 -> QZ (fs[i]?.getD noQ)) := fun i hi => by
      by_cases hik : i < k
      ·exact HA.out i hik
      ·obtain rfl : i = k := by omega
       rw [HG'.out]; exact r2 hz0
     clear r2
     go_wp2
     go_roundw
     case rel => exact ⟨k + 1, by omega, by go_num, _, rfl, hz0, r1, btq hb b1, HA2.out⟩
     case measure => simp [intOf]; omega
   ·obtain rfl : k = N := by omega
    go_wp2
    go_ret
    exact ⟨x, rfl, by omega, by omega, fun _ => ⟨hN2, fun i hi => HA.out i (by rw [<- HN.out]; exact hi)⟩, hb⟩
def putQ (vs : List Value) (o : Nat) (x0 x1 x2 x3 : Value) : List Value := ((((vs.set o x0).set (o + 1) x1).set (o + 2) x2).set (o + 3) x3)
theorem putQ_len (vs : List Value) (o : Nat) (x0 x1 x2 x3 : Value) : (putQ vs o x0 x1 x2 x3).length = vs.length := by simp [putQ]
theorem putQ_ne {x3 : Value} {j : Nat} (h : j < o \/ o + 4 <= j) : (putQ vs o x0 x1 x2 x3)[j]? = vs[j]? := by
 unfold putQ
 rw [qC (by omega), qC (by omega), qC (by omega), qC (by omega)]
theorem putQ_at {x3 : Value} (h : o + 4 <= vs.length) (r : Nat) (hr : r < 4) : (putQ vs o x0 x1 x2 x3)[o + r]? = [x0, x1, x2, x3][r]? := by
 have hcase : r = 0 \/ r = 1 \/ r = 2 \/ r = 3 := by omega
 unfold putQ
 rcases hcase with rfl | rfl | rfl | rfl
 ·simp only [Nat.add_zero]
  rw [qC (by omega), qC (by omega), qC (by omega), qH (by omega)]; rfl
 ·rw [qC (by omega), qC (by omega), qH (by simp; omega)]; rfl
 ·rw [qC (by omega), qH (by simp; omega)]; rfl
 ·rw [qH (by simp; omega)]; rfl
structure MQ (W : World) (B N : Nat) (gs : List QV) : Prop where
 c : ∃ vs : List Value, Cel W B vs 106 /\ vs.length = N * 4 /\ ∀ i, i < gs.length -> ∀ r, r < 4 -> vs[i * 4 + r]? = (gs[i]?.getD noQ).cs[r]?
 l : ∀ i, i < gs.length -> QK W (B + 1) (gs[i]?.getD noQ)
theorem MQ.lt {gs : List QV} (h : MQ W B N gs) : B < W.heap.size := by
 obtain ⟨vs, h1, _⟩ := h.c
 exact h1.lt
theorem MQ.below {gs : List QV} (h : MQ W B N gs) (b : Below W.heap.size W W') : MQ W' B N gs := by
 obtain ⟨vs, h1, h2, h3⟩ := h.c
 exact ⟨⟨vs, h1.below b, h2, h3⟩, fun i hi => (h.l i hi).below b⟩
theorem MQ.g {gs : List QV} (h : MQ W B N gs) : QSG W (some ⟨B, 0, none⟩) gs := fun i hi => by
 obtain ⟨vs, h1, h2, h3⟩ := h.c
 exact ⟨B, 0, rfl, fun r hr => by rw [Nat.zero_add, h1.cell, h3 i hi r hr], (h.l i hi).g⟩
theorem MQ.touch {gs : List QV} (h : MQ W B N gs) (t : Touch S W W') (hs : ∀ k, S k -> k < B) : MQ W' B N gs := by
 obtain ⟨vs, h1, h2, h3⟩ := h.c
 exact ⟨⟨vs, h1.touch t (fun hh => by have := hs _ hh; omega), h2, h3⟩, fun i hi => (h.l i hi).touch t (fun k hk => by have := hs _ hk; omega)⟩
theorem MQ.setLow {gs : List QV} (h : MQ W B N gs) {X : Nat} (hX : X < B) (i : Nat) (v : Value) : MQ (W.setCell ⟨X, i, none⟩ v) B N gs := h.touch (S := fun x => x = X) (Touch.setCell (S := fun x => x = X) (Touch.refl _ _) rfl _) (fun k hk => by omega)
theorem MQ.step {gs : List QV} {gx : Int} {gq : Int} {gc : Int} {Pt : Option Addr} {gtn : Nat} {Qt : List Int} (h : MQ W B N gs) (hk : gs.length = k) (hkN : k < N) (b : Below W.heap.size W W1) (hs : QK W1 W.heap.size ⟨gx, gq, gc, ⟨Pt, gtn, gtn, Qt⟩⟩) :
  MQ ((((W1.setCell ⟨B, k * 4, none⟩ (.int .i64 gx)).setCell ⟨B, k * 4 + 1, none⟩ (.int .i64 gq)).setCell ⟨B, k * 4 + 2, none⟩ (.int .i64 gc)).setCell ⟨B, k * 4 + 3, none⟩ (.slice Pt gtn gtn)) B N (gs ++ [⟨gx, gq, gc, ⟨Pt, gtn, gtn, Qt⟩⟩]) := by
 have hB := h.lt
 obtain ⟨vs, h1, h2, h3⟩ := (h.below b).c
 have T : Touch (fun x => x = B) W1 ((((W1.setCell ⟨B, k * 4, none⟩ (.int .i64 gx)).setCell ⟨B, k * 4 + 1, none⟩ (.int .i64 gq)).setCell ⟨B, k * 4 + 2, none⟩ (.int .i64 gc)).setCell ⟨B, k * 4 + 3, none⟩ (.slice Pt gtn gtn)) := ((((Touch.refl (fun x => x = B) W1).setCell rfl _).setCell rfl _).setCell rfl _).setCell rfl _
 refine ⟨⟨putQ vs (k * 4) (.int .i64 gx) (.int .i64 gq) (.int .i64 gc) (.slice Pt gtn gtn), ((((h1).set _ _).set _ _).set _ _).set _ _, by rw [putQ_len]; exact h2, fun i hi r hr => ?_⟩, fun i hi => ?_⟩
 ·rw [qD, hk] at hi
  simp only [qI, qJ] at hi
  by_cases e : i = k
  ·subst e
   rw [putQ_at (by rw [h2]; omega) r hr, qE (by omega), hk]
   simp [QV.cs, IV.v]
  ·rw [putQ_ne (by omega), qF (by omega)]
   exact h3 i (by omega) r hr
 ·rw [qD, hk] at hi
  simp only [qI, qJ] at hi
  by_cases e : i = k
  ·subst e
   rw [qE (by omega), hk]
   simp only [Nat.sub_self, qB, Option.getD_some]
   exact (hs.mono (by omega)).touch T (fun x hx => by omega)
  ·rw [qF (by omega)]
   exact ((h.l i (by omega)).below b).touch T (fun x hx => by omega)
def copiesQS (fs gs : List QV) : Prop := ∀ i, i < gs.length -> copiesQ (fs[i]?.getD noQ) (gs[i]?.getD noQ)
theorem Tryz.infoPlnCall : (Tryz.prog.info? 106).map (fun i => (i.zero, i.size, i.bytes)) = some (some (.agg #[.int .i64 0, .int .i64 0, .int .i64 0, .slice none 0 0]), 4, 48) := by kernel_rfl
theorem toQS_any (fs : List QV) {w : World} (hN : fs.length = N) (hF : QSG w ad fs) (hN1 : N <= 1048576) :
  Calls Tryz.prog 85 #[.slice ad N cap] w fun e w' => ∃ gs, e = .returned (.slice (some ⟨w.heap.size, 0, none⟩) N N) /\ gs.length = N /\ copiesQS fs gs /\ Below w.heap.size w w' /\ MQ w' w.heap.size N gs := by
 have HN : Hid (fs.length = N) := hN
 clear hN
 obtain ⟨i0, hi, hz0, hz1, hz2⟩ := info_parts Tryz.infoPlnCall
 go_enter Tryz.func85, Tryz.ntmps85
 go_wp2_with (at_make; refine wpList_make_full _ rfl (.tmp 6) (.tmp 6) 44 rfl w.heap.size 106 i0 (.agg #[.int .i64 0, .int .i64 0, .int .i64 0, .slice none 0 0]) 4 Tryz.underlying44 hi hz0 hz1 .i64 .i64 _ _ N rfl rfl rfl rfl (by rw [hz2]; omega) (by unfold maxLen; omega) (qK _) ?_; intro w1 hown hgrow)
 have hb1 : Below w.heap.size w w1 := (Below.refl _ _).grown hgrow (qK _) (by simp)
 have m0 : MQ w1 w.heap.size N [] := by
  rcases hown.2 with ⟨h', _⟩ | ⟨g', cap', cur, h', _, hg, _, _, hcs, htake⟩
  ·simp at h'
  ·simp only [Value.slice.injEq, Option.some.injEq, Addr.mk.injEq, and_true, true_and] at h'
   obtain ⟨rfl, rfl⟩ := h'
   exact ⟨⟨cur.toList, by unfold Cel; rw [hg], by simpa using hcs, fun i hi => by simp at hi⟩, fun i hi => by simp at hi⟩
 clear hown hgrow hi hz0 hz1 hz2
 go_loopw [4] (fun i wr => ∃ k : Nat, k <= N /\ i = .int .i64 k /\ Below w.heap.size w wr /\ ∃ gs, gs.length = k /\ copiesQS fs gs /\ MQ wr w.heap.size N gs) (fun i _ => N - (intOf i).toNat)
 case atStart => exact ⟨0, qL _, rfl, hb1, [], rfl, fun i hi => by simp at hi, m0⟩
 case round =>
  clear hb1 m0
  obtain ⟨k, hk, rfl, hb, ts, hts, hcp, hm⟩ := hrel
  have HTS : Hid (ts.length = k) := hts
  have HCP : Hid (copiesQS fs ts) := hcp
  clear hts hcp
  by_cases hlt : k < N
  ·obtain ⟨b, off, rfl, hc, hr⟩ := (hF.below hb) k (by rw [HN.out]; exact hlt)
   generalize HG : fs[k]?.getD noQ = g at *
   have HG' : Hid (fs[k]?.getD noQ = g) := HG
   clear HG hF
   obtain ⟨e0, e1, e2, e3⟩ := cellsQ hc
   obtain ⟨gx, gq, gc, ⟨gta, gtn, gtc, gtx⟩⟩ := g
   have e0' : wr.cell? ⟨b, off + k * 4, none⟩ = some (.int .i64 gx) := e0
   have e1' : wr.cell? ⟨b, off + k * 4 + 1, none⟩ = some (.int .i64 gq) := e1
   have e2' : wr.cell? ⟨b, off + k * 4 + 2, none⟩ = some (.int .i64 gc) := e2
   have e3' : wr.cell? ⟨b, off + k * 4 + 3, none⟩ = some (.slice gta gtn gtc) := e3
   clear e0 e1 e2 e3 hc
   go_wp2_with fail
   refine (toQ_ex gtx hr).mono ?_
   rintro ee w2 ⟨Pt, Qt, rfl, b2, hK, hcp2⟩
   have ms := hm.step HTS.out hlt b2 hK
   obtain ⟨vs, v1, v2, v3⟩ := (hm.below b2).c
   have hx : ∀ r, r < 4 -> ∃ x, w2.cell? ⟨w.heap.size, k * 4 + r, none⟩ = some x := fun r hr => ⟨_, (v1.cell (k * 4 + r)).trans (qA (by rw [v2]; omega))⟩
   obtain ⟨x0, y0⟩ := hx 0 (by omega)
   obtain ⟨x1, y1⟩ := hx 1 (by omega)
   obtain ⟨x2, y2⟩ := hx 2 (by omega)
   obtain ⟨x3, y3⟩ := hx 3 (by omega)
   simp only [Nat.add_zero] at y0
   have f0 := v1.free (k * 4)
   have f1 := v1.free (k * 4 + 1)
   have f2 := v1.free (k * 4 + 2)
   have f3 := v1.free (k * 4 + 3)
   have hb2 := btq hb b2
   have RB := ((((hb2.setCell (p := ⟨w.heap.size, k * 4, none⟩) (qK _) (.int .i64 gx)).setCell (p := ⟨w.heap.size, k * 4 + 1, none⟩) (qK _) (.int .i64 gq)).setCell (p := ⟨w.heap.size, k * 4 + 2, none⟩) (qK _) (.int .i64 gc)).setCell (p := ⟨w.heap.size, k * 4 + 3, none⟩) (qK _) (.slice Pt gtn gtn))
   have CP : copiesQS fs (ts ++ [⟨gx, gq, gc, ⟨Pt, gtn, gtn, Qt⟩⟩]) := fun i hi => by
    rw [qD, HTS.out] at hi
    simp only [qI, qJ] at hi
    by_cases e : i = k
    ·subst e
     rw [qE (by rw [HTS.out]; exact qK _), HTS.out, HG'.out]
     simpa using hcp2
    ·rw [qF (by rw [HTS.out]; omega)]
     exact HCP.out i (by rw [HTS.out]; omega)
   have HCP2 : Hid _ := CP
   clear hm b2 hb hb2 v1 v2 v3 hx CP hr hcp2 hK
   go_wp2
   go_roundw
   case rel => exact ⟨k + 1, by omega, by go_num, RB, _, by rw [qD, HTS.out]; rfl, HCP2.out, ms⟩
   case measure => simp [intOf]; omega
  ·obtain rfl : k = N := by omega
   go_wp2
   go_ret
   exact ⟨ts, rfl, HTS.out, HCP.out, hb, hm⟩
theorem eqQS_same (fs gs : List QV) {w : World} (hN : fs.length = N) (hM : gs.length = N) (hF : QSG w ad fs) (hG : QSG w ae gs) (hN1 : N <= 1048576)
  (hsame : ∀ i, i < N -> sameQ (fs[i]?.getD noQ) (gs[i]?.getD noQ)) :
  Calls Tryz.prog 90 #[.slice ad N cap, .slice ae N cap'] w fun e w' => e = .returned (.bool true) /\ Below w.heap.size w w' := by
 have HN : Hid (fs.length = N) := hN
 have HM : Hid (gs.length = N) := hM
 have HS : Hid _ := hsame
 clear hN hM hsame
 go_enter Tryz.func90, Tryz.ntmps90
 go_wp2_with fail
 go_loopw [5] (fun i wr => ∃ k : Nat, k <= N /\ i = .int .i64 k /\ Below w.heap.size w wr) (fun i _ => N - (intOf i).toNat)
 case atStart => exact ⟨0, qL _, rfl, Below.refl _ _⟩
 case round =>
  obtain ⟨k, hk, rfl, hb⟩ := hrel
  by_cases hlt : k < N
  ·obtain ⟨b, off, rfl, hc, hr⟩ := (hF.below hb) k (by rw [HN.out]; exact hlt)
   obtain ⟨b', off', rfl, hc', hr'⟩ := (hG.below hb) k (by rw [HM.out]; exact hlt)
   have hs := HS.out k hlt
   generalize HG1 : fs[k]?.getD noQ = fe at *
   generalize HG2 : gs[k]?.getD noQ = g at *
   clear HG1 HG2 hF hG
   obtain ⟨e0, e1, e2, e3⟩ := cellsQ hc
   obtain ⟨fex, feq, fec, ⟨feta, fetn, fetc, fetx⟩⟩ := fe
   have e0' : wr.cell? ⟨b, off + k * 4, none⟩ = some (.int .i64 fex) := e0
   have e1' : wr.cell? ⟨b, off + k * 4 + 1, none⟩ = some (.int .i64 feq) := e1
   have e2' : wr.cell? ⟨b, off + k * 4 + 2, none⟩ = some (.int .i64 fec) := e2
   have e3' : wr.cell? ⟨b, off + k * 4 + 3, none⟩ = some (.slice feta fetn fetc) := e3
   clear e0 e1 e2 e3 hc
   obtain ⟨d0, d1, d2, d3⟩ := cellsQ hc'
   obtain ⟨gx, gq, gc, ⟨gta, gtn, gtc, gtx⟩⟩ := g
   have d0' : wr.cell? ⟨b', off' + k * 4, none⟩ = some (.int .i64 gx) := d0
   have d1' : wr.cell? ⟨b', off' + k * 4 + 1, none⟩ = some (.int .i64 gq) := d1
   have d2' : wr.cell? ⟨b', off' + k * 4 + 2, none⟩ = some (.int .i64 gc) := d2
   have d3' : wr.cell? ⟨b', off' + k * 4 + 3, none⟩ = some (.slice gta gtn gtc) := d3
   clear d0 d1 d2 d3 hc'
   have hlt' : (k : Int) < (N : Int) := by omega
   go_wp2_with fail
   go_region_with (first | (go_at_call 173; refine (eqQ_ex fetx gtx (by exact hr.below (Below.refl _ _).drew) (by exact hr'.below (Below.refl _ _).drew) hs).mono ?_; rintro ee w1 ⟨rfl, b1⟩))
   all_goals
    have b1' := below_of_drew b1
    go_wp2
    go_roundw
    case rel => exact ⟨k + 1, by omega, by go_num, btq hb b1'⟩
    case measure => simp [intOf]; omega
  ·go_wp2
   go_ret
   exact ⟨rfl, hb⟩
structure L2V where
 a : Option Addr
 n : Nat
 cap : Nat
 x : List LV
def noL : L2V := ⟨none, 0, 0, []⟩
def L2V.v (s : L2V) : Value := .slice s.a s.n s.cap
theorem trod_lenL {H : Type} {enc : TypeId × Value -> H} {t e : TypeId} {cs : List Value} {x : DataW H × List MemPlace} (hS : Tryz.prog.underlying t = some (.slice e)) (hf : DataW.trod enc Tryz.prog W 0 (fun _ => true) true fuel t cs = some x) : cs.length = 1 := by
 rcases open_slice hS hf with ⟨h, _⟩ | ⟨a, len, cap, m, n, D, Pl, h, _⟩ <;> rw [h] <;> rfl
def LM (w : World) (s : L2V) : Prop := s.x.length = s.n /\ LinesM w s.a s.x /\ s.n <= maxLen
def LG (w : World) (s : L2V) : Prop := s.x.length = s.n /\ LinesG w s.a s.x /\ s.n <= 1048576
def LS (s : L2V) : Prop := s.n <= 1048576 /\ ∀ i, i < s.x.length -> (s.x[i]?.getD noLV).f.n <= 1048576 /\ (s.x[i]?.getD noLV).f.m <= 1048576
def LK (w : World) (lo : Nat) (s : L2V) : Prop := ∃ B l p q, s.a = some ⟨B, 0, none⟩ /\ lo <= B /\ ML w B l s.n s.x p q /\ s.x.length = s.n /\ s.n <= 1048576
def copiesL2 (s t : L2V) : Prop := t.n = s.n /\ t.x.length = s.x.length /\ copiesL s.x t.x
def sameL2 (s t : L2V) : Prop := s.n = t.n /\ ∀ i, i < s.n -> sameL (s.x[i]?.getD noLV) (t.x[i]?.getD noLV)
theorem LM.below {s : L2V} (h : LM w s) (hb : Below w.heap.size w w') : LM w' s := ⟨h.1, h.2.1.below hb, h.2.2⟩
theorem LG.below {s : L2V} (h : LG w s) (hb : Below w.heap.size w w') : LG w' s := ⟨h.1, h.2.1.below hb, h.2.2⟩
theorem LM.g {s : L2V} (h : LM w s) (hs : LS s) : LG w s := ⟨h.1, h.2.1.g hs.2, hs.1⟩
theorem ML.touch {gs : List LV} {p q : Nat -> Nat} (h : ML W B lo N gs p q) (t : Touch S W W') (hs : ∀ k, S k -> k < B) : ML W' B lo N gs p q := by
 obtain ⟨vs, h1, h2, h3⟩ := h.c
 have hb := h.b
 refine ⟨⟨vs, by rw [t.block B (lt_of_block h1) (fun hh => by have := hs _ hh; omega)]; exact h1, h2, h3⟩, fun i hi => ?_, h.b, Nat.le_trans h.s t.size⟩
 obtain ⟨a2, a3, a4, a5, a6, a7, a8, a9, a10, a11, a12, a13⟩ := h.l i hi
 have k1 : Blk W' (p i) (gs[i]?.getD noLV).f.C := by unfold Blk at *; rw [t.block _ (lt_of_block a4) (fun hh => by have := hs _ hh; omega)]; exact a4
 have k2 : Blk W' (q i) (gs[i]?.getD noLV).f.D := by unfold Blk at *; rw [t.block _ (lt_of_block a5) (fun hh => by have := hs _ hh; omega)]; exact a5
 exact ⟨a2, a3, k1, k2, a6, a7, a8, a9, a10, a11, Nat.lt_of_lt_of_le a12 t.size, a13⟩
theorem LK.below {s : L2V} (h : LK w lo s) (hb : Below w.heap.size w w') : LK w' lo s := by
 obtain ⟨B, l, p, q, h1, h2, h3, h4⟩ := h
 exact ⟨B, l, p, q, h1, h2, h3.below hb, h4⟩
theorem LK.touch {s : L2V} (h : LK w lo s) (t : Touch S w w') (hs : ∀ k, S k -> k < lo) : LK w' lo s := by
 obtain ⟨B, l, p, q, h1, h2, h3, h4⟩ := h
 exact ⟨B, l, p, q, h1, h2, h3.touch t (fun k hk => by have := hs k hk; omega), h4⟩
theorem LK.mono {lo' : Nat} {s : L2V} (h : LK w lo s) (hl : lo' <= lo) : LK w lo' s := by
 obtain ⟨B, l, p, q, h1, h2, h3⟩ := h
 exact ⟨B, l, p, q, h1, by omega, h3⟩
theorem LK.g {s : L2V} (h : LK w lo s) : LG w s := by
 obtain ⟨B, l, p, q, h1, h2, h3, h4, h5⟩ := h
 refine ⟨h4, ?_, h5⟩
 rw [h1]; exact h3.g
theorem open_L1 {H : Type} {enc : TypeId × Value -> H} {v : Value} {y : DataW H × List MemPlace}
  (hf : DataW.trod enc Tryz.prog W 0 (fun _ => true) true fuel 207 [v] = some y) : ∃ s : L2V, v = s.v /\ LM W s := by
 obtain ⟨a, n, cap, zs, rfl, h1, h2, h3⟩ := open_linesC hf
 exact ⟨⟨a, n, cap, zs⟩, rfl, h1, h2, h3⟩
theorem szL_ex (x : List LV) {l : Int} {w : World} (h : LM w ⟨a, n, cap, x⟩) (h0 : 0 <= l) (hl : l <= 1048576) :
  Calls Tryz.prog 159 #[.slice a n cap, .int .i64 l] w fun e w' => ∃ r, e = .returned (.int .i64 r) /\ -1 <= r /\ r <= 1048576 /\ (0 <= r -> LS ⟨a, n, cap, x⟩) /\ Below w.heap.size w w' :=
 szLS_any a n cap x l w h.1 h.2.1 h.2.2 h0 hl
theorem toL_ex (x : List LV) {w : World} (h : LG w ⟨a, n, cap, x⟩) :
  Calls Tryz.prog 165 #[.slice a n cap] w fun e w' => ∃ a2 x2, e = .returned (.slice a2 n n) /\ Below w.heap.size w w' /\ LK w' w.heap.size ⟨a2, n, n, x2⟩ /\ copiesL2 ⟨a, n, cap, x⟩ ⟨a2, n, n, x2⟩ := by
 refine (toLS_any a n cap x w h.1 h.2.1 h.2.2).mono ?_
 rintro e w' ⟨gs, p, q, rfl, h1, h2, b, m⟩
 exact ⟨_, gs, rfl, b, ⟨_, _, p, q, rfl, qK _, m, h1, h.2.2⟩, rfl, by rw [h1]; exact h.1.symm, h2⟩
theorem eqL_ex (x : List LV) {c : Option Addr} {m cap' : Nat} (y : List LV) {w : World} (h : LG w ⟨a, n, cap, x⟩) (h' : LG w ⟨c, m, cap', y⟩) (hs : sameL2 ⟨a, n, cap, x⟩ ⟨c, m, cap', y⟩) :
  Calls Tryz.prog 175 #[.slice a n cap, .slice c m cap'] w fun e w' => e = .returned (.bool true) /\ Below w.heap.size w w' := by
 obtain ⟨h1, h2⟩ := hs
 have h1' : n = m := h1
 subst h1'
 exact eqLS_same a c n cap cap' x y w h.1 h'.1 h.2.1 h'.2.1 h.2.2 h2
def LSM (w : World) (ad : Option Addr) (ss : List L2V) : Prop :=
 ∀ i, i < ss.length -> ∃ b off, ad = some ⟨b, off, none⟩ /\ w.cell? ⟨b, off + i, none⟩ = some (ss[i]?.getD noL).v /\ LM w (ss[i]?.getD noL)
def LSG (w : World) (ad : Option Addr) (ss : List L2V) : Prop :=
 ∀ i, i < ss.length -> ∃ b off, ad = some ⟨b, off, none⟩ /\ w.cell? ⟨b, off + i, none⟩ = some (ss[i]?.getD noL).v /\ LG w (ss[i]?.getD noL)
theorem LSM.below {ss : List L2V} (h : LSM w ad ss) (hb : Below w.heap.size w w') : LSM w' ad ss := fun i hi => by
 obtain ⟨b, off, e, hc, hr⟩ := h i hi
 exact ⟨b, off, e, by rw [hb.cell (p := ⟨b, off + i, none⟩) (block_lt hc)]; exact hc, hr.below hb⟩
theorem LSG.below {ss : List L2V} (h : LSG w ad ss) (hb : Below w.heap.size w w') : LSG w' ad ss := fun i hi => by
 obtain ⟨b, off, e, hc, hr⟩ := h i hi
 exact ⟨b, off, e, by rw [hb.cell (p := ⟨b, off + i, none⟩) (block_lt hc)]; exact hc, hr.below hb⟩
theorem LSM.g {ss : List L2V} (h : LSM w ad ss) (hs : ∀ i, i < ss.length -> LS (ss[i]?.getD noL)) : LSG w ad ss := fun i hi => by
 obtain ⟨b, off, e, hc, hr⟩ := h i hi
 exact ⟨b, off, e, hc, hr.g (hs i hi)⟩
theorem szL2S_any (ss : List L2V) {l : Int} {w : World} (hN : ss.length = N) (hF : LSM w ad ss) (hN1 : N <= maxLen) (h0 : 0 <= l) (hl : l <= 1048576) :
  Calls Tryz.prog 75 #[.slice ad N cap, .int .i64 l] w fun e w' => ∃ r, e = .returned (.int .i64 r) /\ -1 <= r /\ r <= 1048576 /\ (0 <= r -> N <= 1048576 /\ ∀ i, i < ss.length -> LS (ss[i]?.getD noL)) /\ Below w.heap.size w w' := by
 have HN : Hid (ss.length = N) := hN
 clear hN
 unfold maxLen at hN1
 by_cases h : l < N
 ·go_enter Tryz.func75, Tryz.ntmps75
  go_wp2
  go_ret
  exact ⟨-1, rfl, by omega, by omega, fun h => by omega, Below.refl _ _⟩
 ·have hN2 : N <= 1048576 := by omega
  have h' : (N : Int) <= l := by omega
  go_enter Tryz.func75, Tryz.ntmps75
  go_wp2_with fail
  go_loopw [1, 5] (fun lv i wr => ∃ k : Nat, k <= N /\ i = .int .i64 k /\ ∃ x : Int, lv = .int .i64 x /\ 0 <= x /\ x <= 1048576 /\ Below w.heap.size w wr /\ ∀ i, i < k -> LS (ss[i]?.getD noL)) (fun _ i _ => N - (intOf i).toNat)
  case atStart => exact ⟨0, qL _, rfl, _, rfl, by omega, by omega, Below.refl _ _, fun i hi => by omega⟩
  case round =>
   obtain ⟨k, hk, rfl, x, rfl, hx0, hx1, hb, hall⟩ := hrel
   have HA : Hid _ := hall
   clear hall
   by_cases hlt : k < N
   ·obtain ⟨b, off, rfl, hc, hr⟩ := (hF.below hb) k (by rw [HN.out]; exact hlt)
    generalize HG : ss[k]?.getD noL = g at *
    have HG' : Hid (ss[k]?.getD noL = g) := HG
    clear HG hF
    obtain ⟨ga, gn, gcap, gx⟩ := g
    have hc' : wr.cell? ⟨b, off + k, none⟩ = some (.slice ga gn gcap) := hc
    clear hc
    go_wp2_with fail
    refine (szL_ex gx hr hx0 hx1).mono ?_
    rintro e w1 ⟨r, rfl, r0, r1, r2, b1⟩
    by_cases hz : r < 0
    ·go_wp2
     go_ret
     exact ⟨-1, rfl, by omega, by omega, fun h => by omega, btq hb b1⟩
    ·have hz0 : 0 <= r := by omega
     have HA2 : Hid (∀ i, i < k + 1 -> LS (ss[i]?.getD noL)) := fun i hi => by
      by_cases hik : i < k
      ·exact HA.out i hik
      ·obtain rfl : i = k := by omega
       rw [HG'.out]; exact r2 hz0
     clear r2
     go_wp2
     go_roundw
     case rel => exact ⟨k + 1, by omega, by go_num, _, rfl, hz0, r1, btq hb b1, HA2.out⟩
     case measure => simp [intOf]; omega
   ·obtain rfl : k = N := by omega
    go_wp2
    go_ret
    exact ⟨x, rfl, by omega, by omega, fun _ => ⟨hN2, fun i hi => HA.out i (by rw [<- HN.out]; exact hi)⟩, hb⟩
def copiesL2S (ss ts : List L2V) : Prop := ∀ i, i < ts.length -> copiesL2 (ss[i]?.getD noL) (ts[i]?.getD noL)
def InR (lo hi : Nat) (s : L2V) : Prop := (∀ b, s.a = some ⟨b, 0, none⟩ -> lo <= b /\ b < hi) /\ ∀ k, k < s.x.length -> ∀ b, (s.x[k]?.getD noLV).f.c = some ⟨b, 0, none⟩ -> b < hi
theorem LK.inR {s : L2V} (h : LK w lo s) : InR lo w.heap.size s := by
 obtain ⟨B, l, p, q, h1, h2, h3, h4, h5⟩ := h
 refine ⟨fun b e => ?_, fun k hk b e => ?_⟩
 ·rw [h1] at e
  simp only [Option.some.injEq, Addr.mk.injEq, and_true] at e
  have := h3.lt
  omega
 ·obtain ⟨a2, a3, a4, a5, a6, a7, a8, a9, a10, a11, a12, a13⟩ := h3.l k hk
  rw [a3] at e
  simp only [Option.some.injEq, Addr.mk.injEq, and_true] at e
  omega
structure ML2 (W : World) (B N : Nat) (ts : List L2V) : Prop where
 c : ∃ vs : List Value, Cel W B vs 155 /\ vs.length = N /\ ∀ i, i < ts.length -> vs[i]? = some (ts[i]?.getD noL).v
 l : ∀ i, i < ts.length -> LK W (B + 1) (ts[i]?.getD noL)
 d : ∃ c : Nat -> Nat, B < c 0 /\ c ts.length <= W.heap.size /\ ∀ i, i < ts.length -> c i <= c (i + 1) /\ InR (c i) (c (i + 1)) (ts[i]?.getD noL)
theorem ML2.lt {ts : List L2V} (h : ML2 W B N ts) : B < W.heap.size := by
 obtain ⟨vs, h1, _⟩ := h.c
 exact h1.lt
theorem ML2.below {ts : List L2V} (h : ML2 W B N ts) (b : Below W.heap.size W W') : ML2 W' B N ts := by
 obtain ⟨vs, h1, h2, h3⟩ := h.c
 obtain ⟨c, c1, c2, c3⟩ := h.d
 exact ⟨⟨vs, h1.below b, h2, h3⟩, fun i hi => (h.l i hi).below b, c, c1, Nat.le_trans c2 b.size, c3⟩
theorem ML2.g {ts : List L2V} (h : ML2 W B N ts) : LSG W (some ⟨B, 0, none⟩) ts := fun i hi => by
 obtain ⟨vs, h1, h2, h3⟩ := h.c
 exact ⟨B, 0, rfl, by rw [Nat.zero_add, h1.cell i, h3 i hi], (h.l i hi).g⟩
theorem ML2.step {ts : List L2V} {s : L2V} (h : ML2 W B N ts) (hk : ts.length = k) (hkN : k < N) (b : Below W.heap.size W W1) (hs : LK W1 W.heap.size s) : ML2 (W1.setCell ⟨B, k, none⟩ s.v) B N (ts ++ [s]) := by
 have hB := h.lt
 obtain ⟨vs, h1, h2, h3⟩ := (h.below b).c
 have T : Touch (fun x => x = B) W1 (W1.setCell ⟨B, k, none⟩ s.v) := Touch.setCell (S := fun x => x = B) (Touch.refl _ _) rfl _
 refine ⟨⟨vs.set k s.v, h1.set _ _, by rw [List.length_set]; exact h2, fun i hi => ?_⟩, fun i hi => ?_, ?_⟩
 ·rw [qD, hk] at hi
  simp only [qI, qJ] at hi
  by_cases e : i = k
  ·subst e
   rw [qH (by omega), qE (by omega), hk]; simp
  ·rw [qC (by omega), qF (by omega)]
   exact h3 i (by omega)
 ·rw [qD, hk] at hi
  simp only [qI, qJ] at hi
  by_cases e : i = k
  ·subst e
   rw [qE (by omega), hk]
   simp only [Nat.sub_self, qB, Option.getD_some]
   exact (hs.mono (by omega)).touch T (fun x hx => by omega)
  ·rw [qF (by omega)]
   exact (((h.l i (by omega)).below b)).touch T (fun x hx => by omega)
 ·obtain ⟨c, c1, c2, c3⟩ := h.d
  have hb := b.size
  rw [hk] at c2 c3
  refine ⟨fun i => if i <= k then (if i = k then W.heap.size else c i) else W1.heap.size, ?_, ?_, fun i hi => ?_⟩
  ·simp only [qL, if_true]
   split
   ·exact hB
   ·exact c1
  ·rw [qD, hk, size_setCell]
   simp only [qI, qJ]
   rw [if_neg (by omega)]
   exact qK _
  ·rw [qD, hk] at hi
   simp only [qI, qJ] at hi
   dsimp only
   by_cases e : i = k
   ·subst e
    rw [if_pos (qK _), if_pos rfl, if_neg (by omega), qE (by omega), hk]
    simp only [Nat.sub_self, qB, Option.getD_some]
    exact ⟨hb, hs.inR⟩
   ·obtain ⟨d1, d2⟩ := c3 i (by omega)
    rw [if_pos (by omega), if_neg e, if_pos (by omega), qF (by omega)]
    by_cases e2 : i + 1 = k
    ·rw [if_pos e2]
     rw [e2] at d1 d2
     exact ⟨Nat.le_trans d1 c2, ⟨fun b hb => ⟨(d2.1 b hb).1, Nat.lt_of_lt_of_le (d2.1 b hb).2 c2⟩, fun j hj b hb => Nat.lt_of_lt_of_le (d2.2 j hj b hb) c2⟩⟩
    ·rw [if_neg e2]
     exact ⟨d1, d2⟩
theorem Tryz.infoL2 : (Tryz.prog.info? 155).map (fun i => (i.zero, i.size, i.bytes)) = some (some (.slice none 0 0), 1, 24) := by kernel_rfl
theorem toL2S_any (ss : List L2V) {w : World} (hN : ss.length = N) (hF : LSG w ad ss) (hN1 : N <= 1048576) :
  Calls Tryz.prog 82 #[.slice ad N cap] w fun e w' => ∃ ts, e = .returned (.slice (some ⟨w.heap.size, 0, none⟩) N N) /\ ts.length = N /\ copiesL2S ss ts /\ Below w.heap.size w w' /\ ML2 w' w.heap.size N ts := by
 have HN : Hid (ss.length = N) := hN
 clear hN
 obtain ⟨i0, hi, hz0, hz1, hz2⟩ := info_parts Tryz.infoL2
 go_enter Tryz.func82, Tryz.ntmps82
 go_wp2_with (at_make; refine wpList_make_full _ rfl (.tmp 6) (.tmp 6) 39 rfl w.heap.size 155 i0 (.slice none 0 0) 1 Tryz.underlying39 hi hz0 hz1 .i64 .i64 _ _ N rfl rfl rfl rfl (by rw [hz2]; omega) (by unfold maxLen; omega) (qK _) ?_; intro w1 hown hgrow)
 have hb1 : Below w.heap.size w w1 := (Below.refl _ _).grown hgrow (qK _) (by simp)
 have m0 : ML2 w1 w.heap.size N [] := by
  rcases hown.2 with ⟨h', _⟩ | ⟨g', cap', cur, h', _, hg, _, _, hcs, htake⟩
  ·simp at h'
  ·simp only [Value.slice.injEq, Option.some.injEq, Addr.mk.injEq, and_true, true_and] at h'
   obtain ⟨rfl, rfl⟩ := h'
   exact ⟨⟨cur.toList, by unfold Cel; rw [hg], by simpa using hcs, fun i hi => by simp at hi⟩, fun i hi => by simp at hi, fun _ => w.heap.size + 1, Nat.lt_succ_self _, lt_of_block hg, fun i hi => by simp at hi⟩
 clear hown hgrow hi hz0 hz1 hz2
 go_loopw [4] (fun i wr => ∃ k : Nat, k <= N /\ i = .int .i64 k /\ Below w.heap.size w wr /\ ∃ ts, ts.length = k /\ copiesL2S ss ts /\ ML2 wr w.heap.size N ts) (fun i _ => N - (intOf i).toNat)
 case atStart => exact ⟨0, qL _, rfl, hb1, [], rfl, fun i hi => by simp at hi, m0⟩
 case round =>
  clear hb1 m0
  obtain ⟨k, hk, rfl, hb, ts, hts, hcp, hm⟩ := hrel
  have HTS : Hid (ts.length = k) := hts
  have HCP : Hid (copiesL2S ss ts) := hcp
  clear hts hcp
  by_cases hlt : k < N
  ·obtain ⟨b, off, rfl, hc, hr⟩ := (hF.below hb) k (by rw [HN.out]; exact hlt)
   generalize HG : ss[k]?.getD noL = g at *
   have HG' : Hid (ss[k]?.getD noL = g) := HG
   clear HG hF
   obtain ⟨ga, gn, gcap, gx⟩ := g
   have hc' : wr.cell? ⟨b, off + k, none⟩ = some (.slice ga gn gcap) := hc
   clear hc
   go_wp2_with fail
   refine (toL_ex gx hr).mono ?_
   rintro ee w2 ⟨a2, x2, rfl, b2, hK, hcp2⟩
   have ms := hm.step HTS.out hlt b2 hK
   obtain ⟨vs, v1, v2, v3⟩ := (hm.below b2).c
   obtain ⟨y, hy⟩ : ∃ y, w2.cell? ⟨w.heap.size, k, none⟩ = some y := ⟨_, (v1.cell k).trans (qA (by rw [v2]; exact hlt))⟩
   have hfy := v1.free k
   have hb2 := btq hb b2
   have RB := hb2.setCell (p := ⟨w.heap.size, k, none⟩) (qK _) (.slice a2 gn gn)
   have CP : copiesL2S ss (ts ++ [⟨a2, gn, gn, x2⟩]) := fun i hi => by
    rw [qD, HTS.out] at hi
    simp only [qI, qJ] at hi
    by_cases e : i = k
    ·subst e
     rw [qE (by rw [HTS.out]; exact qK _), HTS.out, HG'.out]
     simpa using hcp2
    ·rw [qF (by rw [HTS.out]; omega)]
     exact HCP.out i (by rw [HTS.out]; omega)
   have HCP2 : Hid _ := CP
   have ms' : ML2 (w2.setCell ⟨w.heap.size, k, none⟩ (.slice a2 gn gn)) w.heap.size N (ts ++ [⟨a2, gn, gn, x2⟩]) := ms
   clear hm b2 hb hb2 v1 v2 v3 CP hr hcp2 hK ms
   go_wp2
   go_roundw
   case rel => exact ⟨k + 1, by omega, by go_num, RB, _, by rw [qD, HTS.out]; rfl, HCP2.out, ms'⟩
   case measure => simp [intOf]; omega
  ·obtain rfl : k = N := by omega
   go_wp2
   go_ret
   exact ⟨ts, rfl, HTS.out, HCP.out, hb, hm⟩
theorem eqL2S_same (fs gs : List L2V) {w : World} (hN : fs.length = N) (hM : gs.length = N) (hF : LSG w ad fs) (hG : LSG w ae gs) (hN1 : N <= 1048576)
  (hsame : ∀ i, i < N -> sameL2 (fs[i]?.getD noL) (gs[i]?.getD noL)) :
  Calls Tryz.prog 92 #[.slice ad N cap, .slice ae N cap'] w fun e w' => e = .returned (.bool true) /\ Below w.heap.size w w' := by
 have HN : Hid (fs.length = N) := hN
 have HM : Hid (gs.length = N) := hM
 have HS : Hid _ := hsame
 clear hN hM hsame
 go_enter Tryz.func92, Tryz.ntmps92
 go_wp2_with fail
 go_loopw [5] (fun i wr => ∃ k : Nat, k <= N /\ i = .int .i64 k /\ Below w.heap.size w wr) (fun i _ => N - (intOf i).toNat)
 case atStart => exact ⟨0, qL _, rfl, Below.refl _ _⟩
 case round =>
  obtain ⟨k, hk, rfl, hb⟩ := hrel
  by_cases hlt : k < N
  ·obtain ⟨b, off, rfl, hc, hr⟩ := (hF.below hb) k (by rw [HN.out]; exact hlt)
   obtain ⟨b', off', rfl, hc', hr'⟩ := (hG.below hb) k (by rw [HM.out]; exact hlt)
   have hs := HS.out k hlt
   generalize HG1 : fs[k]?.getD noL = f at *
   generalize HG2 : gs[k]?.getD noL = g at *
   clear HG1 HG2 hF hG
   obtain ⟨fa, fn, fcap, fx⟩ := f
   obtain ⟨ga, gn, gcap, gx⟩ := g
   have d1 : wr.cell? ⟨b, off + k, none⟩ = some (.slice fa fn fcap) := hc
   have d2 : wr.cell? ⟨b', off' + k, none⟩ = some (.slice ga gn gcap) := hc'
   clear hc hc'
   have hlt' : (k : Int) < (N : Int) := by omega
   go_wp2_with fail
   go_region_with (first | (go_at_call 175; refine (eqL_ex fx gx (by exact hr.below (Below.refl _ _).drew) (by exact hr'.below (Below.refl _ _).drew) hs).mono ?_; rintro ee w1 ⟨rfl, b1⟩))
   all_goals
    have b1' := below_of_drew b1
    go_wp2
    go_roundw
    case rel => exact ⟨k + 1, by omega, by go_num, btq hb b1'⟩
    case measure => simp [intOf]; omega
  ·go_wp2
   go_ret
   exact ⟨rfl, hb⟩
theorem copiesL_same {fs gs hs : List LV} (hg : gs.length = N) (hh : hs.length = N) (h1 : copiesL fs gs) (h2 : copiesL fs hs) : ∀ i, i < N -> sameL (gs[i]?.getD noLV) (hs[i]?.getD noLV) := fun i hi => by
 obtain ⟨a1, a2, a3, a4, a5, a6, _⟩ := h1 i (by omega)
 obtain ⟨b1, b2, b3, b4, b5, b6, _⟩ := h2 i (by omega)
 refine ⟨by rw [a1, b1], by rw [a2, b2], by rw [a3, b3], ?_⟩
 rw [a4, a5, a6, b4, b5, b6]
 exact eqF_refl
theorem copiesL_map {α : Type} (P : LV -> α) (hP : ∀ f g : LV, f.kind = g.kind -> f.pot = g.pot -> f.skip = g.skip -> f.f.C = g.f.C -> f.f.D = g.f.D -> f.f.K = g.f.K -> f.f.n = g.f.n -> f.f.m = g.f.m -> P f = P g) {fs gs : List LV} (hl : gs.length = fs.length) (h : copiesL fs gs) : gs.map P = fs.map P := by
 apply List.ext_getElem?
 intro i
 by_cases hi : i < gs.length
 ·obtain ⟨a1, a2, a3, a4, a5, a6, a7, a8⟩ := h i hi
  have := hP _ _ a1 a2 a3 a4 a5 a6 a7 a8
  rw [qA hi, qA (by omega)] at this
  simp only [Option.getD_some] at this
  rw [List.getElem?_map, List.getElem?_map, qA hi, qA (by omega)]
  simp [this]
 ·rw [List.getElem?_eq_none (by simp; omega), List.getElem?_eq_none (by simp; omega)]
theorem copiesL_act {fs gs : List LV} (hl : gs.length = fs.length) (h : copiesL fs gs) : actB N gs = actB N fs := by
 have h1 := copiesL_map LV.ok (fun f g a1 a2 a3 a4 a5 a6 a7 a8 => by simp only [LV.ok, a1, a2, a3, a4, a5, a6, a7, a8]) hl h
 have h2 := copiesL_map LV.tst (fun f g a1 a2 a3 a4 a5 a6 a7 a8 => by simp only [LV.tst, a1]) hl h
 have e1 : ∀ xs : List LV, xs.all LV.ok = (xs.map LV.ok).all id := fun xs => by simp [List.all_map]
 have e2 : ∀ xs : List LV, tests xs = (xs.map LV.tst).countP id := fun xs => by simp [tests, List.countP_map]
 rw [actB, actB, e1, e1, e2, e2, h1, h2]
def L2V.ok (s : L2V) : Bool := actB s.n s.x
def catB (N : Nat) (ss : List L2V) : Bool := inB N 1 4 && ss.all L2V.ok
theorem allC_take_succ {ls : List L2V} (h : k < ls.length) (h1 : (ls.take k).all L2V.ok = true) (h2 : (ls[k]?.getD noL).ok = true) : (ls.take (k + 1)).all L2V.ok = true := by
 rw [List.take_succ_eq_append_getElem h, List.all_append, h1]
 rw [qA h] at h2
 simpa using h2
theorem allC_no {ls : List L2V} (h : k < ls.length) (h2 : (ls[k]?.getD noL).ok = false) : ls.all L2V.ok = false := by
 rw [List.all_eq_false]
 rw [qA h] at h2
 exact ⟨ls[k], List.getElem_mem h, by simpa using h2⟩
theorem scat_any (ss : List L2V) {w : World} (hN : ss.length = N) (hF : LSG w ad ss) (hN1 : N <= 1048576) :
  Calls Tryz.prog 105 #[.slice ad N cap] w fun e w' => e = .returned (.bool (catB N ss)) /\ Below w.heap.size w w' := by
 have HN : Hid (ss.length = N) := hN
 clear hN
 cases hib : inB N 1 4
 ·go_enter Tryz.func105, Tryz.ntmps105
  go_wp2_with fail
  refine (in_any).mono ?_
  rintro e w1 ⟨rfl, rfl⟩
  rw [hib]
  go_wp2
  go_ret
  exact ⟨ret_bool (by rw [catB, hib]; rfl), Below.refl _ _⟩
 go_enter Tryz.func105, Tryz.ntmps105
 go_wp2_with fail
 refine (in_any).mono ?_
 rintro e w1 ⟨rfl, hw1⟩
 rw [hib, hw1]
 clear hw1
 go_wp2_with fail
 have HCB : Hid (catB N ss = ss.all L2V.ok) := by show catB N ss = _; rw [catB, hib]; rfl
 go_loopw [3] (fun  i wr => ∃ k : Nat, k <= N /\ i = .int .i64 k /\ Below w.heap.size w wr /\ (ss.take k).all L2V.ok = true) (fun i _ => N - (intOf i).toNat)
 case atStart => exact ⟨0, qL _, rfl, Below.refl _ _, by simp⟩
 case round =>
  obtain ⟨k, hk, rfl, hb, hall⟩ := hrel
  have HA : Hid ((ss.take k).all L2V.ok = true) := hall
  clear hall
  by_cases hlt : k < N
  ·obtain ⟨b, off, rfl, hc, hr⟩ := (hF.below hb) k (by rw [HN.out]; exact hlt)
   generalize HG : ss[k]?.getD noL = g at *
   have HG' : Hid (ss[k]?.getD noL = g) := HG
   clear HG hF
   obtain ⟨ga, gn, gcap, gx⟩ := g
   have hc' : wr.cell? ⟨b, off + k, none⟩ = some (.slice ga gn gcap) := hc
   clear hc
   cases hf : actB gn gx
   ·go_wp2_with fail
    refine (sact_any gx hr.1 hr.2.1 hr.2.2).mono ?_
    rintro e w1 ⟨rfl, b1⟩
    rw [hf]
    go_wp2
    go_ret
    exact ⟨ret_bool (by rw [HCB.out, allC_no (k := k) (by rw [HN.out]; exact hlt) (by rw [HG'.out]; exact hf)]), btq hb b1⟩
   ·go_wp2_with fail
    refine (sact_any gx hr.1 hr.2.1 hr.2.2).mono ?_
    rintro e w1 ⟨rfl, b1⟩
    rw [hf]
    go_wp2
    go_roundw
    case rel => exact ⟨k + 1, by omega, by go_num, btq hb b1, allC_take_succ (by rw [HN.out]; exact hlt) HA.out (by rw [HG'.out]; exact hf)⟩
    case measure => simp [intOf]; omega
  ·go_wp2
   go_ret
   exact ⟨ret_bool (by rw [HCB.out]; have := HA.out; rw [qG (by rw [HN.out]; omega)] at this; exact this.symm), hb⟩
theorem icat_any (ad : Option Addr) (N cap : Nat) (ss : List L2V) {w : World} (hN : ss.length = N) (hF : LSG w ad ss) (hN1 : N <= 1048576) :
  Calls Tryz.prog 124 #[.slice ad N cap] w fun e w' => e = .returned (.bool (catB N ss)) /\ Below w.heap.size w w' := by
 have HN : Hid (ss.length = N) := hN
 clear hN
 by_cases h1 : N < 1
 ·have hib : inB N 1 4 = false := inB_not.2 (by omega)
  go_enter Tryz.func124, Tryz.ntmps124
  go_wp2
  go_ret
  exact ⟨ret_bool (by rw [catB, hib]; rfl), Below.refl _ _⟩
 by_cases h4 : 4 < N
 ·have hib : inB N 1 4 = false := inB_not.2 (by omega)
  go_enter Tryz.func124, Tryz.ntmps124
  go_wp2
  go_ret
  exact ⟨ret_bool (by rw [catB, hib]; rfl), Below.refl _ _⟩
 have hib : inB N 1 4 = true := inB_iff.2 (by omega)
 go_enter Tryz.func124, Tryz.ntmps124
 go_wp2_with fail
 have HCB : Hid (catB N ss = ss.all L2V.ok) := by show catB N ss = _; rw [catB, hib]; rfl
 go_loopw [4, 15] (fun _ i wr => ∃ k : Nat, k <= N /\ i = .int .i64 k /\ Below w.heap.size w wr /\ (ss.take k).all L2V.ok = true) (fun _ i _ => N - (intOf i).toNat)
 case atStart => exact ⟨0, qL _, rfl, Below.refl _ _, by simp⟩
 case round =>
  obtain ⟨k, hk, rfl, hb, hall⟩ := hrel
  have HA : Hid ((ss.take k).all L2V.ok = true) := hall
  clear hall
  by_cases hlt : k < N
  ·obtain ⟨b, off, rfl, hc, hr⟩ := (hF.below hb) k (by rw [HN.out]; exact hlt)
   generalize HG : ss[k]?.getD noL = g at *
   have HG' : Hid (ss[k]?.getD noL = g) := HG
   clear HG hF
   obtain ⟨ga, gn, gcap, gx⟩ := g
   have hc' : wr.cell? ⟨b, off + k, none⟩ = some (.slice ga gn gcap) := hc
   clear hc
   cases hf : actB gn gx
   ·go_wp2_with fail
    refine (iact_any _ _ _ gx hr.1 hr.2.1 hr.2.2).mono ?_
    rintro e w1 ⟨rfl, b1⟩
    rw [hf]
    go_wp2
    go_ret
    exact ⟨ret_bool (by rw [HCB.out, allC_no (k := k) (by rw [HN.out]; exact hlt) (by rw [HG'.out]; exact hf)]), btq hb b1⟩
   ·go_wp2_with fail
    refine (iact_any _ _ _ gx hr.1 hr.2.1 hr.2.2).mono ?_
    rintro e w1 ⟨rfl, b1⟩
    rw [hf]
    go_wp2
    go_roundw
    case rel => exact ⟨k + 1, by omega, by go_num, btq hb b1, allC_take_succ (by rw [HN.out]; exact hlt) HA.out (by rw [HG'.out]; exact hf)⟩
    case measure => simp [intOf]; omega
  ·go_wp2
   go_ret
   exact ⟨ret_bool (by rw [HCB.out]; have := HA.out; rw [qG (by rw [HN.out]; omega)] at this; exact this.symm), hb⟩
abbrev treV (a : Option Addr) (n cap : Nat) (c : Option Addr) (m cap' : Nat) : Value := .agg #[.slice a n cap, .slice c m cap']
def trtB (n m : Nat) (C D : List Int) : Bool := okN 3 10000 n C && (inB m 1 3 && betB 0 50 D)
theorem strt_any {c : Option Addr} {m : Nat} (C D : List Int) {w : World} (hC : Ints w a n C) (hD : Ints w c m D) (hn : n <= 1048576) (hm : m <= 1048576) :
  Calls Tryz.prog 107 #[treV a n cap c m cap'] w fun e w' => e = .returned (.bool (trtB n m C D)) /\ Below w.heap.size w w' := by
 have HD : Hid (D.length = m) := hD.1
 cases h1 : okN 3 10000 n C
 ·go_enter Tryz.func107, Tryz.ntmps107
  go_wp2_with fail
  refine (sval_any C (hC.alloc _) hn).mono ?_
  rintro e w1 ⟨rfl, rfl⟩
  go_wp2
  go_ret
  exact ⟨ret_bool (by simp [trtB, h1]), bal⟩
 ·cases h2 : inB m 1 3
  ·go_enter Tryz.func107, Tryz.ntmps107
   go_wp2_with fail
   refine (sval_any C (hC.alloc _) hn).mono ?_
   rintro e w1 ⟨rfl, rfl⟩
   go_wp2_with fail
   refine (in_any).mono ?_
   rintro e w1 ⟨rfl, rfl⟩
   go_wp2
   go_ret
   exact ⟨ret_bool (by simp [trtB, h2]), bal⟩
  ·go_enter Tryz.func107, Tryz.ntmps107
   go_wp2_with fail
   refine (sval_any C (hC.alloc _) hn).mono ?_
   rintro e w1 ⟨rfl, rfl⟩
   go_wp2_with fail
   refine (in_any).mono ?_
   rintro e w1 ⟨rfl, rfl⟩
   go_wp2_with fail
   go_loop [3] (fun i => ∃ k : Nat, k <= m /\ i = .int .i64 k /\ betB 0 50 (D.take k) = true) (fun i => m - (intOf i).toNat)
   case atStart => exact ⟨0, qL _, rfl, rfl⟩
   case round =>
    obtain ⟨k, hk, rfl, hall⟩ := hrel
    have HA : Hid (betB 0 50 (D.take k) = true) := hall
    clear hall
    by_cases hlt : k < m
    ·obtain ⟨b, off, rfl, hcell⟩ := (hD.alloc (.cells #[.slice a n cap, .slice c m cap'] 149 (0, 0))).pos (by omega)
     have hck := hcell k hlt
     clear hcell hC hD
     cases hin : inB (D[k]?.getD 0) 0 50
     ·go_wp2_with fail
      refine (in_any).mono ?_
      rintro e w1 ⟨rfl, rfl⟩
      go_wp2
      go_ret
      exact ⟨ret_bool (by rw [trtB, betB_false (by rw [HD.out]; exact hlt) hin]; simp), bal⟩
     ·go_wp2_with fail
      refine (in_any).mono ?_
      rintro e w1 ⟨rfl, rfl⟩
      go_wp2
      go_round
      case rel => exact ⟨k + 1, by omega, by go_num, betB_step (by rw [HD.out]; exact hlt) HA.out hin⟩
      case measure => simp [intOf]; omega
    ·go_wp2
     go_ret
     exact ⟨ret_bool (by rw [trtB, h1, h2, betB_end (by rw [HD.out]; omega) HA.out]; rfl), bal⟩
theorem itrt_any {c : Option Addr} {m : Nat} (C D : List Int) {w : World} (hC : Ints w a n C) (hD : Ints w c m D) (hn : n <= 1048576) (hm : m <= 1048576) :
  Calls Tryz.prog 126 #[treV a n cap c m cap'] w fun e w' => e = .returned (.bool (trtB n m C D)) /\ Below w.heap.size w w' := by
 cases h1 : okN 3 10000 n C
 ·go_enter Tryz.func126, Tryz.ntmps126
  go_wp2_with fail
  refine (ival_any C (hC.alloc _) hn).mono ?_
  rintro e w1 ⟨rfl, rfl⟩
  go_wp2
  go_ret
  exact ⟨ret_bool (by simp [trtB, h1]), bal⟩
 ·by_cases h2 : 1 <= m
  ·by_cases h3 : m <= 3
   ·have h4 : inB m 1 3 = true := inB_iff.2 ⟨by omega, by omega⟩
    have H4 : Hid _ := h4
    clear h4
    go_enter Tryz.func126, Tryz.ntmps126
    go_wp2_with fail
    refine (ival_any C (hC.alloc _) hn).mono ?_
    rintro e w1 ⟨rfl, rfl⟩
    go_wp2_with fail
    refine (between_any D _ _ (hD.alloc _) hm).mono ?_
    rintro e w1 ⟨rfl, rfl⟩
    go_wp2
    go_ret
    exact ⟨ret_bool (by rw [trtB, h1, H4.out]; rfl), bal⟩
   ·have h4 : inB m 1 3 = false := inB_not.2 (by omega)
    have H4 : Hid _ := h4
    clear h4
    go_enter Tryz.func126, Tryz.ntmps126
    go_wp2_with fail
    refine (ival_any C (hC.alloc _) hn).mono ?_
    rintro e w1 ⟨rfl, rfl⟩
    go_wp2
    go_ret
    exact ⟨ret_bool (by rw [trtB, H4.out]; simp), bal⟩
  ·have h4 : inB m 1 3 = false := inB_not.2 (by omega)
   have H4 : Hid _ := h4
   clear h4
   go_enter Tryz.func126, Tryz.ntmps126
   go_wp2_with fail
   refine (ival_any C (hC.alloc _) hn).mono ?_
   rintro e w1 ⟨rfl, rfl⟩
   go_wp2
   go_ret
   exact ⟨ret_bool (by rw [trtB, H4.out]; simp), bal⟩
def others (D : List Int) (s : Int) : Nat -> Int
 | 0 => 0
 | k + 1 => if (k : Int) = s then others D s k else wrap64 (others D s k + D[k]?.getD 0)
def partsB (ss : List IV) : Bool := ss.all fun s => okN 3 10000000 s.n s.x
theorem partsB_step (h : k < ss.length) (h1 : partsB (ss.take k) = true) (h2 : okN 3 10000000 (ss[k]?.getD noI).n (ss[k]?.getD noI).x = true) : partsB (ss.take (k + 1)) = true := by
 unfold partsB at *
 rw [List.take_succ_eq_append_getElem h, List.all_append, h1]
 rw [qA h] at h2
 simpa using h2
theorem partsB_end (h : ss.length <= k) (h1 : partsB (ss.take k) = true) : partsB ss = true := by
 rwa [qG h] at h1
theorem partsB_false (h : k < ss.length) (hn : okN 3 10000000 (ss[k]?.getD noI).n (ss[k]?.getD noI).x = false) : partsB ss = false := by
 unfold partsB
 rw [List.all_eq_false]
 refine ⟨ss[k], List.getElem_mem h, ?_⟩
 rw [qA h] at hn
 simpa using hn
theorem partsB_at (h : k < ss.length) (hp : partsB ss = true) : okN 3 10000000 (ss[k]?.getD noI).n (ss[k]?.getD noI).x = true := by
 cases hn : okN 3 10000000 (ss[k]?.getD noI).n (ss[k]?.getD noI).x
 ·rw [partsB_false h hn] at hp; cases hp
 ·rfl
theorem sparts_any (ss : List IV) {w : World} (hN : ss.length = N) (hF : ISG w ad ss) (hN1 : N <= 1048576) :
  Calls Tryz.prog 231 #[.slice ad N cap] w fun e w' => e = .returned (.bool (partsB ss)) /\ w' = w := by
 have HN : Hid (ss.length = N) := hN
 clear hN
 go_enter Tryz.func231, Tryz.ntmps231
 go_wp2_with fail
 go_loop [3] (fun i => ∃ k : Nat, k <= N /\ i = .int .i64 k /\ partsB (ss.take k) = true) (fun i => N - (intOf i).toNat)
 case atStart => exact ⟨0, qL _, rfl, rfl⟩
 case round =>
  obtain ⟨k, hk, rfl, hall⟩ := hrel
  have HA : Hid _ := hall
  clear hall
  by_cases hlt : k < N
  ·obtain ⟨b, off, rfl, hc, hr⟩ := hF k (by rw [HN.out]; exact hlt)
   have H1 : Hid _ := partsB_step (ss := ss) (k := k) (by rw [HN.out]; exact hlt) HA.out
   have H2 : Hid _ := partsB_false (ss := ss) (k := k) (by rw [HN.out]; exact hlt)
   generalize HG : ss[k]?.getD noI = g at *
   clear HG hF HA
   obtain ⟨ga, gn, gcap, gx⟩ := g
   have hc' : w.cell? ⟨b, off + k, none⟩ = some (.slice ga gn gcap) := hc
   clear hc
   cases he : okN 3 10000000 gn gx
   ·go_wp2_with fail
    refine (all_any gx hr.1 hr.2 (by omega) (by omega)).mono ?_
    rintro e w1 ⟨rfl, rfl⟩
    rw [he]
    go_wp2
    go_ret
    exact ⟨ret_bool (by rw [H2.out he]), rfl⟩
   ·go_wp2_with fail
    refine (all_any gx hr.1 hr.2 (by omega) (by omega)).mono ?_
    rintro e w1 ⟨rfl, rfl⟩
    rw [he]
    go_wp2
    go_round
    case rel => exact ⟨k + 1, by omega, by go_num, H1.out he⟩
    case measure => simp [intOf]; omega
  ·go_wp2
   go_ret
   exact ⟨ret_bool (by rw [partsB_end (by rw [HN.out]; omega) HA.out]), rfl⟩
theorem iparts_any (ss : List IV) {w : World} (hN : ss.length = N) (hF : ISG w ad ss) (hN1 : N <= 1048576) :
  Calls Tryz.prog 268 #[.slice ad N cap] w fun e w' => e = .returned (.bool (partsB ss)) /\ w' = w := by
 have HN : Hid (ss.length = N) := hN
 clear hN
 go_enter Tryz.func268, Tryz.ntmps268
 go_wp2_with fail
 go_loop [4, 7] (fun _ i => ∃ k : Nat, k <= N /\ i = .int .i64 k /\ partsB (ss.take k) = true) (fun _ i => N - (intOf i).toNat)
 case atStart => exact ⟨0, qL _, rfl, rfl⟩
 case round =>
  obtain ⟨k, hk, rfl, hall⟩ := hrel
  have HA : Hid _ := hall
  clear hall
  by_cases hlt : k < N
  ·obtain ⟨b, off, rfl, hc, hr⟩ := hF k (by rw [HN.out]; exact hlt)
   have H1 : Hid _ := partsB_step (ss := ss) (k := k) (by rw [HN.out]; exact hlt) HA.out
   have H2 : Hid _ := partsB_false (ss := ss) (k := k) (by rw [HN.out]; exact hlt)
   generalize HG : ss[k]?.getD noI = g at *
   clear HG hF HA
   obtain ⟨ga, gn, gcap, gx⟩ := g
   have hc' : w.cell? ⟨b, off + k, none⟩ = some (.slice ga gn gcap) := hc
   clear hc
   by_cases hn3 : (gn : Int) = 3
   ·have hn3' : ((gn : Int) != 3) = false := by simp [hn3]
    have H3 : Hid ((gn : Int) = 3) := hn3
    clear hn3
    cases he : allB 10000000 gx
    ·go_wp2_with fail
     refine (within_any _ _ _ gx hr.1 hr.2 (by omega) (by omega)).mono ?_
     rintro e w1 ⟨rfl, rfl⟩
     rw [he]
     go_wp2
     go_ret
     exact ⟨ret_bool (by rw [H2.out (by rw [okN_is H3.out, he])]), rfl⟩
    ·go_wp2_with fail
     refine (within_any _ _ _ gx hr.1 hr.2 (by omega) (by omega)).mono ?_
     rintro e w1 ⟨rfl, rfl⟩
     rw [he]
     go_wp2
     go_round
     case rel => exact ⟨k + 1, by omega, by go_num, H1.out (by rw [okN_is H3.out, he])⟩
     case measure => simp [intOf]; omega
   ·have hn3' : ((gn : Int) != 3) = true := by simp [hn3]
    have H3 : Hid (¬ (gn : Int) = 3) := hn3
    clear hn3
    go_wp2
    go_ret
    exact ⟨ret_bool (by rw [H2.out (okN_not H3.out)]), rfl⟩
  ·go_wp2
   go_ret
   exact ⟨ret_bool (by rw [partsB_end (by rw [HN.out]; omega) HA.out]), rfl⟩
theorem imay_any (zs : List Int) {w : World} (h : Ints w a n zs) (hn : n <= 1048576) :
  Calls Tryz.prog 269 #[.slice a n cap] w fun e w' => e = .returned (.bool (okN 3 20000 n zs)) /\ w' = w := by
 by_cases hc : (n : Int) = 3
 ·have hc' : ((n : Int) == 3) = true := by simp [hc]
  have HC : Hid ((n : Int) = 3) := hc
  clear hc
  go_enter Tryz.func269, Tryz.ntmps269
  go_wp2_with fail
  refine (within_any _ _ _ zs h hn (by omega) (by omega)).mono ?_
  rintro e w' ⟨rfl, rfl⟩
  go_wp2
  go_ret
  exact ⟨ret_bool (by rw [okN_is HC.out]), rfl⟩
 ·have hc' : ((n : Int) == 3) = false := by simpa using hc
  go_enter Tryz.func269, Tryz.ntmps269
  go_wp2
  go_ret
  exact ⟨ret_bool (by rw [okN_not hc]), rfl⟩
end Go.Proofs.YtacfoeekmcnpjaaGreatDoor
