/-
  Lemmas that the claim's last text rests on.
-/
import Derived.Laws.Pointers
import Derived.Defers
import Derived.Recover
import Derived.Test.YtfmpcihghlnlnaaGreatDoorQl
namespace Go.Proofs.YtfmpcihghlnlnaaGreatDoor
open Go.ChangeShapes Go.WideShapes Go.ChangeAt Go.RowKit Go.Joins Go.Deep
open World renaming size_alloc → qA
open List renaming getElem?_eq_getElem → qB, length_append → qC, take_succ_eq_append_getElem → qD
set_option linter.unusedVariables false
set_option maxRecDepth 100000
set_option maxHeartbeats 25600000
variable {A B G T i k lo n : Nat} {U V tl x zs : List Int} {W W' w w' : World} {a : Option Addr} {cs : List (List Value)} {fs gs ts : List FV} {g : LV} {la : List Value} {ls : List LV} {p q : Nat -> Nat} {ty : TypeId}
abbrev rowV (g : Option Addr) (G cg : Nat) (a : Option Addr) (A ca : Nat) (t : Option Addr) (T ct : Nat) (st : Bool) : Value := .agg #[.slice g G cg, .slice a A ca, .slice t T ct, .bool st]
def rowB (gs ls ts : List FV) (A T : Nat) (st : Bool) : Bool := gs.all FV.ok && ls.all FV.ok && ts.all FV.ok && (if st then ((A : Int) + T == 0) else ((A : Int) == 3))
structure RowAt (w : World) (g : Option Addr) (G : Nat) (gs : List FV) (a : Option Addr) (A : Nat) (ls : List FV) (t : Option Addr) (T : Nat) (ts : List FV) : Prop where
 g : FormsG w g gs
 a : FormsG w a ls
 t : FormsG w t ts
 hg : gs.length = G
 ha : ls.length = A
 ht : ts.length = T
 zg : G <= 1048576
 za : A <= 1048576
 zt : T <= 1048576
theorem RowAt.below {g : Option Addr} {ls : List FV} {t : Option Addr} (h : RowAt w g G gs a A ls t T ts) (b : Below w.heap.size w w') : RowAt w' g G gs a A ls t T ts :=
 ⟨h.g.below b, h.a.below b, h.t.below b, h.hg, h.ha, h.ht, h.zg, h.za, h.zt⟩
theorem RowAt.alloc {g : Option Addr} {ls : List FV} {t : Option Addr} (h : RowAt w g G gs a A ls t T ts) (o : Obj) : RowAt (w.alloc o) g G gs a A ls t T ts := h.below (bal)
structure BX (w : World) (B : Nat) (la : List Value) (ty : TypeId) (W : World) : Prop where
 p : Cel W B la ty
 b : Below w.heap.size w W
theorem BX.new (w : World) (la : List Value) (ty : TypeId) : BX w w.heap.size la ty (w.alloc (.cells la.toArray ty)) := ⟨Cel.new w la ty, bal⟩
theorem BX.below (h : BX w B la ty W) (b : Below W.heap.size W W') : BX w B la ty W' := ⟨h.p.below b, h.b.trans (b.mono h.b.size)⟩
theorem BX.alloc (h : BX w B la ty W) (o : Obj) : BX w B la ty (W.alloc o) := h.below (bal)
theorem MF.touch {S : Nat -> Prop} (h : MF W B lo cs gs p q) (t : Touch S W W') (hs : ∀ k, S k -> k < B \/ W.heap.size <= k \/ ∀ i, i < gs.length -> (k ≠ B /\ k ≠ p i /\ k ≠ q i)) (hB : ¬ S B) : MF W' B lo cs gs p q := by
 have hb := h.b;refine ⟨by rw [t.block B (lt_of_block h.c) hB]; exact h.c, h.t, fun i hi => ?_, h.b, Nat.le_trans h.s t.size⟩;obtain ⟨a1, a2, a3, a4, a5, a6, a7, a8, a9, a10, a11, a12, a13⟩ := h.l i hi
 have k1 : Blk W' (p i) (gs[i]?.getD noFV).C := by
  unfold Blk at *
  rw [t.block _ (lt_of_block a4) (fun hh => by
   rcases hs _ hh with e | e | e
   ·omega
   ·omega
   exact (e i hi).2.1 rfl)]; exact a4
 have k2 : Blk W' (q i) (gs[i]?.getD noFV).D := by
  unfold Blk at *
  rw [t.block _ (lt_of_block a5) (fun hh => by
   rcases hs _ hh with e | e | e
   ·omega
   ·omega
   exact (e i hi).2.2 rfl)]; exact a5
 exact ⟨a1, a2, a3, k1, k2, a6, a7, a8, a9, a10, a11, Nat.lt_of_lt_of_le a12 t.size, a13⟩
theorem MF.set {X : Nat} (h : MF W B lo cs gs p q) (hX : X < B) (i : Nat) (v : Value) : MF (W.setCell ⟨X, i, none⟩ v) B lo cs gs p q :=
 h.touch (S := fun k => k = X) (Touch.setCell (S := fun k => k = X) (Touch.refl _ _) rfl v) (fun k hk => .inl (by omega)) (fun hh => by omega)
theorem MF.lt (h : MF W B lo cs gs p q) : B < W.heap.size := lt_of_block h.c
structure RM (W : World) (lo : Nat) (B1 B2 B3 : Nat) (G A T : Nat) (gs ls ts : List FV) (X Y Z : List (List Value)) (p1 q1 p2 q2 p3 q3 : Nat -> Nat) : Prop where
 g : MF W B1 (B1 + 1) X gs p1 q1
 a : MF W B2 (B2 + 1) Y ls p2 q2
 t : MF W B3 (B3 + 1) Z ts p3 q3
 hg : gs.length = G
 ha : ls.length = A
 ht : ts.length = T
 xg : X.length = G
 xa : Y.length = A
 xt : Z.length = T
 l1 : lo <= B1
 l2 : B1 < B2
 l3 : B2 < B3
 u1 : ∀ i, i < G -> q1 i < B2
 u2 : ∀ i, i < A -> q2 i < B3
theorem RM.at {B1 B2 B3 : Nat} {ls : List FV} {X Y Z : List (List Value)} {p1 q1 p2 q2 p3 q3 : Nat -> Nat} (h : RM W lo B1 B2 B3 G A T gs ls ts X Y Z p1 q1 p2 q2 p3 q3) (zg : G <= 1048576) (za : A <= 1048576) (zt : T <= 1048576) : RowAt W (some ⟨B1, 0, none⟩) G gs (some ⟨B2, 0, none⟩) A ls (some ⟨B3, 0, none⟩) T ts :=
 ⟨h.g.g, h.a.g, h.t.g, h.hg, h.ha, h.ht, zg, za, zt⟩
theorem RM.below {B1 B2 B3 : Nat} {ls : List FV} {X Y Z : List (List Value)} {p1 q1 p2 q2 p3 q3 : Nat -> Nat} (h : RM W lo B1 B2 B3 G A T gs ls ts X Y Z p1 q1 p2 q2 p3 q3) (b : Below W.heap.size W W') : RM W' lo B1 B2 B3 G A T gs ls ts X Y Z p1 q1 p2 q2 p3 q3 :=
 ⟨h.g.below b, h.a.below b, h.t.below b, h.hg, h.ha, h.ht, h.xg, h.xa, h.xt, h.l1, h.l2, h.l3, h.u1, h.u2⟩
theorem allP_take_succ {P : FV -> Bool} (h : k < fs.length) (h1 : (fs.take k).all P = true) (h2 : P (fs[k]?.getD noFV) = true) : (fs.take (k + 1)).all P = true := by
 rw [qD h, List.all_append, h1];rw [qB h] at h2;simpa using h2
theorem allP_no {P : FV -> Bool} (h : k < fs.length) (h2 : P (fs[k]?.getD noFV) = false) : fs.all P = false := by
 rw [List.all_eq_false];rw [qB h] at h2
 exact ⟨fs[k], List.getElem_mem h, by simpa using h2⟩
theorem all_at (h : fs.all FV.ok = true) (hk : k < fs.length) : (fs[k]?.getD noFV).ok = true := by
 rw [qB hk]
 exact List.all_eq_true.1 h _ (List.getElem_mem hk)
theorem rowB_g {ls : List FV} {a t : Nat} {st : Bool} (h : rowB gs ls ts a t st = true) : gs.all FV.ok = true /\ ls.all FV.ok = true /\ ts.all FV.ok = true := by
 simp only [rowB, Bool.and_eq_true] at h
 exact ⟨h.1.1.1, h.1.1.2, h.1.2⟩
theorem okN_nat {c : Nat} {m : Int} (hm : 0 <= m) (h : okN c m n zs = true) : n = c /\ bnd m zs := by
 obtain ⟨h1, h2⟩ := okN_elim hm h
 exact ⟨by omega, h2⟩
def atF (V U : List Int) (f : FV) : Int := atV f.C f.D f.K V U
theorem atF_bnd {f : FV} (h : f.ok = true) (bV : bnd 10000 V) (bU : bnd 9 U) : -1000000000000 <= atF V U f /\ atF V U f <= 1000000000000 := by
 obtain ⟨_, _, bC, bD, k1, k2⟩ := formB_elim (show formB f.n f.m f.C f.D f.K = true from h);have h1 := dot_bnd (bndP_of bC bV) 3;have h2 := dot_bnd (bndP_of bD bU) 2;unfold atF atV
 omega
theorem ats_bnd (h : fs.all FV.ok = true) (bV : bnd 10000 V) (bU : bnd 9 U) : bnd 1000000000000 (fs.map (atF V U)) := fun i => by
 by_cases hi : i < fs.length
 ·have := atF_bnd (List.all_eq_true.1 h _ (List.getElem_mem hi)) bV bU;rw [List.getElem?_map, qB hi];simpa using this
 rw [List.getElem?_eq_none (by simp; omega)];simp
theorem formsAt_any {ad : Option Addr} {N cap : Nat} (fs : List FV) {v : Option Addr} {cv : Nat} {u : Option Addr} {cu : Nat} (V U : List Int) {w : World} (hN : fs.length = N) (hF : FormsG w ad fs) (hN1 : N <= 1048576) (hok : fs.all FV.ok = true) (hV : Ints w v 3 V) (hU : Ints w u 2 U) (bV : bnd 10000 V) (bU : bnd 9 U) :
  Calls Tryz.prog 123 #[.slice ad N cap, .slice v 3 cv, .slice u 2 cu] w fun e w' => ∃ r, e = .returned r /\ JA w r (fs.map (atF V U)) w' := by
 have HN : Hid (fs.length = N) := hN;have HO : Hid (fs.all FV.ok = true) := hok;clear hN hok;obtain ⟨i0, hi, hz0, hz1, hz2⟩ := info_parts Tryz.infoInt
 go_enter Tryz.func123, Tryz.ntmps123
 go_wp2_with fail
 go_loopw [7, 9, 12] (fun r _ i wr => ∃ k : Nat, k <= N /\ i = .int .i64 k /\ ∃ xs : List Int, xs.length = k /\ xs = (fs.take k).map (atF V U) /\ JA w r xs wr) (fun _ _ i _ => N - (intOf i).toNat)
 case atStart => exact ⟨0, Nat.zero_le _, rfl, [], rfl, rfl, JA.nil w⟩
 case round =>
  obtain ⟨k, hk, rfl, xs, hxl, hxs, j⟩ := hrel;have HL : Hid (xs.length = k) := hxl;have HXS : Hid (xs = (fs.take k).map (atF V U)) := hxs;clear hxl hxs
  by_cases hlt : k < N
  ·obtain ⟨b, off, rfl, e0, e1, e2, e3⟩ := (hF.below j.b) k (by rw [HN.out]; exact hlt);have hok := all_at (k := k) HO.out (by rw [HN.out]; exact hlt)
   have HP : Hid ((fs.take (k + 1)).map (atF V U) = (fs.take k).map (atF V U) ++ [atF V U (fs[k]?.getD noFV)]) := by
    have hl : k < fs.length := by rw [HN.out]; exact hlt
    show _ = _
    rw [qD hl, List.map_append, qB hl]; rfl
   generalize HG : fs[k]?.getD noFV = f at *;clear HG hF;obtain ⟨fa, fn, fcap, fc, fm, fcap', fK, fC, fD⟩ := f;obtain ⟨iC, iD, _, _⟩ := e3;simp only at e0 e1 e2 iC iD;obtain ⟨rfl, rfl, bC, bD, bK⟩ := formB_elim (show formB fn fm fC fD fK = true from hok);clear hok;obtain ⟨x, hx⟩ : ∃ x, atV fC fD fK V U = x := ⟨_, rfl⟩
   have HX : Hid (atV fC fD fK V U = x) := hx;have HP2 : Hid (xs ++ [x] = (fs.take (k + 1)).map (atF V U)) := by show _ = _; rw [HP.out, HXS.out, <- hx]; rfl
   clear hx;have hjb := j.b
   go_wp2_with fail
   refine (iat_any fC fD V U (iC.alloc _) (iD.alloc _) ((hV.below hjb).alloc _) ((hU.below hjb).alloc _) bC bD bK bV bU).mono ?_;rintro e w3 ⟨rfl, b3⟩;rw [HX.out];have j3 := (j.alloc _).below b3;have jo := j3.o;rw [HL.out] at jo;have hj3 := j3.b.size;clear b3 iC iD e0 e1 e2 j hjb
   go_wp2_with (at_builtin; go_must (refine wpList_append_lies _ rfl (.tmp 16) (.tmp 21) 23 rfl w.heap.size 3 i0 (.int .i64 0) 1 8 Tryz.underlying23 hi hz0 hz1 hz2 rfl (by decide) _ _ _ rfl (jo.alloc _) ⟨w3.heap.size, 0, none⟩ 1 1 [.int .i64 x] rfl rfl (news1 _) (one1) (by omega) (by unfold maxLen; omega) (by omega) (by rw [qA]; omega) _ rfl ?_); intro g cp w4 hown hgrow hat hlt1)
   have j4 := j3.app HL.out hown hgrow;clear hown hgrow jo j3 hat
   go_wp2
   go_roundw
   case rel => exact ⟨k + 1, by omega, by go_num, _, by rw [qC, HL.out]; rfl, HP2.out, j4⟩
   case measure => simp [intOf]; omega
  have HT : Hid (xs = fs.map (atF V U)) := by show xs = _; rw [HXS.out, List.take_of_length_le (by rw [HN.out]; omega)]
  go_wp2
  go_ret
  exact ⟨_, rfl, by rw [<- HT.out]; exact j⟩
abbrev resV (code : Int) (a : Option Addr) (n cap : Nat) : Value := .agg #[.int .i64 code, .slice a n cap]
def ResD (w w' : World) (e : Ending) (code : Int) (tl pl : List Int) : Prop :=
 ∃ a n cap B1 b m cap' B2, e = .returned (.tuple #[resV code a n cap, .slice b m cap']) /\ tl.length = n /\ pl.length = m /\ Below w.heap.size w w' /\ OwnX w' a B1 n tl /\ OwnX w' b B2 m pl /\ (0 < n -> w.heap.size <= B1) /\ (0 < m -> w.heap.size <= B2) /\ (0 < n -> 0 < m -> B1 ≠ B2)
theorem BX.touch {S : Nat -> Prop} (h : BX w B la ty W) (t : Touch S W W') (hs : ∀ k, S k -> w.heap.size <= k) (hn : ¬ S B) : BX w B la ty W' :=
 ⟨h.p.touch t hn, h.b.trans (t.below h.b.size hs)⟩
theorem rowB_three {ls : List FV} (h : rowB gs ls ts A T false = true) : A = 3 := by
 simp only [rowB, Bool.and_eq_true] at h;have := h.2;simp at this
 omega
theorem Cel.pair {x y : Value} {t : TypeId} (h : Cel w B [x, y] t) : w.cell? ⟨B, 0, none⟩ = some x /\ w.cell? ⟨B, 1, none⟩ = some y /\ w.frozen? ⟨B, 0, none⟩ = false /\ w.frozen? ⟨B, 1, none⟩ = false := ⟨h.cell 0, h.cell 1, h.free 0, h.free 1⟩
structure MK2 (W : World) (B N s k : Nat) (gs : List FV) (p q : Nat -> Nat) (wr : World) : Prop where
 c : ∃ cur : Array Value, wr.heap[B]? = some (.cells cur 106 (0, 0)) /\ cur.size = N * 3 /\ ∀ i, i < N -> cur[i * 3]? = some (.slice (gs[i]?.getD noFV).a (gs[i]?.getD noFV).n (gs[i]?.getD noFV).cap) /\ cur[i * 3 + 1]? = some (.slice (gs[i]?.getD noFV).c (gs[i]?.getD noFV).m (gs[i]?.getD noFV).cap')
 o : ∀ i, k <= i -> i < N -> Blk wr (p i) (gs[i]?.getD noFV).C /\ Blk wr (q i) (gs[i]?.getD noFV).D
 t : Touch (fun x => B <= x /\ x < s) W wr
def bd : Nat -> Int
 | 0 => 10000
 | n + 1 => 7 * bd n + 56
theorem bd_pos : ∀ n, 10000 <= bd n
 | 0 => by simp [bd]
 | n + 1 => by have := bd_pos n; simp only [bd]; omega
theorem bd_succ (n : Nat) : bd n <= bd (n + 1) := by have := bd_pos n; simp only [bd]; omega
theorem bd_mono {m : Nat} (h : n <= m) : bd n <= bd m := by
 induction h with
 | refl => exact Int.le_refl _
 | step _ ih => exact Int.le_trans ih (bd_succ _)
theorem bnd_mono {M M' : Int} (h : bnd M zs) (hM : M <= M') : bnd M' zs := fun i => by have := h i; omega
theorem bnd_set {M : Int} {v : Int} (h : bnd M x) (h1 : -M <= v) (h2 : v <= M) : bnd M (x.set k v) := fun i => by
 by_cases e : i = k
 ·subst e
  by_cases hi : i < x.length
  ·rw [List.getElem?_set_self hi]; simp; omega
  rw [List.getElem?_eq_none (by simp; omega)];have := h i;simp
  omega
 rw [List.getElem?_set_ne (by omega)]; exact h i
def goL (U : List Int) (ls : List LV) : Nat -> Nat -> List Int -> List Int -> Bool × List Int × List Int
 | 0, _, x, tl => (false, x, tl)
 | f + 1, i, x, tl =>
  if i < ls.length then
   if (ls[i]?.getD noLV).kind = 1 then goL U ls f (if atF x U (ls[i]?.getD noLV).f < 0 then i + 1 + (ls[i]?.getD noLV).skip.toNat else i + 1) x tl
   else if (ls[i]?.getD noLV).kind = 2 then goL U ls f (i + 1) (x.set (ls[i]?.getD noLV).pot.toNat (x[(ls[i]?.getD noLV).pot.toNat]?.getD 0 + atF x U (ls[i]?.getD noLV).f)) tl
   else if (ls[i]?.getD noLV).kind = 3 then goL U ls f (i + 1) x (tl ++ [atF x U (ls[i]?.getD noLV).f])
   else (true, x, tl)
  else (false, x, tl)
theorem goL_end {f : Nat} (h : ls.length <= i) : goL U ls f i x tl = (false, x, tl) := by
 cases f with
 | zero => rfl
 | succ f => rw [goL, if_neg (by omega)]
theorem goL_one {f : Nat} (h : i < ls.length) (hf : 0 < f) (hg : ls[i]?.getD noLV = g) : goL U ls f i x tl = (if g.kind = 1 then goL U ls (f - 1) (if atF x U g.f < 0 then i + 1 + g.skip.toNat else i + 1) x tl else if g.kind = 2 then goL U ls (f - 1) (i + 1) (x.set g.pot.toNat (x[g.pot.toNat]?.getD 0 + atF x U g.f)) tl else if g.kind = 3 then goL U ls (f - 1) (i + 1) x (tl ++ [atF x U g.f]) else (true, x, tl)) := by
 obtain ⟨n, rfl⟩ : ∃ n, f = n + 1 := ⟨f - 1, by omega⟩
 rw [goL, if_pos h, hg]; rfl
def runL (U : List Int) (ls : List LV) (V : List Int) : Bool × List Int × List Int := goL U ls 7 0 V []
structure At (U : List Int) (ls : List LV) (V : List Int) (i : Nat) (x tl : List Int) : Prop where
 r : ∃ f, 7 <= i + f /\ runL U ls V = goL U ls f i x tl
 b : i <= 6 -> bnd (bd i) x
 l : x.length = 3
 t : tl.length <= i
theorem At.start (h : bnd 10000 V) (hl : V.length = 3) : At U ls V 0 V [] := ⟨⟨7, by omega, rfl⟩, fun _ => h, hl, Nat.le_refl _⟩
theorem At.done (h : At U ls V i x tl) (hi : ls.length <= i) : runL U ls V = (false, x, tl) := by
 obtain ⟨f, _, e⟩ := h.r;rw [e, goL_end hi]
theorem At.one (h : At U ls V i x tl) (hi : i < ls.length) (h6 : ls.length <= 6) (hg : ls[i]?.getD noLV = g) : ∃ f, 7 <= (i + 1) + f /\ runL U ls V = (if g.kind = 1 then goL U ls f (if atF x U g.f < 0 then i + 1 + g.skip.toNat else i + 1) x tl else if g.kind = 2 then goL U ls f (i + 1) (x.set g.pot.toNat (x[g.pot.toNat]?.getD 0 + atF x U g.f)) tl else if g.kind = 3 then goL U ls f (i + 1) x (tl ++ [atF x U g.f]) else (true, x, tl)) := by
 obtain ⟨f, h1, e⟩ := h.r
 exact ⟨f - 1, by omega, by rw [e, goL_one hi (by omega) hg]⟩
theorem At.skip {j : Nat} (h : At U ls V i x tl) (hi : i < ls.length) (h6 : ls.length <= 6) (hg : ls[i]?.getD noLV = g) (hk : g.kind = 1) (hj : j = if atF x U g.f < 0 then i + 1 + g.skip.toNat else i + 1) : At U ls V j x tl := by
 obtain ⟨f, h1, e⟩ := h.one hi h6 hg;rw [if_pos hk, <- hj] at e;have hij : i + 1 <= j := by rw [hj]; split <;> omega
 have ht := h.t
 exact ⟨⟨f, by omega, e⟩, fun h => bnd_mono (‹At U ls V i x tl›.b (by omega)) (bd_mono (by omega)), h.l, by omega⟩
theorem At.add (h : At U ls V i x tl) (hi : i < ls.length) (h6 : ls.length <= 6) (hg : ls[i]?.getD noLV = g) (hk : g.kind = 2) (h1 : -(6 * bd i + 56) <= atF x U g.f) (h2 : atF x U g.f <= 6 * bd i + 56) : At U ls V (i + 1) (x.set g.pot.toNat (x[g.pot.toNat]?.getD 0 + atF x U g.f)) tl := by
 obtain ⟨f, h3, e⟩ := h.one hi h6 hg;rw [if_neg (by omega), if_pos hk] at e;have ht := h.t;refine ⟨⟨f, by omega, e⟩, fun _ => ?_, by rw [List.length_set]; exact h.l, by omega⟩;have hb := h.b (by omega);have := hb g.pot.toNat;have hp := bd_pos i
 exact bnd_set (bnd_mono hb (bd_succ i)) (by simp only [bd]; omega) (by simp only [bd]; omega)
theorem At.tell (h : At U ls V i x tl) (hi : i < ls.length) (h6 : ls.length <= 6) (hg : ls[i]?.getD noLV = g) (hk : g.kind = 3) : At U ls V (i + 1) x (tl ++ [atF x U g.f]) := by
 obtain ⟨f, h3, e⟩ := h.one hi h6 hg;rw [if_neg (by omega), if_neg (by omega), if_pos hk] at e;have ht := h.t
 exact ⟨⟨f, by omega, e⟩, fun _ => bnd_mono (h.b (by omega)) (bd_succ i), h.l, by rw [qC]; simp; omega⟩
theorem At.stop (h : At U ls V i x tl) (hi : i < ls.length) (h6 : ls.length <= 6) (hg : ls[i]?.getD noLV = g) (h1 : ¬ g.kind = 1) (h2 : ¬ g.kind = 2) (h3 : ¬ g.kind = 3) : (runL U ls V).1 = true := by
 obtain ⟨f, _, e⟩ := h.one hi h6 hg;rw [if_neg h1, if_neg h2, if_neg h3] at e;rw [e]
theorem JA.rebase {w1 : World} {v : Value} {xs : List Int} (j : JA w1 v xs W) (b : Below w.heap.size w w1) : JA w v xs W := by
 refine ⟨btr b j.b, j.o.1, ?_⟩;have := b.size
 rcases j.o.2 with h2 | ⟨g, cap, cur, hv, hg, r⟩
 ·exact Or.inl h2
 exact Or.inr ⟨g, cap, cur, hv, by omega, r⟩
theorem JA.set {v : Value} {xs : List Int} (j : JA w v xs W) {B : Nat} (hB : w.heap.size <= B) (ne : v.ownBlock ≠ some B) (i : Nat) (y : Value) : JA w v xs (W.setCell ⟨B, i, none⟩ y) := by
 refine ⟨j.b.setCell hB _, j.o.1, ?_⟩
 rcases j.o.2 with h2 | ⟨g, cap, cur, hv, hg, hh, r⟩
 ·exact Or.inl h2
 refine Or.inr ⟨g, cap, cur, hv, hg, ?_, r⟩;have hne : g ≠ B := fun e => ne (by rw [hv, e]; rfl);rw [Below.heap_setCell _ _ _ _ hne]; exact hh
theorem OwnX.grown {row : Option Nat} {o : Obj} (h : OwnX W a B n zs) (hg : (W.alloc o).grownBy W' row) (hne : row ≠ some B) : OwnX W' a B n zs := by
 refine ⟨h.1, ?_⟩
 rcases h.2 with h0 | ⟨e, cur, hc, hv⟩
 ·exact .inl h0
 refine .inr ⟨e, cur, ?_, hv⟩;have hl := hc.lt;have h1 : Cel (W.alloc o) B cur 3 := hc.alloc o;unfold Cel at *;rw [hg.block B (by rw [qA]; omega) (fun e => hne e.symm)]; exact h1
theorem Cel.grown {vs : List Value} {t : TypeId} {row : Option Nat} {o : Obj} (h : Cel W B vs t) (hg : (W.alloc o).grownBy W' row) (hne : row ≠ some B) : Cel W' B vs t := by
 have hl := h.lt;have h1 : Cel (W.alloc o) B vs t := h.alloc o;unfold Cel at *;rw [hg.block B (by rw [qA]; omega) (fun e => hne e.symm)]; exact h1
section
variable {w1 W W' : World} {Dd B cp : Nat} {ua : Option Addr} {cu : Nat} {v : Value} {x tl : List Int}
end
structure FA (w : World) (a : Option Addr) (n : Nat) (c : Option Addr) (m : Nat) (f : Frm) : Prop where
 C : Ints w a n f.1
 D : Ints w c m f.2.1
 hn : n <= 1048576
 hm : m <= 1048576
theorem FA.below {c : Option Addr} {m : Nat} {f : Frm} (h : FA w a n c m f) (b : Below w.heap.size w w') : FA w' a n c m f := ⟨h.C.below b, h.D.below b, h.hn, h.hm⟩
def Mk (w w' : World) (e : Ending) (f : Frm) : Prop := ∃ a n cap c m cap', e = .returned (formV a n cap c m cap' f.2.2) /\ FA w' a n c m f /\ Below w.heap.size w w'
theorem Mk.of {e : Ending} {C D : List Int} {K : Int} (h : Res w w' e C D K) (h1 : C.length <= 1048576) (h2 : D.length <= 1048576) : Mk w w' e (C, D, K) := by
 obtain ⟨a, n, cap, c, m, cap', B1, B2, he, rfl, rfl, hb, o1, o2, _, _, _⟩ := h
 exact ⟨a, _, cap, c, _, cap', he, ⟨o1.ints, o2.ints, h1, h2⟩, hb⟩
def RunM (w w' : World) (e : Ending) (code : Int) (tl pl : List Int) : Prop := ∃ a n cap b m cap', e = .returned (.tuple #[resV code a n cap, .slice b m cap']) /\ Ints w' a n tl /\ Ints w' b m pl /\ Below w.heap.size w w'
theorem RunM.of {e : Ending} {code : Int} {pl : List Int} (h : ResD w w' e code tl pl) : RunM w w' e code tl pl := by
 obtain ⟨a, n, cap, B1, b, m, cap', B2, he, h1, h2, hb, o1, o2, _⟩ := h
 exact ⟨a, n, cap, b, m, cap', he, o1.ints, o2.ints, hb⟩
def atX (V U : List Int) (f : Frm) : Int := atV f.1 f.2.1 f.2.2 V U
def shX (f : Frm) : Prop := f.1.length = 3 /\ f.2.1.length = 2
theorem shX_plus {f g : Frm} (hf : shX f) (hg : shX g) : shX (plusX f g) := ⟨lin_len hf.1 hg.1, lin_len hf.2 hg.2⟩
structure WaySh (y : Way) : Prop where
 l : y.pots.length = 3
 s : ∀ p ∈ y.pots, shX p
theorem WaySh.add {y : Way} {p : Nat} {f : Frm} (h : WaySh y) (hp : p < 3) (hf : shX f) : WaySh (y.add p f) := by
 refine ⟨by simp only [Way.add, List.length_set]; exact h.l, fun q hq => ?_⟩;simp only [Way.add] at hq
 rcases List.mem_or_eq_of_mem_set hq with hq | rfl
 ·exact h.s q hq
 refine shX_plus (h.s _ ?_) hf;rw [qB (by rw [h.l]; exact hp)]
 exact List.getElem_mem _
theorem goW_sh (ls : List LV) : ∀ (f i : Nat) (y : Way), ∀ r ∈ goW ls f i y, (r.stop = true -> r.adds.length = 0 /\ r.tells.length = 0) /\ (r.stop = false -> r.adds.length = 3)
 | 0, i, y, r, hr => by simp only [goW, List.mem_singleton] at hr; subst hr; exact ⟨fun h => absurd h (by simp [endW]), fun _ => by simp [endW]⟩
 | f + 1, i, y, r, hr => by
  rw [goW] at hr
  split at hr
  ·split at hr
   ·rcases List.mem_append.1 hr with hr | hr
    ·exact goW_sh ls f _ _ r hr
    exact goW_sh ls f _ _ r hr
   split at hr
   ·exact goW_sh ls f _ _ r hr
   split at hr
   ·exact goW_sh ls f _ _ r hr
   simp only [List.mem_singleton] at hr; subst hr; exact ⟨fun _ => ⟨rfl, rfl⟩, fun h => by cases h⟩
  simp only [List.mem_singleton] at hr; subst hr; exact ⟨fun h => absurd h (by simp [endW]), fun _ => by simp [endW]⟩
theorem bnd_allB {m : Int} (h : bnd m zs) : allB m zs = true := by
 simp only [allB, List.all_eq_true];intro x hx;obtain ⟨i, hi, rfl⟩ := List.getElem_of_mem hx;have := h i;rw [qB hi] at this
 exact inB_iff.2 ⟨by simpa using this.1, by simpa using this.2⟩
theorem fitX_formB {f : Frm} (h : fitX 10000000 f) : formB 3 2 f.1 f.2.1 f.2.2 = true := by
 obtain ⟨_, _, h3, h4, h5, h6⟩ := h;simp only [formB, okN, Bool.and_eq_true, bnd_allB h3, bnd_allB h4, and_true, decide_eq_true_eq]
 exact ⟨⟨rfl, rfl⟩, inB_iff.2 ⟨h5, h6⟩⟩
theorem FormsAt.toG {fs : List Frm} (h : FormsAt w a fs) (hfit : ∀ k, k < fs.length -> fitX 10000000 (fs[k]?.getD ([], [], 0))) : ∃ gs : List FV, gs.map FV.frm = fs /\ gs.length = fs.length /\ FormsG w a gs /\ gs.all FV.ok = true := by
 have H : ∀ n, n <= fs.length -> ∃ gs : List FV, gs.map FV.frm = fs.take n /\ FormsG w a gs /\ gs.all FV.ok = true := by
  intro n
  induction n with
  | zero => exact fun _ => ⟨[], by simp, fun i hi => by simp at hi, rfl⟩
  | succ n ih =>
   intro hn;obtain ⟨gs, e, hG, hk⟩ := ih (by omega);have hl : gs.length = n := by have := congrArg List.length e; simpa [List.length_take, Nat.min_eq_left (by omega : n <= fs.length)] using this
   obtain ⟨b, off, rfl, a1, c1, x1, y1, p0, p1, p2, i1, j1⟩ := h n (by omega);have hf := hfit n (by omega)
   have en : fs.take (n + 1) = fs.take n ++ [fs[n]?.getD ([], [], 0)] := by
    rw [qD (by omega), qB (by omega)]; rfl
   generalize fs[n]?.getD ([], [], 0) = f at *;refine ⟨gs ++ [⟨a1, 3, x1, c1, 2, y1, f.2.2, f.1, f.2.1⟩], ?_, ?_, ?_⟩
   ·rw [en, List.map_append, e]; rfl
   ·intro i hi;rw [qC] at hi
    by_cases hin : i < gs.length
    ·have := hG i hin;rw [List.getElem?_append_left hin]
     exact this
    obtain rfl : i = gs.length := by simp at hi; omega
    rw [List.getElem?_append_right (by omega), Nat.sub_self, hl]
    exact ⟨b, off, rfl, p0, p1, p2, i1, j1, by show 3 <= 1048576; omega, by show 2 <= 1048576; omega⟩
   rw [List.all_append, hk, Bool.true_and]
   show (formB 3 2 f.1 f.2.1 f.2.2 && true) = true
   rw [Bool.and_true]
   exact fitX_formB hf
 obtain ⟨gs, e, hG, hk⟩ := H fs.length (Nat.le_refl _);rw [List.take_length] at e
 exact ⟨gs, e, by rw [<- e, List.length_map], hG, hk⟩
theorem row_rowAt {ga aa ta : Option Addr} {r : RowM} (hf : RowFit r) (hs : (r.stop = true -> r.adds.length = 0 /\ r.tells.length = 0) /\ (r.stop = false -> r.adds.length = 3)) (f0 : FormsAt w ga r.guards) (f1 : FormsAt w aa r.adds) (f2 : FormsAt w ta r.tells) :
  ∃ gs ls ts, RowAt w ga r.guards.length gs aa r.adds.length ls ta r.tells.length ts /\ rowB gs ls ts r.adds.length r.tells.length r.stop = true /\ gs.map FV.frm = r.guards /\ ls.map FV.frm = r.adds /\ ts.map FV.frm = r.tells := by
 obtain ⟨gs, e0, l0, G0, k0⟩ := f0.toG hf.g;obtain ⟨ls, e1, l1, G1, k1⟩ := f1.toG hf.a;obtain ⟨ts, e2, l2, G2, k2⟩ := f2.toG hf.t;have z0 := hf.lg;have z1 := hf.la;have z2 := hf.lt;refine ⟨gs, ls, ts, ⟨G0, G1, G2, l0, l1, l2, by omega, by omega, by omega⟩, ?_, e0, e1, e2⟩;simp only [rowB, k0, k1, k2, Bool.true_and]
 cases h : r.stop
 ·rw [hs.2 h]; rfl
 rw [(hs.1 h).1, (hs.1 h).2]; rfl
end Go.Proofs.YtfmpcihghlnlnaaGreatDoor
