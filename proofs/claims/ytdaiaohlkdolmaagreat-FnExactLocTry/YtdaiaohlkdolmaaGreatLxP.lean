/-
  Lemmas that the claim's last text rests on.
-/
import Derived.Maps.OwnSet
import Derived.Maps.RangeWalk
import Derived.WideKeyArr2
import Derived.Lib.SlBuf
import Derived.Laws.IdiomCopy
import Derived.Test.YtdaiaohlkdolmaaGreatLxM
namespace Go.Proofs.YtdaiaohlkdolmaaGreat
open Go.ChangeShapes Go.WideShapes Go.ChangeAt Go.RowKit Go.Joins Go.Deep
open Go.WideMaps (ArrKey)
open Option.some renaming injEq → qA
open Addr.mk renaming injEq → qB
open List renaming getElem?_eq_getElem → qC, getElem?_cons_zero → qD, length_append → qE, getElem?_append_right → qF, getElem?_append_left → qG, take_of_length_le → qH, take_succ_eq_append_getElem → qI, length_cons → qJ, length_nil → qK
open Nat renaming le_refl → qL, zero_le → qM
set_option linter.unusedVariables false
set_option maxRecDepth 100000
set_option maxHeartbeats 25600000
variable {B G N cap k lo n : Nat} {S : Nat -> Prop} {W W' w w' : World} {a ad : Option Addr} {gs : List LV} {p : List Int} {ps : List (List Int)}
structure L2V where
 a : Option Addr
 n : Nat
 cap : Nat
 x : List LV
def noL : L2V := ⟨none, 0, 0, []⟩
def L2V.v (s : L2V) : Value := .slice s.a s.n s.cap
theorem trod_lenL {H : Type} {enc : TypeId × Value -> H} {fuel : Nat} {t e : TypeId} {cs : List Value} {x : DataW H × List MemPlace} (hS : Tryz.prog.underlying t = some (.slice e)) (hf : DataW.trod enc Tryz.prog W 0 (fun _ => true) true fuel t cs = some x) : cs.length = 1 := by
 rcases open_slice hS hf with ⟨h, _⟩ | ⟨a, len, cap, m, n, D, Pl, h, _⟩ <;> rw [h] <;> rfl
def LM (w : World) (s : L2V) : Prop := s.x.length = s.n /\ LinesM w s.a s.x /\ s.n <= maxLen
def LG (w : World) (s : L2V) : Prop := s.x.length = s.n /\ LinesG w s.a s.x /\ s.n <= 1048576
def LS (s : L2V) : Prop := s.n <= 1048576 /\ ∀ i, i < s.x.length -> (s.x[i]?.getD noLV).f.n <= 1048576 /\ (s.x[i]?.getD noLV).f.m <= 1048576
def LK (w : World) (lo : Nat) (s : L2V) : Prop := ∃ B l p q, s.a = some ⟨B, 0, none⟩ /\ lo <= B /\ ML w B l s.n s.x p q /\ s.x.length = s.n /\ s.n <= 1048576
def copiesL2 (s t : L2V) : Prop := t.n = s.n /\ t.x.length = s.x.length /\ copiesL s.x t.x
def sameL2 (s t : L2V) : Prop := s.n = t.n /\ ∀ i, i < s.n -> sameL (s.x[i]?.getD noLV) (t.x[i]?.getD noLV)
theorem LM.below {s : L2V} (h : LM w s) (hb : Below w.heap.size w w') : LM w' s := ⟨h.1, h.2.1.below hb, h.2.2⟩
theorem LG.below {s : L2V} (h : LG w s) (hb : Below w.heap.size w w') : LG w' s := ⟨h.1, h.2.1.below hb, h.2.2⟩
theorem LM.g {s : L2V} (h : LM w s) (hs : LS s) : LG w s := ⟨h.1, h.2.1.g hs.2, hs.1⟩
theorem ML.touch {p q : Nat -> Nat} (h : ML W B lo N gs p q) (t : Touch S W W') (hs : ∀ k, S k -> k < B) : ML W' B lo N gs p q := by
 obtain ⟨vs, h1, h2, h3⟩ := h.c;have hb := h.b;refine ⟨⟨vs, by rw [t.block B (lt_of_block h1) (fun hh => by have := hs _ hh; omega)]; exact h1, h2, h3⟩, fun i hi => ?_, h.b, Nat.le_trans h.s t.size⟩;obtain ⟨a2, a3, a4, a5, a6, a7, a8, a9, a10, a11, a12, a13⟩ := h.l i hi;have k1 : Blk W' (p i) (gs[i]?.getD noLV).f.C := by unfold Blk at *; rw [t.block _ (lt_of_block a4) (fun hh => by have := hs _ hh; omega)]; exact a4
 have k2 : Blk W' (q i) (gs[i]?.getD noLV).f.D := by unfold Blk at *; rw [t.block _ (lt_of_block a5) (fun hh => by have := hs _ hh; omega)]; exact a5
 exact ⟨a2, a3, k1, k2, a6, a7, a8, a9, a10, a11, Nat.lt_of_lt_of_le a12 t.size, a13⟩
theorem LK.below {s : L2V} (h : LK w lo s) (hb : Below w.heap.size w w') : LK w' lo s := by
 obtain ⟨B, l, p, q, h1, h2, h3, h4⟩ := h
 exact ⟨B, l, p, q, h1, h2, h3.below hb, h4⟩
theorem LK.touch {s : L2V} (h : LK w lo s) (t : Touch S w w') (hs : ∀ k, S k -> k < lo) : LK w' lo s := by
 obtain ⟨B, l, p, q, h1, h2, h3, h4⟩ := h
 exact ⟨B, l, p, q, h1, h2, h3.touch t (fun k hk => by have := hs k hk; omega), h4⟩
theorem LK.mono {lo' : Nat} {s : L2V} (h : LK w lo s) (hl : lo' <= lo) : LK w lo' s := by
 obtain ⟨B, l, p, q, h1, h2, h3⟩ := h
 exact ⟨B, l, p, q, h1, by omega, h3⟩
theorem LK.g {s : L2V} (h : LK w lo s) : LG w s := by
 obtain ⟨B, l, p, q, h1, h2, h3, h4, h5⟩ := h;refine ⟨h4, ?_, h5⟩;rw [h1]; exact h3.g
theorem open_L1 {H : Type} {enc : TypeId × Value -> H} {fuel : Nat} {v : Value} {y : DataW H × List MemPlace}
  (hf : DataW.trod enc Tryz.prog W 0 (fun _ => true) true fuel 47 [v] = some y) : ∃ s : L2V, v = s.v /\ LM W s := by
 obtain ⟨a, n, cap, zs, rfl, h1, h2, h3⟩ := open_linesC hf
 exact ⟨⟨a, n, cap, zs⟩, rfl, h1, h2, h3⟩
theorem szL_ex (x : List LV) {l : Int} {w : World} (h : LM w ⟨a, n, cap, x⟩) (h0 : 0 <= l) (hl : l <= 1048576) :
  Calls Tryz.prog 21 #[.slice a n cap, .int .i64 l] w fun e w' => ∃ r, e = .returned (.int .i64 r) /\ -1 <= r /\ r <= 1048576 /\ (0 <= r -> LS ⟨a, n, cap, x⟩) /\ Below w.heap.size w w' :=
 szLS_any a n cap x l w h.1 h.2.1 h.2.2 h0 hl
theorem toL_ex (x : List LV) {w : World} (h : LG w ⟨a, n, cap, x⟩) :
  Calls Tryz.prog 30 #[.slice a n cap] w fun e w' => ∃ a2 x2, e = .returned (.slice a2 n n) /\ Below w.heap.size w w' /\ LK w' w.heap.size ⟨a2, n, n, x2⟩ /\ copiesL2 ⟨a, n, cap, x⟩ ⟨a2, n, n, x2⟩ := by
 refine (toLS_any a n cap x w h.1 h.2.1 h.2.2).mono ?_;rintro e w' ⟨gs, p, q, rfl, h1, h2, b, m⟩
 exact ⟨_, gs, rfl, b, ⟨_, _, p, q, rfl, qL _, m, h1, h.2.2⟩, rfl, by rw [h1]; exact h.1.symm, h2⟩
theorem eqL_ex (x : List LV) {c : Option Addr} {m cap' : Nat} (y : List LV) {w : World} (h : LG w ⟨a, n, cap, x⟩) (h' : LG w ⟨c, m, cap', y⟩) (hs : sameL2 ⟨a, n, cap, x⟩ ⟨c, m, cap', y⟩) :
  Calls Tryz.prog 42 #[.slice a n cap, .slice c m cap'] w fun e w' => e = .returned (.bool true) /\ Below w.heap.size w w' := by
 obtain ⟨h1, h2⟩ := hs;have h1' : n = m := h1;subst h1'
 exact eqLS_same a c n cap cap' x y w h.1 h'.1 h.2.1 h'.2.1 h.2.2 h2
def LSM (w : World) (ad : Option Addr) (ss : List L2V) : Prop :=
 ∀ i, i < ss.length -> ∃ b off, ad = some ⟨b, off, none⟩ /\ w.cell? ⟨b, off + i, none⟩ = some (ss[i]?.getD noL).v /\ LM w (ss[i]?.getD noL)
def LSG (w : World) (ad : Option Addr) (ss : List L2V) : Prop :=
 ∀ i, i < ss.length -> ∃ b off, ad = some ⟨b, off, none⟩ /\ w.cell? ⟨b, off + i, none⟩ = some (ss[i]?.getD noL).v /\ LG w (ss[i]?.getD noL)
theorem LSM.below {ss : List L2V} (h : LSM w ad ss) (hb : Below w.heap.size w w') : LSM w' ad ss := fun i hi => by
 obtain ⟨b, off, e, hc, hr⟩ := h i hi
 exact ⟨b, off, e, by rw [hb.cell (p := ⟨b, off + i, none⟩) (block_lt hc)]; exact hc, hr.below hb⟩
theorem LSG.below {ss : List L2V} (h : LSG w ad ss) (hb : Below w.heap.size w w') : LSG w' ad ss := fun i hi => by
 obtain ⟨b, off, e, hc, hr⟩ := h i hi
 exact ⟨b, off, e, by rw [hb.cell (p := ⟨b, off + i, none⟩) (block_lt hc)]; exact hc, hr.below hb⟩
theorem LSM.g {ss : List L2V} (h : LSM w ad ss) (hs : ∀ i, i < ss.length -> LS (ss[i]?.getD noL)) : LSG w ad ss := fun i hi => by
 obtain ⟨b, off, e, hc, hr⟩ := h i hi
 exact ⟨b, off, e, hc, hr.g (hs i hi)⟩
theorem open_LS {H : Type} {enc : TypeId × Value -> H} {r : Reach} {b0 : Nat} {v : Value} {d : DataW H} {p : List MemPlace}
  (hv : Value.okWide Tryz.prog W r b0 22 v) (h : DataW.Trod enc Tryz.prog W 0 (fun _ => true) true 22 v d p) :
  ∃ ad N cap ss, v = .slice ad N cap /\ ss.length = N /\ LSM W ad ss /\ N <= maxLen := by
 obtain ⟨ad, N, cap, ss, hv, hl, hN, hall⟩ := open_sliceT noL (fun s => [L2V.v s]) (fun s => LM W s) (c := 1) (by omega) Tryz.underlying22 (by kernel_rfl) (fun _ => rfl) (fun fuel cs x hx => by
  have hl : cs.length = 1 := (trod_lenL Tryz.underlying47 hx)
  match cs, hl with
  | [c], _ =>
   obtain ⟨s, hs, hr⟩ := open_L1 hx
   exact ⟨s, by rw [hs], hr⟩) hv h
 refine ⟨ad, N, cap, ss, hv, hl, fun i hi => ?_, hN⟩;obtain ⟨b, off, e, hc, hr⟩ := hall i hi;have h0 := hc 0 (by omega);simp only [Nat.mul_one, Nat.add_zero, qD] at h0
 exact ⟨b, off, e, h0, hr⟩
theorem szL2S_any (ss : List L2V) {l : Int} {w : World} (hN : ss.length = N) (hF : LSM w ad ss) (hN1 : N <= maxLen) (h0 : 0 <= l) (hl : l <= 1048576) :
  Calls Tryz.prog 4 #[.slice ad N cap, .int .i64 l] w fun e w' => ∃ r, e = .returned (.int .i64 r) /\ -1 <= r /\ r <= 1048576 /\ (0 <= r -> N <= 1048576 /\ ∀ i, i < ss.length -> LS (ss[i]?.getD noL)) /\ Below w.heap.size w w' := by
 have HN : Hid (ss.length = N) := hN;clear hN;unfold maxLen at hN1
 by_cases h : l < N
 ·go_enter Tryz.func4, Tryz.ntmps4
  go_wp2
  go_ret
  exact ⟨-1, rfl, by omega, by omega, fun h => by omega, Below.refl _ _⟩
 have hN2 : N <= 1048576 := by omega
 have h' : (N : Int) <= l := by omega
 go_enter Tryz.func4, Tryz.ntmps4
 go_wp2_with fail
 go_loopw [1, 5] (fun lv i wr => ∃ k : Nat, k <= N /\ i = .int .i64 k /\ ∃ x : Int, lv = .int .i64 x /\ 0 <= x /\ x <= 1048576 /\ Below w.heap.size w wr /\ ∀ i, i < k -> LS (ss[i]?.getD noL)) (fun _ i _ => N - (intOf i).toNat)
 case atStart => exact ⟨0, qM _, rfl, _, rfl, by omega, by omega, Below.refl _ _, fun i hi => by omega⟩
 case round =>
  obtain ⟨k, hk, rfl, x, rfl, hx0, hx1, hb, hall⟩ := hrel;have HA : Hid _ := hall;clear hall
  by_cases hlt : k < N
  ·obtain ⟨b, off, rfl, hc, hr⟩ := (hF.below hb) k (by rw [HN.out]; exact hlt);generalize HG : ss[k]?.getD noL = g at *;have HG' : Hid (ss[k]?.getD noL = g) := HG;clear HG hF;obtain ⟨ga, gn, gcap, gx⟩ := g;have hc' : wr.cell? ⟨b, off + k, none⟩ = some (.slice ga gn gcap) := hc;clear hc
   go_wp2_with fail
   refine (szL_ex gx hr hx0 hx1).mono ?_;rintro e w1 ⟨r, rfl, r0, r1, r2, b1⟩
   by_cases hz : r < 0
   ·go_wp2
    go_ret
    exact ⟨-1, rfl, by omega, by omega, fun h => by omega, btr hb b1⟩
   have hz0 : 0 <= r := by omega
   have HA2 : Hid (∀ i, i < k + 1 -> LS (ss[i]?.getD noL)) := fun i hi => by
    by_cases hik : i < k
    ·exact HA.out i hik
    obtain rfl : i = k := by omega
    rw [HG'.out]; exact r2 hz0
   clear r2
   go_wp2
   go_roundw
   case rel => exact ⟨k + 1, by omega, by go_num, _, rfl, hz0, r1, btr hb b1, HA2.out⟩
   case measure => simp [intOf]; omega
  obtain rfl : k = N := by omega
  go_wp2
  go_ret
  exact ⟨x, rfl, by omega, by omega, fun _ => ⟨hN2, fun i hi => HA.out i (by rw [<- HN.out]; exact hi)⟩, hb⟩
def copiesL2S (ss ts : List L2V) : Prop := ∀ i, i < ts.length -> copiesL2 (ss[i]?.getD noL) (ts[i]?.getD noL)
def InR (lo hi : Nat) (s : L2V) : Prop := (∀ b, s.a = some ⟨b, 0, none⟩ -> lo <= b /\ b < hi) /\ ∀ k, k < s.x.length -> ∀ b, (s.x[k]?.getD noLV).f.c = some ⟨b, 0, none⟩ -> b < hi
theorem LK.inR {s : L2V} (h : LK w lo s) : InR lo w.heap.size s := by
 obtain ⟨B, l, p, q, h1, h2, h3, h4, h5⟩ := h;refine ⟨fun b e => ?_, fun k hk b e => ?_⟩
 ·rw [h1] at e;simp only [qA, qB, and_true] at e;have := h3.lt
  omega
 obtain ⟨a2, a3, a4, a5, a6, a7, a8, a9, a10, a11, a12, a13⟩ := h3.l k hk;rw [a3] at e;simp only [qA, qB, and_true] at e
 omega
structure ML2 (W : World) (B N : Nat) (ts : List L2V) : Prop where
 c : ∃ vs : List Value, Cel W B vs 58 /\ vs.length = N /\ ∀ i, i < ts.length -> vs[i]? = some (ts[i]?.getD noL).v
 l : ∀ i, i < ts.length -> LK W (B + 1) (ts[i]?.getD noL)
 d : ∃ c : Nat -> Nat, B < c 0 /\ c ts.length <= W.heap.size /\ ∀ i, i < ts.length -> c i <= c (i + 1) /\ InR (c i) (c (i + 1)) (ts[i]?.getD noL)
theorem ML2.lt {ts : List L2V} (h : ML2 W B N ts) : B < W.heap.size := by
 obtain ⟨vs, h1, _⟩ := h.c
 exact h1.lt
theorem ML2.below {ts : List L2V} (h : ML2 W B N ts) (b : Below W.heap.size W W') : ML2 W' B N ts := by
 obtain ⟨vs, h1, h2, h3⟩ := h.c;obtain ⟨c, c1, c2, c3⟩ := h.d
 exact ⟨⟨vs, h1.below b, h2, h3⟩, fun i hi => (h.l i hi).below b, c, c1, Nat.le_trans c2 b.size, c3⟩
theorem ML2.g {ts : List L2V} (h : ML2 W B N ts) : LSG W (some ⟨B, 0, none⟩) ts := fun i hi => by
 obtain ⟨vs, h1, h2, h3⟩ := h.c
 exact ⟨B, 0, rfl, by rw [Nat.zero_add, h1.cell i, h3 i hi], (h.l i hi).g⟩
theorem ML2.step {W1 : World} {ts : List L2V} {s : L2V} (h : ML2 W B N ts) (hk : ts.length = k) (hkN : k < N) (b : Below W.heap.size W W1) (hs : LK W1 W.heap.size s) : ML2 (W1.setCell ⟨B, k, none⟩ s.v) B N (ts ++ [s]) := by
 have hB := h.lt;obtain ⟨vs, h1, h2, h3⟩ := (h.below b).c;have T : Touch (fun x => x = B) W1 (W1.setCell ⟨B, k, none⟩ s.v) := Touch.setCell (S := fun x => x = B) (Touch.refl _ _) rfl _;refine ⟨⟨vs.set k s.v, h1.set _ _, by rw [List.length_set]; exact h2, fun i hi => ?_⟩, fun i hi => ?_, ?_⟩
 ·rw [qE, hk] at hi;simp only [qJ, qK] at hi
  by_cases e : i = k
  ·subst e;rw [List.getElem?_set_self (by omega), qF (by omega), hk]; simp
  rw [List.getElem?_set_ne (by omega), qG (by omega)]
  exact h3 i (by omega)
 ·rw [qE, hk] at hi;simp only [qJ, qK] at hi
  by_cases e : i = k
  ·subst e;rw [qF (by omega), hk];simp only [Nat.sub_self, qD, Option.getD_some]
   exact (hs.mono (by omega)).touch T (fun x hx => by omega)
  rw [qG (by omega)]
  exact (((h.l i (by omega)).below b)).touch T (fun x hx => by omega)
 obtain ⟨c, c1, c2, c3⟩ := h.d;have hb := b.size;rw [hk] at c2 c3;refine ⟨fun i => if i <= k then (if i = k then W.heap.size else c i) else W1.heap.size, ?_, ?_, fun i hi => ?_⟩
 ·simp only [qM, if_true]
  split
  ·exact hB
  exact c1
 ·rw [qE, hk, size_setCell];simp only [qJ, qK];rw [if_neg (by omega)]
  exact qL _
 rw [qE, hk] at hi;simp only [qJ, qK] at hi;dsimp only
 by_cases e : i = k
 ·subst e;rw [if_pos (qL _), if_pos rfl, if_neg (by omega), qF (by omega), hk];simp only [Nat.sub_self, qD, Option.getD_some]
  exact ⟨hb, hs.inR⟩
 obtain ⟨d1, d2⟩ := c3 i (by omega);rw [if_pos (by omega), if_neg e, if_pos (by omega), qG (by omega)]
 by_cases e2 : i + 1 = k
 ·rw [if_pos e2];rw [e2] at d1 d2
  exact ⟨Nat.le_trans d1 c2, ⟨fun b hb => ⟨(d2.1 b hb).1, Nat.lt_of_lt_of_le (d2.1 b hb).2 c2⟩, fun j hj b hb => Nat.lt_of_lt_of_le (d2.2 j hj b hb) c2⟩⟩
 rw [if_neg e2]
 exact ⟨d1, d2⟩
theorem Tryz.infoL2 : (Tryz.prog.info? 58).map (fun i => (i.zero, i.size, i.bytes)) = some (some (.slice none 0 0), 1, 24) := by kernel_rfl
theorem toL2S_any (ss : List L2V) {w : World} (hN : ss.length = N) (hF : LSG w ad ss) (hN1 : N <= 1048576) :
  Calls Tryz.prog 7 #[.slice ad N cap] w fun e w' => ∃ ts, e = .returned (.slice (some ⟨w.heap.size, 0, none⟩) N N) /\ ts.length = N /\ copiesL2S ss ts /\ Below w.heap.size w w' /\ ML2 w' w.heap.size N ts := by
 have HN : Hid (ss.length = N) := hN;clear hN;obtain ⟨i0, hi, hz0, hz1, hz2⟩ := info_parts Tryz.infoL2
 go_enter Tryz.func7, Tryz.ntmps7
 go_wp2_with (at_make; refine wpList_make_full _ rfl (.tmp 6) (.tmp 6) 32 rfl w.heap.size 58 i0 (.slice none 0 0) 1 Tryz.underlying32 hi hz0 hz1 .i64 .i64 _ _ N rfl rfl rfl rfl (by rw [hz2]; omega) (by unfold maxLen; omega) (qL _) ?_; intro w1 hown hgrow)
 have hb1 : Below w.heap.size w w1 := (Below.refl _ _).grown hgrow (qL _) (by simp)
 have m0 : ML2 w1 w.heap.size N [] := by
  rcases hown.2 with ⟨h', _⟩ | ⟨g', cap', cur, h', _, hg, _, _, hcs, htake⟩
  ·simp at h'
  simp only [Value.slice.injEq, qA, qB, and_true, true_and] at h';obtain ⟨rfl, rfl⟩ := h'
  exact ⟨⟨cur.toList, by unfold Cel; rw [hg], by simpa using hcs, fun i hi => by simp at hi⟩, fun i hi => by simp at hi, fun _ => w.heap.size + 1, Nat.lt_succ_self _, lt_of_block hg, fun i hi => by simp at hi⟩
 clear hown hgrow hi hz0 hz1 hz2
 go_loopw [4] (fun i wr => ∃ k : Nat, k <= N /\ i = .int .i64 k /\ Below w.heap.size w wr /\ ∃ ts, ts.length = k /\ copiesL2S ss ts /\ ML2 wr w.heap.size N ts) (fun i _ => N - (intOf i).toNat)
 case atStart => exact ⟨0, qM _, rfl, hb1, [], rfl, fun i hi => by simp at hi, m0⟩
 case round =>
  clear hb1 m0;obtain ⟨k, hk, rfl, hb, ts, hts, hcp, hm⟩ := hrel;have HTS : Hid (ts.length = k) := hts;have HCP : Hid (copiesL2S ss ts) := hcp;clear hts hcp
  by_cases hlt : k < N
  ·obtain ⟨b, off, rfl, hc, hr⟩ := (hF.below hb) k (by rw [HN.out]; exact hlt);generalize HG : ss[k]?.getD noL = g at *;have HG' : Hid (ss[k]?.getD noL = g) := HG;clear HG hF;obtain ⟨ga, gn, gcap, gx⟩ := g;have hc' : wr.cell? ⟨b, off + k, none⟩ = some (.slice ga gn gcap) := hc;clear hc
   go_wp2_with fail
   refine (toL_ex gx hr).mono ?_;rintro ee w2 ⟨a2, x2, rfl, b2, hK, hcp2⟩;have ms := hm.step HTS.out hlt b2 hK;obtain ⟨vs, v1, v2, v3⟩ := (hm.below b2).c;obtain ⟨y, hy⟩ : ∃ y, w2.cell? ⟨w.heap.size, k, none⟩ = some y := ⟨_, (v1.cell k).trans (qC (by rw [v2]; exact hlt))⟩
   have hfy := v1.free k;have hb2 := btr hb b2;have RB := hb2.setCell (p := ⟨w.heap.size, k, none⟩) (qL _) (.slice a2 gn gn)
   have CP : copiesL2S ss (ts ++ [⟨a2, gn, gn, x2⟩]) := fun i hi => by
    rw [qE, HTS.out] at hi;simp only [qJ, qK] at hi
    by_cases e : i = k
    ·subst e;rw [qF (by rw [HTS.out]; exact qL _), HTS.out, HG'.out];simpa using hcp2
    rw [qG (by rw [HTS.out]; omega)]
    exact HCP.out i (by rw [HTS.out]; omega)
   have HCP2 : Hid _ := CP;have ms' : ML2 (w2.setCell ⟨w.heap.size, k, none⟩ (.slice a2 gn gn)) w.heap.size N (ts ++ [⟨a2, gn, gn, x2⟩]) := ms;clear hm b2 hb hb2 v1 v2 v3 CP hr hcp2 hK ms
   go_wp2
   go_roundw
   case rel => exact ⟨k + 1, by omega, by go_num, RB, _, by rw [qE, HTS.out]; rfl, HCP2.out, ms'⟩
   case measure => simp [intOf]; omega
  obtain rfl : k = N := by omega
  go_wp2
  go_ret
  exact ⟨ts, rfl, HTS.out, HCP.out, hb, hm⟩
theorem eqL2S_same {ae : Option Addr} {cap' : Nat} (fs gs : List L2V) {w : World} (hN : fs.length = N) (hM : gs.length = N) (hF : LSG w ad fs) (hG : LSG w ae gs) (hN1 : N <= 1048576)
  (hsame : ∀ i, i < N -> sameL2 (fs[i]?.getD noL) (gs[i]?.getD noL)) :
  Calls Tryz.prog 13 #[.slice ad N cap, .slice ae N cap'] w fun e w' => e = .returned (.bool true) /\ Below w.heap.size w w' := by
 have HN : Hid (fs.length = N) := hN;have HM : Hid (gs.length = N) := hM;have HS : Hid _ := hsame;clear hN hM hsame
 go_enter Tryz.func13, Tryz.ntmps13
 go_wp2_with fail
 go_loopw [5] (fun i wr => ∃ k : Nat, k <= N /\ i = .int .i64 k /\ Below w.heap.size w wr) (fun i _ => N - (intOf i).toNat)
 case atStart => exact ⟨0, qM _, rfl, Below.refl _ _⟩
 case round =>
  obtain ⟨k, hk, rfl, hb⟩ := hrel
  by_cases hlt : k < N
  ·obtain ⟨b, off, rfl, hc, hr⟩ := (hF.below hb) k (by rw [HN.out]; exact hlt);obtain ⟨b', off', rfl, hc', hr'⟩ := (hG.below hb) k (by rw [HM.out]; exact hlt);have hs := HS.out k hlt;generalize HG1 : fs[k]?.getD noL = f at *;generalize HG2 : gs[k]?.getD noL = g at *;clear HG1 HG2 hF hG;obtain ⟨fa, fn, fcap, fx⟩ := f;obtain ⟨ga, gn, gcap, gx⟩ := g;have d1 : wr.cell? ⟨b, off + k, none⟩ = some (.slice fa fn fcap) := hc;have d2 : wr.cell? ⟨b', off' + k, none⟩ = some (.slice ga gn gcap) := hc';clear hc hc';have hlt' : (k : Int) < (N : Int) := by omega
   go_wp2_with fail
   go_region_with (first | (go_at_call 42; refine (eqL_ex fx gx (by exact hr.below (Below.refl _ _).drew) (by exact hr'.below (Below.refl _ _).drew) hs).mono ?_; rintro ee w1 ⟨rfl, b1⟩))
   all_goals
    have b1' := below_of_drew b1
    go_wp2
    go_roundw
    case rel => exact ⟨k + 1, by omega, by go_num, btr hb b1'⟩
    case measure => simp [intOf]; omega
  go_wp2
  go_ret
  exact ⟨rfl, hb⟩
theorem copiesL_same {fs hs : List LV} (hg : gs.length = N) (hh : hs.length = N) (h1 : copiesL fs gs) (h2 : copiesL fs hs) : ∀ i, i < N -> sameL (gs[i]?.getD noLV) (hs[i]?.getD noLV) := fun i hi => by
 obtain ⟨a1, a2, a3, a4, a5, a6, _⟩ := h1 i (by omega);obtain ⟨b1, b2, b3, b4, b5, b6, _⟩ := h2 i (by omega);refine ⟨by rw [a1, b1], by rw [a2, b2], by rw [a3, b3], ?_⟩;rw [a4, a5, a6, b4, b5, b6]
 exact eqF_refl
theorem copiesL_map {α : Type} (P : LV -> α) (hP : ∀ f g : LV, f.kind = g.kind -> f.pot = g.pot -> f.skip = g.skip -> f.f.C = g.f.C -> f.f.D = g.f.D -> f.f.K = g.f.K -> f.f.n = g.f.n -> f.f.m = g.f.m -> P f = P g) {fs gs : List LV} (hl : gs.length = fs.length) (h : copiesL fs gs) : gs.map P = fs.map P := by
 apply List.ext_getElem?
 intro i
 by_cases hi : i < gs.length
 ·obtain ⟨a1, a2, a3, a4, a5, a6, a7, a8⟩ := h i hi;have := hP _ _ a1 a2 a3 a4 a5 a6 a7 a8;rw [qC hi, qC (by omega)] at this;simp only [Option.getD_some] at this;rw [List.getElem?_map, List.getElem?_map, qC hi, qC (by omega)];simp [this]
 rw [List.getElem?_eq_none (by simp; omega), List.getElem?_eq_none (by simp; omega)]
theorem copiesL_act {fs : List LV} (hl : gs.length = fs.length) (h : copiesL fs gs) : actB N gs = actB N fs := by
 have h1 := copiesL_map LV.ok (fun f g a1 a2 a3 a4 a5 a6 a7 a8 => by simp only [LV.ok, a1, a2, a3, a4, a5, a6, a7, a8]) hl h;have h2 := copiesL_map LV.tst (fun f g a1 a2 a3 a4 a5 a6 a7 a8 => by simp only [LV.tst, a1]) hl h;have e1 : ∀ xs : List LV, xs.all LV.ok = (xs.map LV.ok).all id := fun xs => by simp [List.all_map]
 have e2 : ∀ xs : List LV, tests xs = (xs.map LV.tst).countP id := fun xs => by simp [tests, List.countP_map]
 rw [actB, actB, e1, e1, e2, e2, h1, h2]
def L2V.ok (s : L2V) : Bool := actB s.n s.x
def catB (N : Nat) (ss : List L2V) : Bool := inB N 1 4 && ss.all L2V.ok
theorem allC_take_succ {ls : List L2V} (h : k < ls.length) (h1 : (ls.take k).all L2V.ok = true) (h2 : (ls[k]?.getD noL).ok = true) : (ls.take (k + 1)).all L2V.ok = true := by
 rw [qI h, List.all_append, h1];rw [qC h] at h2;simpa using h2
theorem allC_no {ls : List L2V} (h : k < ls.length) (h2 : (ls[k]?.getD noL).ok = false) : ls.all L2V.ok = false := by
 rw [List.all_eq_false];rw [qC h] at h2
 exact ⟨ls[k], List.getElem_mem h, by simpa using h2⟩
theorem scat_any (ss : List L2V) {w : World} (hN : ss.length = N) (hF : LSG w ad ss) (hN1 : N <= 1048576) :
  Calls Tryz.prog 23 #[.slice ad N cap] w fun e w' => e = .returned (.bool (catB N ss)) /\ Below w.heap.size w w' := by
 have HN : Hid (ss.length = N) := hN;clear hN
 cases hib : inB N 1 4
 ·go_enter Tryz.func23, Tryz.ntmps23
  go_wp2_with fail
  refine (in_any).mono ?_;rintro e w1 ⟨rfl, rfl⟩;rw [hib]
  go_wp2
  go_ret
  exact ⟨ret_bool (by rw [catB, hib]; rfl), Below.refl _ _⟩
 go_enter Tryz.func23, Tryz.ntmps23
 go_wp2_with fail
 refine (in_any).mono ?_;rintro e w1 ⟨rfl, hw1⟩;rw [hib, hw1];clear hw1
 go_wp2_with fail
 have HCB : Hid (catB N ss = ss.all L2V.ok) := by show catB N ss = _; rw [catB, hib]; rfl
 go_loopw [3] (fun  i wr => ∃ k : Nat, k <= N /\ i = .int .i64 k /\ Below w.heap.size w wr /\ (ss.take k).all L2V.ok = true) (fun i _ => N - (intOf i).toNat)
 case atStart => exact ⟨0, qM _, rfl, Below.refl _ _, by simp⟩
 case round =>
  obtain ⟨k, hk, rfl, hb, hall⟩ := hrel;have HA : Hid ((ss.take k).all L2V.ok = true) := hall;clear hall
  by_cases hlt : k < N
  ·obtain ⟨b, off, rfl, hc, hr⟩ := (hF.below hb) k (by rw [HN.out]; exact hlt);generalize HG : ss[k]?.getD noL = g at *;have HG' : Hid (ss[k]?.getD noL = g) := HG;clear HG hF;obtain ⟨ga, gn, gcap, gx⟩ := g;have hc' : wr.cell? ⟨b, off + k, none⟩ = some (.slice ga gn gcap) := hc;clear hc
   cases hf : actB gn gx
   ·go_wp2_with fail
    refine (sact_any gx hr.1 hr.2.1 hr.2.2).mono ?_;rintro e w1 ⟨rfl, b1⟩;rw [hf]
    go_wp2
    go_ret
    exact ⟨ret_bool (by rw [HCB.out, allC_no (k := k) (by rw [HN.out]; exact hlt) (by rw [HG'.out]; exact hf)]), btr hb b1⟩
   go_wp2_with fail
   refine (sact_any gx hr.1 hr.2.1 hr.2.2).mono ?_;rintro e w1 ⟨rfl, b1⟩;rw [hf]
   go_wp2
   go_roundw
   case rel => exact ⟨k + 1, by omega, by go_num, btr hb b1, allC_take_succ (by rw [HN.out]; exact hlt) HA.out (by rw [HG'.out]; exact hf)⟩
   case measure => simp [intOf]; omega
  go_wp2
  go_ret
  exact ⟨ret_bool (by rw [HCB.out]; have := HA.out; rw [qH (by rw [HN.out]; omega)] at this; exact this.symm), hb⟩
theorem icat_any (ad : Option Addr) (N cap : Nat) (ss : List L2V) {w : World} (hN : ss.length = N) (hF : LSG w ad ss) (hN1 : N <= 1048576) :
  Calls Tryz.prog 31 #[.slice ad N cap] w fun e w' => e = .returned (.bool (catB N ss)) /\ Below w.heap.size w w' := by
 have HN : Hid (ss.length = N) := hN;clear hN
 by_cases h1 : N < 1
 ·have hib : inB N 1 4 = false := inB_not.2 (by omega)
  go_enter Tryz.func31, Tryz.ntmps31
  go_wp2
  go_ret
  exact ⟨ret_bool (by rw [catB, hib]; rfl), Below.refl _ _⟩
 by_cases h4 : 4 < N
 ·have hib : inB N 1 4 = false := inB_not.2 (by omega)
  go_enter Tryz.func31, Tryz.ntmps31
  go_wp2
  go_ret
  exact ⟨ret_bool (by rw [catB, hib]; rfl), Below.refl _ _⟩
 have hib : inB N 1 4 = true := inB_iff.2 (by omega)
 go_enter Tryz.func31, Tryz.ntmps31
 go_wp2_with fail
 have HCB : Hid (catB N ss = ss.all L2V.ok) := by show catB N ss = _; rw [catB, hib]; rfl
 go_loopw [4, 15] (fun _ i wr => ∃ k : Nat, k <= N /\ i = .int .i64 k /\ Below w.heap.size w wr /\ (ss.take k).all L2V.ok = true) (fun _ i _ => N - (intOf i).toNat)
 case atStart => exact ⟨0, qM _, rfl, Below.refl _ _, by simp⟩
 case round =>
  obtain ⟨k, hk, rfl, hb, hall⟩ := hrel;have HA : Hid ((ss.take k).all L2V.ok = true) := hall;clear hall
  by_cases hlt : k < N
  ·obtain ⟨b, off, rfl, hc, hr⟩ := (hF.below hb) k (by rw [HN.out]; exact hlt);generalize HG : ss[k]?.getD noL = g at *;have HG' : Hid (ss[k]?.getD noL = g) := HG;clear HG hF;obtain ⟨ga, gn, gcap, gx⟩ := g;have hc' : wr.cell? ⟨b, off + k, none⟩ = some (.slice ga gn gcap) := hc;clear hc
   cases hf : actB gn gx
   ·go_wp2_with fail
    refine (iact_any _ _ _ gx hr.1 hr.2.1 hr.2.2).mono ?_;rintro e w1 ⟨rfl, b1⟩;rw [hf]
    go_wp2
    go_ret
    exact ⟨ret_bool (by rw [HCB.out, allC_no (k := k) (by rw [HN.out]; exact hlt) (by rw [HG'.out]; exact hf)]), btr hb b1⟩
   go_wp2_with fail
   refine (iact_any _ _ _ gx hr.1 hr.2.1 hr.2.2).mono ?_;rintro e w1 ⟨rfl, b1⟩;rw [hf]
   go_wp2
   go_roundw
   case rel => exact ⟨k + 1, by omega, by go_num, btr hb b1, allC_take_succ (by rw [HN.out]; exact hlt) HA.out (by rw [HG'.out]; exact hf)⟩
   case measure => simp [intOf]; omega
  go_wp2
  go_ret
  exact ⟨ret_bool (by rw [HCB.out]; have := HA.out; rw [qH (by rw [HN.out]; omega)] at this; exact this.symm), hb⟩
def addPb (ps : List (List Int)) (p : List Int) : List (List Int) := if p ∈ ps \/ p = [0, 0, 0] then ps else ps ++ [p]
def guardsP (ps : List (List Int)) (fs : List Frm) : List (List Int) := fs.foldl (fun ps f => addPb ps (partL f.1)) ps
def rowsP (ps : List (List Int)) (rs : List RowM) : List (List Int) := rs.foldl (fun ps r => guardsP ps r.guards) ps
def actsP (ps : List (List Int)) (ss : List L2V) : List (List Int) := ss.foldl (fun ps s => rowsP ps (rowsL s.x)) ps
def pots3 : List (List Int) := [[1, 0, 0], [0, 1, 0], [0, 0, 1]]
def catP (ss : List L2V) : List (List Int) := actsP pots3 ss
def pinsA (ss : List L2V) (v : Nat) : Bool := ss.any fun s => readsR (rowsL s.x) v
theorem foldl_take {α β : Type} {f : β -> α -> β} {b : β} {xs : List α} {d : α} (h : k < xs.length) : (xs.take (k + 1)).foldl f b = f ((xs.take k).foldl f b) (xs[k]?.getD d) := by
 rw [qI h, List.foldl_append, qC h]; rfl
theorem guardsP_snoc (ps : List (List Int)) (fs : List Frm) (k : Nat) (h : k < fs.length) : guardsP ps (fs.take (k + 1)) = addPb (guardsP ps (fs.take k)) (partL (fs[k]?.getD ([], [], 0)).1) := foldl_take h
theorem rowsP_snoc {rs : List RowM} (h : k < rs.length) : rowsP ps (rs.take (k + 1)) = guardsP (rowsP ps (rs.take k)) (rs[k]?.getD noR).guards := foldl_take h
theorem actsP_snoc {ss : List L2V} (h : k < ss.length) : actsP ps (ss.take (k + 1)) = rowsP (actsP ps (ss.take k)) (rowsL (ss[k]?.getD noL).x) := foldl_take h
theorem pinsA_snoc (ss : List L2V) (k : Nat) (h : k < ss.length) (v : Nat) : pinsA (ss.take (k + 1)) v = (pinsA (ss.take k) v || readsR (rowsL (ss[k]?.getD noL).x) v) := by
 rw [pinsA, qI h, List.any_append, qC h];simp [pinsA]
theorem has_mem (p : List Int) : ∀ (ps : List (List Int)) (k : Nat), (hasFrom p k ps < 0 ↔ p ∉ ps)
 | [], k => by simp [hasFrom]
 | q :: ps, k => by
  rw [hasFrom]
  by_cases e : q = p
  ·subst e; simp [eqB]
  have h1 : eqB q p = false := by simp [eqB, e]
  rw [h1];have := has_mem p ps (k + 1);simp only [Bool.false_eq_true, if_false, this, List.mem_cons, not_or]
  exact ⟨fun h => ⟨fun h2 => e h2.symm, h⟩, fun h => h.2⟩
theorem addP_has (h : ¬ hasFrom p 0 ps < 0) : addPb ps p = ps := by
 rw [has_mem] at h;rw [addPb, if_pos (.inl (Classical.not_not.1 h))]
theorem addP_zero (h : p = [0, 0, 0]) : addPb ps p = ps := by rw [addPb, if_pos (.inr h)]
theorem addP_new (h : hasFrom p 0 ps < 0) (h2 : p ≠ [0, 0, 0]) : addPb ps p = ps ++ [p] := by
 rw [has_mem] at h;rw [addPb, if_neg (by rintro (h' | h'); exact h h'; exact h2 h')]
theorem Ints.blkB {b off : Nat} {zs : List Int} (h : Ints w (some ⟨b, off, none⟩) n zs) (hn : 0 < n) : b < w.heap.size := by
 obtain ⟨b', o', e, hc⟩ := h.2 0 hn;simp only [qA, qB, and_true] at e;obtain ⟨rfl, rfl⟩ := e
 exact block_lt hc
structure JP (w : World) (G cap : Nat) (ts : List IV) (W : World) : Prop where
 b : Below w.heap.size w W
 o : W.ownsRow w.heap.size 23 1 (.slice (some ⟨G, 0, none⟩) ts.length cap) ts.length (ts.map IV.v)
 k : ∀ j, j < ts.length -> (ts[j]?.getD noI).n = 3 /\ Ints W (ts[j]?.getD noI).a 3 (ts[j]?.getD noI).x /\ ∀ b o, (ts[j]?.getD noI).a = some ⟨b, o, none⟩ -> b ≠ G
theorem JP.nil (w W : World) (hb : Below w.heap.size w W) : JP w W.heap.size 0 [] (W.alloc (.cells #[] 23)) :=
 ⟨hb.alloc hb.size _, World.ownsRow_lit W #[] 0 hb.size (by unfold maxLen; omega) rfl, fun j hj => by simp at hj⟩
theorem JP.below {ts : List IV} (j : JP w G cap ts W) (h : Below W.heap.size W W') : JP w G cap ts W' :=
 ⟨j.b.trans (h.mono j.b.size), own_below j.o h, fun i hi => by obtain ⟨a, b, c⟩ := j.k i hi; exact ⟨a, b.below h, c⟩⟩
theorem JP.lt {ts : List IV} (j : JP w G cap ts W) : w.heap.size <= G /\ G < W.heap.size := by
 rcases j.o.2 with ⟨h, _⟩ | ⟨g, cap', cur, h, hg, hh, _⟩
 ·cases h
 simp only [Value.slice.injEq, qA, qB, and_true, true_and] at h;obtain ⟨rfl, _⟩ := h
 exact ⟨hg, lt_of_block hh⟩
theorem JP.g {ts : List IV} (j : JP w G cap ts W) : ISG W (some ⟨G, 0, none⟩) ts := fun i hi => by
 obtain ⟨h1, h2, h3⟩ := j.k i hi;refine ⟨G, 0, rfl, ?_, ?_, by omega⟩
 ·rw [Nat.zero_add, own_cell j.o i (by omega), List.getElem?_map, qC hi]; rfl
 rw [h1]; exact h2
theorem JP.app {g cp : Nat} {ts : List IV} {s : IV} {o : Obj} (j : JP w G cap ts W) (hk : ts.length = k) (hs : s.n = 3) (hI : Ints W s.a 3 s.x) (hb : ∀ b o, s.a = some ⟨b, o, none⟩ -> b ≠ G)
  (hown : W'.ownsRow w.heap.size 23 1 (.slice (some ⟨g, 0, none⟩) (k + 1) cp) (k + 1) (ts.map IV.v ++ [s.v])) (hg : (W.alloc o).grownBy W' (some G)) (hat : g = G \/ W.heap.size <= g) : JP w g cp (ts ++ [s]) W' := by
 subst hk;have A : Below W.heap.size W (W.alloc o) := bal;have ja := j.below A;have T : Touch (fun y => y = G) (W.alloc o) W' := ⟨hg.os, hg.tape, hg.output, hg.size, fun z hz hn => hg.block z hz (fun e => hn (by simpa using e))⟩
 have key : ∀ (a : Option Addr) (x : List Int), Ints W a 3 x -> (∀ b o, a = some ⟨b, o, none⟩ -> b ≠ G) -> Ints W' a 3 x /\ ∀ b o, a = some ⟨b, o, none⟩ -> b ≠ g := fun a x h1 h2 => by
  refine ⟨(h1.below A).offC (fun b o e => h2 b o e) T, fun b o e => ?_⟩;have h3 := h2 b o e;subst e;have := h1.blkB (by omega)
  omega
 refine ⟨ja.b.grown hg ja.b.size (fun z hz => ?_), ?_, fun i hi => ?_⟩
 ·have := j.lt;simp only [qA] at hz
  omega
 ·rw [qE, List.map_append]; exact hown
 by_cases h : i < ts.length
 ·rw [qG h];obtain ⟨a, b, c⟩ := j.k i h
  exact ⟨a, key _ _ b c⟩
 rw [qE, List.length_singleton] at hi;obtain rfl : i = ts.length := by omega
 rw [qF (qL _), Nat.sub_self]
 exact ⟨hs, key _ _ hI hb⟩
abbrev kV (a b c : Int) : Value := .agg #[.int .i64 a, .int .i64 b, .int .i64 c]
abbrev KT : TypeId := 107
theorem arr3 : ArrKey Tryz.prog KT 3 3 := ⟨Tryz.underlying107, by kernel_rfl, by kernel_rfl, by kernel_rfl⟩
theorem law3 : Maps.Keyed Tryz.prog KT := Maps.Keyed.of_law arr3.law
theorem szT : ∃ m, Tryz.prog.types.size = m + 1 := ⟨Tryz.prog.types.size - 1, by have h : (0 : Nat) < Tryz.prog.types.size := of_decide_eq_true (by kernel_rfl); omega⟩
def kL (a b c : Int) : Lit := .string (keyBytes [.int .i64 a, .int .i64 b, .int .i64 c])
theorem keyOf_three {a b c : Int} (wa : (Lit.int .i64 a).wf = true) (wb : (Lit.int .i64 b).wf = true) (wc : (Lit.int .i64 c).wf = true) : keyOf Tryz.prog KT (kV a b c) = some (kL a b c) := by
 have hkt := arr3.keyType szT;obtain ⟨m, hm⟩ := szT;unfold keyOf;simp only [arr3.hu];rw [if_pos (by simp [hkt, Value.formed, arr3.hu, arr3.size]), hm];unfold Program.keyLits;simp only [arr3.hu, Value.cells];rw [if_pos (by rw [arr3.size]; rfl), show List.range 3 = [0, 1, 2] from rfl, List.mapM_cons, List.mapM_cons, List.mapM_cons, List.mapM_nil];simp [arr3.one, Program.keyLits, Tryz.underlying3, wa, wb, wc, kL]
theorem lit_one {m : Nat} {x : Value} {L : List Lit} (h : Tryz.prog.keyLits (m + 1) 3 [x] = some L) : ∃ a, x = .int .i64 a /\ (Lit.int .i64 a).wf = true /\ L = [.int .i64 a] := by
 unfold Program.keyLits at h;simp only [Tryz.underlying3] at h
 split at h
 all_goals first
  | (cases h; done)
  | skip
 all_goals simp_all
theorem inv3 {key : Value} {kl : Lit} (h : keyOf Tryz.prog KT key = some kl) : ∃ a b c, key = kV a b c /\ kl = kL a b c /\ (Lit.int .i64 a).wf = true /\ (Lit.int .i64 b).wf = true /\ (Lit.int .i64 c).wf = true := by
 obtain ⟨xs, L, rfl, hl, rfl⟩ := keyOf_top arr3.wide h;obtain ⟨m, hm⟩ := szT;rw [hm] at hl;unfold Program.keyLits at hl;simp only [arr3.hu] at hl
 split at hl
 ·rename_i hlen
  rw [arr3.size] at hlen
  obtain ⟨x, y, z, rfl⟩ : ∃ x y z, xs = #[x, y, z] := by
   match xs, hlen with
   | ⟨[x, y, z]⟩, _ => exact ⟨x, y, z, rfl⟩
  rw [show List.range 3 = [0, 1, 2] from rfl, List.mapM_cons, List.mapM_cons, List.mapM_cons, List.mapM_nil] at hl;simp only [arr3.one, bind, pure, Option.map_eq_some_iff, Option.bind_eq_some_iff] at hl;obtain ⟨aa, ⟨l0, h0, l1', ⟨l1, h1, l2', ⟨l2, h2, l3, e3, e2⟩, e1⟩, e0⟩, rfl⟩ := hl;simp only [qA] at e3 e2 e1 e0;subst e3 e2 e1 e0;obtain ⟨a, rfl, wa, rfl⟩ := lit_one (m := m) (x := x) (by simpa using h0);obtain ⟨b, rfl, wb, rfl⟩ := lit_one (m := m) (x := y) (by simpa using h1);obtain ⟨c, rfl, wc, rfl⟩ := lit_one (m := m) (x := z) (by simpa using h2)
  exact ⟨a, b, c, rfl, rfl, wa, wb, wc⟩
 cases hl
def kP (p : List Int) : Lit := kL (p[0]?.getD 0) (p[1]?.getD 0) (p[2]?.getD 0)
def wfP (p : List Int) : Prop := p.length = 3 /\ ∀ i, i < 3 -> (Lit.int .i64 (p[i]?.getD 0)).wf = true
theorem keyOf_P (h : wfP p) : keyOf Tryz.prog KT (kV (p[0]?.getD 0) (p[1]?.getD 0) (p[2]?.getD 0)) = some (kP p) := keyOf_three (h.2 0 (by omega)) (h.2 1 (by omega)) (h.2 2 (by omega))
theorem three_eq (h : p.length = 3) : p = [p[0]?.getD 0, p[1]?.getD 0, p[2]?.getD 0] := by
 match p, h with
 | [a, b, c], _ => rfl
theorem kP_inj {q : List Int} (hp : wfP p) (hq : wfP q) (h : kP p = kP q) : p = q := by
 have := law3.inj (keyOf_P hp) (h ▸ keyOf_P hq);simp only [kV, Value.agg.injEq, Array.mk.injEq, List.cons.injEq, Value.int.injEq, true_and, and_true] at this;obtain ⟨h0, h1, h2⟩ := this;rw [three_eq hp.1, three_eq hq.1, h0, h1, h2]
theorem wf_wrap {z : Int} : (Lit.int .i64 (wrap64 z)).wf = true := wrap64_wf z
theorem wfP_part {C : List Int} (h : C.length = 3) : wfP (partL C) := by
 refine ⟨by rw [part_len, h], fun i hi => ?_⟩;rw [partL, mulW_get (by omega)]
 exact wf_wrap
theorem key_lit (p : List Int) : WideAt.IsKeyLit (kP p) := trivial
structure MapIs (D : DataW Unit) (ps : List (List Int)) : Prop where
 sz : Maps.size D = ps.length
 ix : ∀ j, j < ps.length -> ∀ z, D.atKey (kP (ps[j]?.getD [])) z = .lit (.int .i64 j)
 has : ∀ p, wfP p -> (Maps.has D (kP p) = true ↔ p ∈ ps)
 wf : ∀ p ∈ ps, wfP p
theorem MapIs.empty : MapIs (.map []) [] := ⟨rfl, fun j hj => by simp at hj, fun p _ => by simp [Maps.has], fun p hp => by simp at hp⟩
theorem MapIs.put {D : DataW Unit} (h : MapIs D ps) (hT : Maps.Tidy D) (hp : wfP p) (hn : p ∉ ps) : MapIs (D.put (kP p) (.lit (.int .i64 (ps.length : Int)))) (ps ++ [p]) := by
 have hno : Maps.has D (kP p) = false := by
  cases hh : Maps.has D (kP p) with
  | false => rfl
  | true => exact absurd ((h.has p hp).1 hh) hn
 refine ⟨?_, fun j hj z => ?_, fun q hq => ?_, fun q hq => ?_⟩
 ·rw [Maps.size_put hT, hno, h.sz]; simp
 ·by_cases e : j < ps.length
  ·have hm : ps[j]?.getD [] ∈ ps := by rw [qC e]; exact List.getElem_mem e
   rw [qG e, Maps.atKey_put_other (fun e2 => hn (by rw [<- kP_inj (h.wf _ hm) hp e2]; exact hm))]
   exact h.ix j e z
  rw [qE, List.length_singleton] at hj;obtain rfl : j = ps.length := by omega
  rw [qF (qL _), Nat.sub_self]
  exact Maps.atKey_put_same hT.isMap (key_lit p) _ z
 ·by_cases e : q = p
  ·subst e;simp [Maps.has_put_same hT.isMap (key_lit q)]
  rw [Maps.has_put_other (fun e2 => e (kP_inj hq hp e2)), h.has q hq];simp [e]
 rcases List.mem_append.1 hq with hq | hq
 ·exact h.wf q hq
 simp only [List.mem_cons, List.not_mem_nil, or_false] at hq;subst hq; exact hp
abbrev ET : TypeId := 3
abbrev OwnM (W : World) (B n : Nat) (D : DataW Unit) : Prop := W.ownsMap Tryz.prog KT (plainElem Tryz.prog ET) B n D
theorem OwnM.no {D : DataW Unit} (h : OwnM W B n D) : ∀ o, W.cell? ⟨B, o, none⟩ = none := fun o => by
 obtain ⟨es, clock, hb, _⟩ := h;simp [World.cell?, hb]
theorem FormsAt.pastM {D : DataW Unit} {fs : List Frm} (h : FormsAt W a fs) (m : OwnM W B n D) (t : Touch (fun z => z = B) W W') : FormsAt W' a fs :=
 h.past (fun o v hv => by rw [m.no o] at hv; cases hv) t
theorem touch_grownQ (h : W.grownBy W' (some B)) : Touch (fun z => z = B) W W' := ⟨h.os, h.tape, h.output, h.size, fun z hz hn => h.block z hz (fun e => hn (by simpa using e))⟩
theorem OwnM.below {D : DataW Unit} (h : OwnM W B n D) (b : Below W.heap.size W W') : OwnM W' B n D := by
 obtain ⟨es, clock, hb, r⟩ := h
 exact ⟨es, clock, (b.block B (lt_of_block hb)).trans hb, r⟩
theorem OwnM.touch {D : DataW Unit} (h : OwnM W B n D) (t : Touch S W W') (hn : ¬ S B) : OwnM W' B n D := by
 obtain ⟨es, clock, hb, r⟩ := h
 exact ⟨es, clock, (t.block B (lt_of_block hb) hn).trans hb, r⟩
theorem zeroE : (zeroValue ET).run Tryz.prog w = .ok (.int .i64 0) w := by kernel_rfl
theorem three_set {P : Nat} {vs : List Value} {t : TypeId} (h : Cel W P vs t) (hl : vs.length = 3) (x y z : Value) : Cel (W.setCells P 0 [x, y, z]) P [x, y, z] t /\ Touch (fun k => k = P) W (W.setCells P 0 [x, y, z]) := by
 simp only [World.setCells];refine ⟨?_, (((Touch.refl (fun k => k = P) W).setCell rfl _).setCell rfl _).setCell rfl _⟩;have := ((h.set 0 x).set 1 y).set 2 z
 match vs, hl with
 | [a, b, c], _ => exact this
theorem eq3 (hp : wfP p) (w : World) : ∃ r : Bool, (Op.equalIn 10000 KT (kV (p[0]?.getD 0) (p[1]?.getD 0) (p[2]?.getD 0)) (kV 0 0 0)).run Tryz.prog w = .ok r w /\ (r = true ↔ p = [0, 0, 0]) := by
 have h0 : wfP [0, 0, 0] := ⟨rfl, fun i hi => by
  match i, hi with
  | 0, _ => rfl
  | 1, _ => rfl
  | 2, _ => rfl⟩
 obtain ⟨r, h1, h2⟩ := run_equal_deep w (m := 2) (by omega) (arr3.at 0) arr3.wide (keyOf_P hp) (keyOf_P h0)
 exact ⟨r, h1, h2.trans ⟨fun h => kP_inj hp h0 h, fun h => by rw [h]⟩⟩
theorem iput_any (B n : Nat) (D : DataW Unit) (ps : List (List Int)) (ad : Option Addr) (N cap : Nat) (fs : List Frm) (w : World) (hm : OwnM w B n D) (hD : MapIs D ps) (hn : n <= 1000000000) (hN : fs.length = N) (hF : FormsAt w ad fs) (hfit : ∀ k, k < N -> fitX 10000000 (fs[k]?.getD ([], [], 0))) (hN1 : N <= 1048576 := by omega) :
  Calls Tryz.prog 62 #[.map (some B), .slice ad N cap] w fun e w' => (∃ v, e = .returned v) /\ Touch (fun z => z = B) w w' /\ ∃ D', OwnM w' B (n + N) D' /\ MapIs D' (guardsP ps fs) := by
 have HN : Hid (fs.length = N) := hN;have HF : Hid (FormsAt w ad fs) := hF;have HFT : Hid _ := hfit;have HM : Hid (OwnM w B n D) := hm;have HD : Hid (MapIs D ps) := hD;have hBw : B < w.heap.size := hm.lt;clear hN hF hfit hm hD
 go_enter Tryz.func62, Tryz.ntmps62
 go_wp2_with fail
 go_loopw [5, 6, 7, 8, 9, 12] (fun _ _ _ _ _ i wr => ∃ (k : Nat) (D : DataW Unit), k <= N /\ i = .int .i64 k /\ Touch (fun z => z = B) w wr /\ OwnM wr B (n + k) D /\ MapIs D (guardsP ps (fs.take k))) (fun _ _ _ _ _ i _ => N - (intOf i).toNat)
 case atStart => exact ⟨0, D, qM _, rfl, Touch.refl _ _, HM.out, HD.out⟩
 case round =>
  clear HD;obtain ⟨k, D1, hk, rfl, t, m, d⟩ := hrel;have HD : Hid (MapIs D1 (guardsP ps (fs.take k))) := d;clear d
  by_cases hlt : k < N
  ·have hlt' : (k : Int) < N := by omega
   have hkl : k < fs.length := by rw [HN.out]; exact hlt
   have HS : Hid (guardsP ps (fs.take (k + 1)) = addPb (guardsP ps (fs.take k)) (partL (fs[k]?.getD ([], [], 0)).1)) := guardsP_snoc ps fs k hkl;have HW : Hid (wfP (partL (fs[k]?.getD ([], [], 0)).1)) := wfP_part (HFT.out k hlt).1;obtain ⟨b, off, rfl, a', c', ca, cc, c0, c1, c2, iC, iD⟩ := (HF.out.pastM HM.out t) k hkl;generalize (fs[k]?.getD ([], [], 0)).1 = C at *;generalize (fs[k]?.getD ([], [], 0)).2.2 = kz at *;generalize guardsP ps (fs.take k) = qs at *;have lB : B < wr.heap.size := m.lt;have b1 : Below wr.heap.size wr ((wr.alloc (.cells #[.slice a' 3 ca, .slice c' 2 cc, .int .i64 kz] 81)).alloc (.cells #[.int .i64 0, .int .i64 0, .int .i64 0] KT)) := (bal).alloc (by simp) _;have fb := (Cel.new wr [.slice a' 3 ca, .slice c' 2 cc, .int .i64 kz] 81).alloc (.cells #[.int .i64 0, .int .i64 0, .int .i64 0] KT);have pb := Cel.new (wr.alloc (.cells #[.slice a' 3 ca, .slice c' 2 cc, .int .i64 kz] 81)) [.int .i64 0, .int .i64 0, .int .i64 0] KT;rw [World.size_alloc] at pb
   go_upto_region 4 with fail
   obtain ⟨Z, hZ⟩ : ∃ Z, Z = (wr.alloc (.cells #[.slice a' 3 ca, .slice c' 2 cc, .int .i64 kz] 81)).alloc (.cells #[.int .i64 0, .int .i64 0, .int .i64 0] KT) := ⟨_, rfl⟩
   rw [<- hZ] at b1 fb pb ⊢;clear hZ c0 c1 c2;have KP : Hid (∀ W, Below Z.heap.size Z W -> (W.cell? ⟨wr.heap.size, 0, none⟩ = some (.slice a' 3 ca) /\ W.cell? ⟨wr.heap.size, 1, none⟩ = some (.slice c' 2 cc) /\ W.cell? ⟨wr.heap.size, 2, none⟩ = some (.int .i64 kz))) := fun W hW => ⟨(fb.below hW).cell 0, (fb.below hW).cell 1, (fb.below hW).cell 2⟩
   have e0 : Below Z.heap.size Z Z.drew := (Below.refl _ _).drew;have hSS := And.intro (KP.out _ e0) (True.intro);have lP := pb.lt;refine wp_region_ends (fun w' => w'.cell? ⟨wr.heap.size, 0, none⟩ = some (.slice a' 3 ca) /\ w'.cell? ⟨wr.heap.size, 1, none⟩ = some (.slice c' 2 cc) /\ w'.cell? ⟨wr.heap.size, 2, none⟩ = some (.int .i64 kz)) (fun _ => True) 3 (by kernel_rfl) ?_;refine tkl 0 rfl hSS ?_;refine tkl 1 rfl hSS ?_;simp only [Act.put, List.setIfInBounds_toArray, List.set_cons_succ, List.set_cons_zero, List.getElem_toArray, List.getElem_cons_succ, List.getElem_cons_zero];clear hSS;refine wo1 2 rfl fun K hK => ?_;go_simp;refine (ipart_any 3 2 C ((iC.below b1).below e0)).mono ?_;rintro ee w4 ⟨rfl, bd4, k4⟩;have b4 : Below Z.heap.size Z w4 := btr e0 bd4;have zd : Z.drew.heap.size = Z.heap.size := rfl;rw [zd] at k4;(try dsimp only);refine kk0 hK (KP.out _ b4) ?_;have p4 := pb.below b4;have hp3 : (partL C).length = 3 := HW.out.1
   have hr : (Builtin.copy_ #[23, 23] 3 #[.slice (some ⟨wr.heap.size + 1, 0, none⟩) 3 3, .slice (some ⟨Z.heap.size + 1, 0, none⟩) 3 3]).run Tryz.prog w4 = .ok (goInt 3) (w4.setCells (wr.heap.size + 1) 0 [.int .i64 ((partL C)[0]?.getD 0), .int .i64 ((partL C)[1]?.getD 0), .int .i64 ((partL C)[2]?.getD 0)]) :=
    run_copy_cells w4 23 23 3 3 (wr.heap.size + 1) 0 3 3 ⟨Z.heap.size + 1, 0, none⟩ 3 3 [.int .i64 ((partL C)[0]?.getD 0), .int .i64 ((partL C)[1]?.getD 0), .int .i64 ((partL C)[2]?.getD 0)] Tryz.underlying23 (by kernel_rfl) rfl
     (fun j v hv => by
      have hadd : (⟨Z.heap.size + 1, 0, none⟩ : Addr).add j = ⟨Z.heap.size + 1, j, none⟩ := by
       by_cases h0 : j = 0
       ·subst h0; simp [Addr.add]
       simp [Addr.add, h0]
      rw [hadd]
      match j with
      | 0 => simp only [qD, qA] at hv; subst hv; rw [k4.cell 0 (by omega), List.getD_eq_getElem?_getD]
      | 1 => simp only [qD, List.getElem?_cons_succ, qA] at hv; subst hv; rw [k4.cell 1 (by omega), List.getD_eq_getElem?_getD]
      | 2 => simp only [qD, List.getElem?_cons_succ, qA] at hv; subst hv; rw [k4.cell 2 (by omega), List.getD_eq_getElem?_getD]
      | j + 3 => simp at hv)
     (fun j hj => by
      have hj3 : j < 3 := hj;rw [Nat.zero_add, p4.cell j]
      match j, hj3 with
      | 0, _ => rfl
      | 1, _ => rfl
      | 2, _ => rfl)
     (fun j hj => by rw [Nat.zero_add]; exact p4.free j)
     (by simp [Value.oneCell'])
   obtain ⟨p5, t5⟩ := three_set p4 rfl (.int .i64 ((partL C)[0]?.getD 0)) (.int .i64 ((partL C)[1]?.getD 0)) (.int .i64 ((partL C)[2]?.getD 0));have s4 := b4.size;have s1 := b1.size;have m5 : OwnM (w4.setCells (wr.heap.size + 1) 0 [.int .i64 ((partL C)[0]?.getD 0), .int .i64 ((partL C)[1]?.getD 0), .int .i64 ((partL C)[2]?.getD 0)]) B (n + k) D1 := ((m.below b1).below b4).touch t5 (fun h => by have : B = wr.heap.size + 1 := h; omega)
   have T5 : Touch (fun z => z = B) w (w4.setCells (wr.heap.size + 1) 0 [.int .i64 ((partL C)[0]?.getD 0), .int .i64 ((partL C)[1]?.getD 0), .int .i64 ((partL C)[2]?.getD 0)]) := by
    have tw := t.size;have tb := (t.trans (Touch.of b1)).trans (Touch.of b4);refine ⟨t5.os.trans tb.os, t5.tape.trans tb.tape, t5.output.trans tb.output, Nat.le_trans tb.size t5.size, fun z hz hz2 => ?_⟩;rw [t5.block z (Nat.lt_of_lt_of_le hz tb.size) (by omega)]
    exact tb.block z hz hz2
   have KP5 : (w4.setCells (wr.heap.size + 1) 0 [.int .i64 ((partL C)[0]?.getD 0), .int .i64 ((partL C)[1]?.getD 0), .int .i64 ((partL C)[2]?.getD 0)]).cell? ⟨wr.heap.size, 0, none⟩ = some (.slice a' 3 ca) /\ (w4.setCells (wr.heap.size + 1) 0 [.int .i64 ((partL C)[0]?.getD 0), .int .i64 ((partL C)[1]?.getD 0), .int .i64 ((partL C)[2]?.getD 0)]).cell? ⟨wr.heap.size, 1, none⟩ = some (.slice c' 2 cc) /\ (w4.setCells (wr.heap.size + 1) 0 [.int .i64 ((partL C)[0]?.getD 0), .int .i64 ((partL C)[1]?.getD 0), .int .i64 ((partL C)[2]?.getD 0)]).cell? ⟨wr.heap.size, 2, none⟩ = some (.int .i64 kz) := by
    have := fb.below b4;have := Cel.touch this t5 (fun h => by have : wr.heap.size = wr.heap.size + 1 := h; omega)
    exact ⟨this.cell 0, this.cell 1, this.cell 2⟩
   refine wo1 3 rfl fun K hK => ?_;rw [if_pos (by kernel_rfl)];refine Go.Lib.wp_copy_run w4 (.tmp 16) (.tmp 18) 23 23 rfl (.slice (some ⟨wr.heap.size + 1, 0, none⟩) 3 3) (.slice (some ⟨Z.heap.size + 1, 0, none⟩) 3 3) (by rfl) (by rfl) hr ?_;(try dsimp only);refine hK.out _ _ ⟨KP5, fun h => absurd (show true = false from h) (by decide)⟩ ?_;refine wod ?_ _;generalize w4.setCells (wr.heap.size + 1) 0 [.int .i64 ((partL C)[0]?.getD 0), .int .i64 ((partL C)[1]?.getD 0), .int .i64 ((partL C)[2]?.getD 0)] = w5 at *;clear KP5 KP hr p4 t5 k4 bd4 b4 pb fb b1 m t iC iD e0 zd;obtain ⟨g0, g1, g2⟩ : w5.cell? ⟨wr.heap.size + 1, 0, none⟩ = some (.int .i64 ((partL C)[0]?.getD 0)) /\ w5.cell? ⟨wr.heap.size + 1, 1, none⟩ = some (.int .i64 ((partL C)[1]?.getD 0)) /\ w5.cell? ⟨wr.heap.size + 1, 2, none⟩ = some (.int .i64 ((partL C)[2]?.getD 0)) := ⟨p5.cell 0, p5.cell 1, p5.cell 2⟩
   obtain ⟨rz, hrz, hrz2⟩ := eq3 HW.out w5;have HRZ : Hid (rz = true ↔ partL C = [0, 0, 0]) := hrz2;clear hrz2;have HKEY : Hid (keyOf Tryz.prog KT (kV ((partL C)[0]?.getD 0) ((partL C)[1]?.getD 0) ((partL C)[2]?.getD 0)) = some (kP (partL C))) := keyOf_P HW.out;have HP3 : Hid (partL C = [(partL C)[0]?.getD 0, (partL C)[1]?.getD 0, (partL C)[2]?.getD 0]) := three_eq hp3;generalize hx0 : (partL C)[0]?.getD 0 = x0 at *;generalize hx1 : (partL C)[1]?.getD 0 = x1 at *;generalize hx2 : (partL C)[2]?.getD 0 = x2 at *;clear hx0 hx1 hx2 hp3;have HSZ : Hid (Maps.size D1 = qs.length) := HD.out.sz
   cases hh : Maps.has D1 (kP (partL C))
   ·have HNI : Hid (partL C ∉ qs) := fun hin => by
     have := (HD.out.has _ HW.out).2 hin;rw [hh] at this
     cases this
    cases rz
    ·have HNZ : Hid (partL C ≠ [0, 0, 0]) := fun e => by
      have := HRZ.out.2 e
      cases this
     have hszb : Maps.size D1 <= n + k := m5.size_le;have HWF : Hid ((Lit.int .i64 (Maps.size D1 : Int)).wf = true) := WalkArith.wf_i64 (by omega)
     go_wp2_with (first | (at_len; refine wpList_len_own _ rfl (.tmp 20) 99 rfl KT ET Tryz.underlying99 (plainElem Tryz.prog ET) B _ D1 rfl m5 ?_) | (at_lookup; refine wpList_lookup_own_ok_int _ rfl (.tmp 23) (.tmp 24) 99 rfl KT ET .i64 law3 Tryz.underlying99 Tryz.underlying3 (zeroE) B _ D1 rfl m5 _ _ rfl HKEY.out ?_; intro cq hatq hwq) | (at_mapUpdate; refine wpList_mapUpdate_own _ rfl (.tmp 35) (.tmp 36) (.tmp 37) 99 rfl KT ET law3 Tryz.underlying99 (plainElem Tryz.prog ET) B _ D1 rfl m5 (by unfold maxLen; omega) _ _ _ rfl rfl HKEY.out (.lit (.int .i64 (Maps.size D1))) [] (plainElem_int Tryz.underlying3 HWF.out) ?_; intro w6 hown6 hgrow6))
     have HD6 : Hid (MapIs (D1.put (kP (partL C)) (.lit (.int .i64 (Maps.size D1 : Int)))) (guardsP ps (fs.take (k + 1)))) := by
      have := HD.out.put (m5.tidy law3) HW.out HNI.out;rw [HSZ.out, HS.out, addPb, if_neg (by rintro (h | h); exact HNI.out h; exact HNZ.out h)]
      exact this
     have T6 := T5.trans (touch_grownQ hgrow6);have m6 : OwnM w6 B (n + (k + 1)) _ := hown6;clear m5 T5 hown6 hgrow6
     go_wp2
     go_roundw
     case rel => exact ⟨k + 1, _, by omega, by go_num, T6, m6, HD6.out⟩
     case measure => simp [intOf]; omega
    have HD6 : Hid (MapIs D1 (guardsP ps (fs.take (k + 1)))) := by
     have e : partL C = [0, 0, 0] := HRZ.out.1 rfl
     show MapIs _ _
     rw [HS.out, addP_zero e]
     exact HD.out
    have m6 : OwnM w5 B (n + (k + 1)) D1 := m5.mono (by omega)
    go_wp2_with (first | (at_len; refine wpList_len_own _ rfl (.tmp 20) 99 rfl KT ET Tryz.underlying99 (plainElem Tryz.prog ET) B _ D1 rfl m5 ?_) | (at_lookup; refine wpList_lookup_own_ok_int _ rfl (.tmp 23) (.tmp 24) 99 rfl KT ET .i64 law3 Tryz.underlying99 Tryz.underlying3 (zeroE) B _ D1 rfl m5 _ _ rfl HKEY.out ?_; intro cq hatq hwq))
    go_roundw
    case rel => exact ⟨k + 1, D1, by omega, by go_num, T5, m6, HD6.out⟩
    case measure => simp [intOf]; omega
   have HD6 : Hid (MapIs D1 (guardsP ps (fs.take (k + 1)))) := by
    have e : partL C ∈ qs := (HD.out.has _ HW.out).1 hh
    show MapIs _ _
    rw [HS.out, addPb, if_pos (.inl e)]
    exact HD.out
   have m6 : OwnM w5 B (n + (k + 1)) D1 := m5.mono (by omega)
   go_wp2_with (first | (at_len; refine wpList_len_own _ rfl (.tmp 20) 99 rfl KT ET Tryz.underlying99 (plainElem Tryz.prog ET) B _ D1 rfl m5 ?_) | (at_lookup; refine wpList_lookup_own_ok_int _ rfl (.tmp 23) (.tmp 24) 99 rfl KT ET .i64 law3 Tryz.underlying99 Tryz.underlying3 (zeroE) B _ D1 rfl m5 _ _ rfl HKEY.out ?_; intro cq hatq hwq))
   go_roundw
   case rel => exact ⟨k + 1, D1, by omega, by go_num, T5, m6, HD6.out⟩
   case measure => simp [intOf]; omega
  obtain rfl : k = N := by omega
  have HE : Hid (MapIs D1 (guardsP ps fs)) := by
   have := HD.out;rw [qH (by rw [HN.out]; exact qL _)] at this
   exact this
  clear HD
  go_wp2
  go_end0
  exact ⟨⟨_, rfl⟩, t, D1, m, HE.out⟩
end Go.Proofs.YtdaiaohlkdolmaaGreat
