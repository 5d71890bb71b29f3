/-
  Lemmas that the claim's last text rests on.
-/
import Derived.Laws.Pointers
import Derived.Defers
import Derived.Recover
import Derived.Test.YtemcinobgdphnaaGreatQCT
namespace Go.Proofs.YtemcinobgdphnaaGreat
open Go.RowKit
open World renaming size_alloc → qA
open List renaming getElem?_eq_getElem → qB, getElem?_cons_zero → qC
open Nat renaming le_refl → qD
set_option linter.unusedVariables false
set_option maxRecDepth 100000
set_option maxHeartbeats 25600000
variable {B N cap i k m n p q : Nat} {C D U V tl x : List Int} {K M pot : Int} {W W' w : World} {g : LV} {ls : List LV} {v : Value}
def atF (V U : List Int) (f : FV) : Int := atV f.C f.D f.K V U
theorem atF_bnd {f : FV} (h : f.ok = true) (bV : bnd 10000 V) (bU : bnd 9 U) : -1000000000000 <= atF V U f /\ atF V U f <= 1000000000000 := by
 obtain ⟨_, _, bC, bD, k1, k2⟩ := formB_elim (show formB f.n f.m f.C f.D f.K = true from h);have h1 := dot_bnd (bndP_of bC bV (by omega) (by omega)) 3;have h2 := dot_bnd (bndP_of bD bU (by omega) (by omega)) 2;unfold atF atV
 omega
theorem ats_bnd {fs : List FV} (h : fs.all FV.ok = true) (bV : bnd 10000 V) (bU : bnd 9 U) : bnd 1000000000000 (fs.map (atF V U)) := fun i => by
 by_cases hi : i < fs.length
 ·have := atF_bnd (List.all_eq_true.1 h _ (List.getElem_mem hi)) bV bU;rw [List.getElem?_map, qB hi];simpa using this
 rw [List.getElem?_eq_none (by simp; omega)];simp
theorem formsAt_any {ad : Option Addr} (fs : List FV) {v : Option Addr} {cv : Nat} {u : Option Addr} {cu : Nat} (V U : List Int) {w : World} (hN : fs.length = N) (hF : FormsG w ad fs) (hN1 : N <= 1048576) (hok : fs.all FV.ok = true) (hV : Ints w v 3 V) (hU : Ints w u 2 U) (bV : bnd 10000 V) (bU : bnd 9 U) :
  Calls Tryz.prog 90 #[.slice ad N cap, .slice v 3 cv, .slice u 2 cu] w fun e w' => ∃ r, e = .returned r /\ JA w r (fs.map (atF V U)) w' := by
 have HN : Hid (fs.length = N) := hN;have HO : Hid (fs.all FV.ok = true) := hok;clear hN hok;obtain ⟨i0, hi, hz0, hz1, hz2⟩ := info_parts Tryz.infoInt
 go_enter Tryz.func90, Tryz.ntmps90
 go_wp2_with fail
 go_loopw [7, 9, 12] (fun r _ i wr => ∃ k : Nat, k <= N /\ i = .int .i64 k /\ ∃ xs : List Int, xs.length = k /\ xs = (fs.take k).map (atF V U) /\ JA w r xs wr) (fun _ _ i _ => N - (intOf i).toNat)
 case atStart => exact ⟨0, Nat.zero_le _, rfl, [], rfl, rfl, JA.nil w⟩
 case round =>
  obtain ⟨k, hk, rfl, xs, hxl, hxs, j⟩ := hrel;have HL : Hid (xs.length = k) := hxl;have HXS : Hid (xs = (fs.take k).map (atF V U)) := hxs;clear hxl hxs
  by_cases hlt : k < N
  ·obtain ⟨b, off, rfl, e0, e1, e2, e3⟩ := (hF.below j.b) k (by rw [HN.out]; exact hlt);have hok := all_at (k := k) HO.out (by rw [HN.out]; exact hlt)
   have HP : Hid ((fs.take (k + 1)).map (atF V U) = (fs.take k).map (atF V U) ++ [atF V U (fs[k]?.getD noFV)]) := by
    have hl : k < fs.length := by rw [HN.out]; exact hlt
    show _ = _
    rw [List.take_succ_eq_append_getElem hl, List.map_append, qB hl]; rfl
   generalize HG : fs[k]?.getD noFV = f at *;clear HG hF;obtain ⟨fa, fn, fcap, fc, fm, fcap', fK, fC, fD⟩ := f;obtain ⟨iC, iD, _, _⟩ := e3;simp only at e0 e1 e2 iC iD;obtain ⟨rfl, rfl, bC, bD, bK⟩ := formB_elim (show formB fn fm fC fD fK = true from hok);clear hok;obtain ⟨x, hx⟩ : ∃ x, atV fC fD fK V U = x := ⟨_, rfl⟩
   have HX : Hid (atV fC fD fK V U = x) := hx;have HP2 : Hid (xs ++ [x] = (fs.take (k + 1)).map (atF V U)) := by show _ = _; rw [HP.out, HXS.out, <- hx]; rfl
   clear hx;have hjb := j.b
   go_wp2_with fail
   refine (iat_any fC fD V U (iC.alloc _) (iD.alloc _) ((hV.below hjb).alloc _) ((hU.below hjb).alloc _) bC bD bK bV bU).mono ?_;rintro e w3 ⟨rfl, b3⟩;rw [HX.out];have j3 := (j.alloc _).below b3;have jo := j3.o;rw [HL.out] at jo;have hj3 := j3.b.size;clear b3 iC iD e0 e1 e2 j hjb
   go_wp2_with (at_builtin; go_must (refine wpList_append_lies _ rfl (.tmp 16) (.tmp 21) 24 rfl w.heap.size 3 i0 (.int .i64 0) 1 8 Tryz.underlying24 hi hz0 hz1 hz2 rfl (by decide) _ _ _ rfl (jo.alloc _) ⟨w3.heap.size, 0, none⟩ 1 1 [.int .i64 x] rfl rfl (news1 _) (one1) (by omega) (by unfold maxLen; omega) (by omega) (by rw [qA]; omega) _ rfl ?_); intro g cp w4 hown hgrow hat hlt1)
   have j4 := j3.app HL.out hown hgrow;clear hown hgrow jo j3 hat
   go_wp2
   go_roundw
   case rel => exact ⟨k + 1, by omega, by go_num, _, by rw [List.length_append, HL.out]; rfl, HP2.out, j4⟩
   case measure => simp [intOf]; omega
  have HT : Hid (xs = fs.map (atF V U)) := by show xs = _; rw [HXS.out, List.take_of_length_le (by rw [HN.out]; omega)]
  go_wp2
  go_ret
  exact ⟨_, rfl, by rw [<- HT.out]; exact j⟩
abbrev resV (code : Int) (a : Option Addr) (n cap : Nat) : Value := .agg #[.int .i64 code, .slice a n cap]
def ResD (w w' : World) (e : Ending) (code : Int) (tl pl : List Int) : Prop :=
 ∃ a n cap B1 b m cap' B2, e = .returned (.tuple #[resV code a n cap, .slice b m cap']) /\ tl.length = n /\ pl.length = m /\ Below w.heap.size w w' /\ OwnX w' a B1 n tl /\ OwnX w' b B2 m pl /\ (0 < n -> w.heap.size <= B1) /\ (0 < m -> w.heap.size <= B2) /\ (0 < n -> 0 < m -> B1 ≠ B2)
def endCode (P : List Int) : Int := if okN 3 10000 3 P then 1 else 3
def endTells (P T : List Int) : List Int := if okN 3 10000 3 P then T else []
def endPots (V P : List Int) : List Int := if okN 3 10000 3 P then P else V
theorem done_any {v : Option Addr} {cv : Nat} {p : Option Addr} {cp : Nat} (B2 : Nat) {t : Option Addr} {n ct : Nat} (B1 : Nat) (V P T : List Int) {w : World} (hV : Ints w v 3 V) (hP : OwnX w p B2 3 P) (hT : OwnX w t B1 n T) (hne : 0 < n -> B1 ≠ B2) (lo : Nat) (h1 : 0 < n -> lo <= B1) (h2 : lo <= B2) (hlo : lo <= w.heap.size) :
  Calls Tryz.prog 70 #[.slice v 3 cv, .slice p 3 cp, .slice t n ct] w fun e w' => ∃ a n' cap B1' b m cap' B2', e = .returned (.tuple #[resV (endCode P) a n' cap, .slice b m cap']) /\ (endTells P T).length = n' /\ (endPots V P).length = m /\ Below w.heap.size w w' /\ OwnX w' a B1' n' (endTells P T) /\ OwnX w' b B2' m (endPots V P) /\ (0 < n' -> lo <= B1') /\ (0 < m -> lo <= B2') /\ (0 < n' -> 0 < m -> B1' ≠ B2') := by
 have l1 : 0 < n -> B1 < w.heap.size := fun h => hT.lt h;have l2 : B2 < w.heap.size := hP.lt (by omega);obtain ⟨i0, hi, hz0, hz1, hz2⟩ := info_parts Tryz.infoInt;have al : Below w.heap.size w (w.alloc (.cells #[.int .i64 0, .slice none 0 0] 30)) := bal
 cases hok : okN 3 10000 3 P
 ·have e1 : endCode P = 3 := by rw [endCode, hok]; rfl
  have e2 : endTells P T = [] := by rw [endTells, hok]; rfl
  have e3 : endPots V P = V := by rw [endPots, hok]; rfl
  rw [e1, e2, e3];clear e1 e2 e3
  go_enter Tryz.func70, Tryz.ntmps70
  go_wp2_with fail
  refine (ival_any P (hP.alloc _).ints (by omega)).mono ?_;rintro e w1 ⟨rfl, hw1⟩;rw [hok, hw1];clear hw1
  go_wp2_with fail
  refine (clone_any _ _ V (hV.alloc _)).mono ?_;rintro e w2 ⟨r, rfl, j⟩;have rc := (Cel.new w [.int .i64 0, .slice none 0 0] 30).below j.b;obtain ⟨a, cap, B, rfl, hX, hB⟩ := j.ownx hV.1;rw [qA] at hB;have bb := btr al j.b;have r0 := rc.cell 0;have r1 := rc.cell 1;have f0 := rc.free 0;have f1 := rc.free 1;simp only [qC, List.getElem?_cons_succ] at r0 r1;have hlt := rc.lt;clear rc j
  go_wp2
  refine bodyPost_ret (v := .tuple #[resV 3 none 0 0, .slice a 3 cap]) (by simp [results, Tryz.results70, go_sem, r0, r1]) rfl ⟨none, 0, 0, 0, a, 3, cap, B, rfl, rfl, hV.1, ?_, OwnX.nil _ _ _, ?_, fun h => by omega, fun h => by have := hB h; omega, fun h => by omega⟩
  ·exact (bb.setCell (qD _) _).setCell (qD _) _
  exact (hX.setOther (fun h => by have := hB h; omega) _ _).setOther (fun h => by have := hB h; omega) _ _
 have e1 : endCode P = 1 := by rw [endCode, hok]; rfl
 have e2 : endTells P T = T := by rw [endTells, hok]; rfl
 have e3 : endPots V P = P := by rw [endPots, hok]; rfl
 rw [e1, e2, e3];clear e1 e2 e3
 go_enter Tryz.func70, Tryz.ntmps70
 go_wp2_with fail
 refine (ival_any P (hP.alloc _).ints (by omega)).mono ?_;rintro e w1 ⟨rfl, hw1⟩;rw [hok, hw1];clear hw1
 go_wp2
 refine bodyPost_ret (v := .tuple #[resV 1 t n ct, .slice p 3 cp]) (by simp [results, Tryz.results70, go_sem]) rfl ⟨t, n, ct, B1, p, 3, cp, B2, rfl, hT.1, hP.1, ?_, ?_, ?_, h1, fun _ => h2, fun h _ => hne h⟩
 ·first | exact bal | exact ((bal).setCell (qD _) _).setCell (qD _) _
 ·first | exact hT.alloc _ | exact ((hT.alloc _).setOther (fun h => by have := l1 h; omega) _ _).setOther (fun h => by have := l1 h; omega) _ _
 first | exact hP.alloc _ | exact ((hP.alloc _).setOther (fun h => by omega) _ _).setOther (fun h => by omega) _ _
theorem rowB_three {gs ls ts : List FV} {A T : Nat} (h : rowB gs ls ts A T false = true) : A = 3 := by
 simp only [rowB, Bool.and_eq_true] at h;have := h.2;simp at this
 omega
theorem Cel.pair {x y : Value} {t : TypeId} (h : Cel w B [x, y] t) : w.cell? ⟨B, 0, none⟩ = some x /\ w.cell? ⟨B, 1, none⟩ = some y /\ w.frozen? ⟨B, 0, none⟩ = false /\ w.frozen? ⟨B, 1, none⟩ = false := ⟨h.cell 0, h.cell 1, h.free 0, h.free 1⟩
structure MK2 (W : World) (B N s k : Nat) (gs : List FV) (p q : Nat -> Nat) (wr : World) : Prop where
 c : ∃ cur : Array Value, wr.heap[B]? = some (.cells cur 86 (0, 0)) /\ cur.size = N * 3 /\ ∀ i, i < N -> cur[i * 3]? = some (.slice (gs[i]?.getD noFV).a (gs[i]?.getD noFV).n (gs[i]?.getD noFV).cap) /\ cur[i * 3 + 1]? = some (.slice (gs[i]?.getD noFV).c (gs[i]?.getD noFV).m (gs[i]?.getD noFV).cap')
 o : ∀ i, k <= i -> i < N -> Blk wr (p i) (gs[i]?.getD noFV).C /\ Blk wr (q i) (gs[i]?.getD noFV).D
 t : Touch (fun x => B <= x /\ x < s) W wr
theorem iatG_any {a : Option Addr} {c : Option Addr} {cap' : Nat} (C D : List Int) {v : Option Addr} {cv : Nat} {u : Option Addr} {cu : Nat} (V A : List Int) {w : World}
  (hC : Ints w a 3 C) (hD : Ints w c 2 D) (hV : Ints w v 3 V) (hA : Ints w u 2 A) (P Q : Int) (p1 : bndP P C V) (p2 : bndP Q D A) (zP : 0 <= P) (zQ : 0 <= Q) (tP : P <= 100000000000) (tQ : Q <= 100000000000) (bK : -10000000 <= K /\ K <= 10000000) :
  Calls Tryz.prog 123 #[formV a 3 cap c 2 cap' K, .slice v 3 cv, .slice u 2 cu] w fun e w' => e = .returned (.int .i64 (atV C D K V A)) /\ Below w.heap.size w w' := by
 have d1 := dot_bnd p1 3;have d2 := dot_bnd p2 2;obtain ⟨K1, K2⟩ := bK;have q1 : ∀ w' : World, Below w.heap.size w w' -> Calls Tryz.prog 86 #[.slice a 3 cap, .slice v 3 cv] w' fun e w'' => e = .returned (.int .i64 (dot C V 3)) /\ w'' = w' := fun w' hb => psum_any C V (hC.below hb) (hV.below hb) (by omega) p1;have q2 : ∀ w' : World, Below w.heap.size w w' -> Calls Tryz.prog 86 #[.slice c 2 cap', .slice u 2 cu] w' fun e w'' => e = .returned (.int .i64 (dot D A 2)) /\ w'' = w' := fun w' hb => psum_any D A (hD.below hb) (hA.below hb) (by omega) p2;have Q1 : Hid _ := q1;have Q2 : Hid _ := q2;obtain ⟨X, hX⟩ : ∃ X, X = dot C V 3 := ⟨_, rfl⟩
 obtain ⟨Y, hY⟩ : ∃ Y, Y = dot D A 2 := ⟨_, rfl⟩
 have e1 : -1000000000000 <= dot C V 3 := by omega
 have e2 : dot C V 3 <= 1000000000000 := by omega
 have e3 : -1000000000000 <= dot D A 2 := by omega
 have e4 : dot D A 2 <= 1000000000000 := by omega
 clear d1 d2 q1 q2 hX hY X Y p1 p2 zP zQ tP tQ hC hD hV hA
 go_enter Tryz.func123, Tryz.ntmps123
 go_wp2_with fail
 go_quiet (first | (go_at_call_of 86 (Value.slice a 3 cap); exact Calls.quiet_of_same (Q1.out _ (by repeat (first | exact bal | refine below_drewN ?_ _ | refine Below.drew ?_)))) | (go_at_call_of 86 (Value.slice c 2 cap'); exact Calls.quiet_of_same (Q2.out _ (by repeat (first | exact bal | refine below_drewN ?_ _ | refine Below.drew ?_)))))
 go_wp2
 go_ret
 exact ⟨rfl, below_drewN (bal) _⟩
def bd : Nat -> Int
 | 0 => 10000
 | n + 1 => 7 * bd n + 56
theorem bd_pos : ∀ n, 10000 <= bd n
 | 0 => by simp [bd]
 | n + 1 => by have := bd_pos n; simp only [bd]; omega
theorem bd_succ (n : Nat) : bd n <= bd (n + 1) := by have := bd_pos n; simp only [bd]; omega
theorem bd_mono (h : n <= m) : bd n <= bd m := by
 induction h with
 | refl => exact Int.le_refl _
 | step _ ih => exact Int.le_trans ih (bd_succ _)
theorem bd_six (h : n <= 6) : bd n <= 2000000000 := Int.le_trans (bd_mono h) (by simp [bd])
theorem bnd_mono {M' : Int} {zs : List Int} (h : bnd M zs) (hM : M <= M') : bnd M' zs := fun i => by have := h i; omega
theorem small_elim (h : smallB n m C D K = true) : n = 3 /\ m = 2 /\ bnd 2 C /\ bnd 2 D /\ -20 <= K /\ K <= 20 := by
 simp only [smallB, Bool.and_eq_true] at h;obtain ⟨⟨h1, h2⟩, h3⟩ := h;obtain ⟨e1, b1⟩ := okN_elim (by omega) h1;obtain ⟨e2, b2⟩ := okN_elim (by omega) h2;have := inB_iff.1 h3
 exact ⟨by omega, by omega, b1, b2, this.1, this.2⟩
theorem small_at (bC : bnd 2 C) (bD : bnd 2 D) (k1 : -20 <= K) (k2 : K <= 20) (bV : bnd M V) (bU : bnd 9 U) (hM : 0 <= M := by omega) : bndP (2 * M) C V /\ bndP 18 D U /\ -(6 * M + 56) <= atV C D K V U /\ atV C D K V U <= 6 * M + 56 := by
 have p1 := bndP_of bC bV (by omega) hM;have p2 := bndP_of bD bU (by omega) (by omega);have d1 := dot_bnd p1 3;have d2 := dot_bnd p2 2;refine ⟨p1, p2, ?_, ?_⟩ <;> unfold atV <;> omega
theorem bnd_set {v : Int} (h : bnd M x) (h1 : -M <= v) (h2 : v <= M) : bnd M (x.set k v) := fun i => by
 by_cases e : i = k
 ·subst e
  by_cases hi : i < x.length
  ·rw [List.getElem?_set_self hi]; simp; omega
  rw [List.getElem?_eq_none (by simp; omega)];have := h i;simp
  omega
 rw [List.getElem?_set_ne (by omega)]; exact h i
def goL (U : List Int) (ls : List LV) : Nat -> Nat -> List Int -> List Int -> Bool × List Int × List Int
 | 0, _, x, tl => (false, x, tl)
 | f + 1, i, x, tl =>
  if i < ls.length then
   if (ls[i]?.getD noLV).kind = 1 then goL U ls f (if atF x U (ls[i]?.getD noLV).f < 0 then i + 1 + (ls[i]?.getD noLV).skip.toNat else i + 1) x tl
   else if (ls[i]?.getD noLV).kind = 2 then goL U ls f (i + 1) (x.set (ls[i]?.getD noLV).pot.toNat (x[(ls[i]?.getD noLV).pot.toNat]?.getD 0 + atF x U (ls[i]?.getD noLV).f)) tl
   else if (ls[i]?.getD noLV).kind = 3 then goL U ls f (i + 1) x (tl ++ [atF x U (ls[i]?.getD noLV).f])
   else (true, x, tl)
  else (false, x, tl)
theorem goL_end {f : Nat} (h : ls.length <= i) : goL U ls f i x tl = (false, x, tl) := by
 cases f with
 | zero => rfl
 | succ f => rw [goL, if_neg (by omega)]
theorem goL_one {f : Nat} (h : i < ls.length) (hf : 0 < f) (hg : ls[i]?.getD noLV = g) : goL U ls f i x tl = (if g.kind = 1 then goL U ls (f - 1) (if atF x U g.f < 0 then i + 1 + g.skip.toNat else i + 1) x tl else if g.kind = 2 then goL U ls (f - 1) (i + 1) (x.set g.pot.toNat (x[g.pot.toNat]?.getD 0 + atF x U g.f)) tl else if g.kind = 3 then goL U ls (f - 1) (i + 1) x (tl ++ [atF x U g.f]) else (true, x, tl)) := by
 obtain ⟨n, rfl⟩ : ∃ n, f = n + 1 := ⟨f - 1, by omega⟩
 rw [goL, if_pos h, hg]; rfl
def runL (U : List Int) (ls : List LV) (V : List Int) : Bool × List Int × List Int := goL U ls 7 0 V []
structure At (U : List Int) (ls : List LV) (V : List Int) (i : Nat) (x tl : List Int) : Prop where
 r : ∃ f, 7 <= i + f /\ runL U ls V = goL U ls f i x tl
 b : i <= 6 -> bnd (bd i) x
 l : x.length = 3
 t : tl.length <= i
theorem At.start (h : bnd 10000 V) (hl : V.length = 3) : At U ls V 0 V [] := ⟨⟨7, by omega, rfl⟩, fun _ => h, hl, qD _⟩
theorem At.done (h : At U ls V i x tl) (hi : ls.length <= i) : runL U ls V = (false, x, tl) := by
 obtain ⟨f, _, e⟩ := h.r;rw [e, goL_end hi]
theorem At.one (h : At U ls V i x tl) (hi : i < ls.length) (h6 : ls.length <= 6) (hg : ls[i]?.getD noLV = g) : ∃ f, 7 <= (i + 1) + f /\ runL U ls V = (if g.kind = 1 then goL U ls f (if atF x U g.f < 0 then i + 1 + g.skip.toNat else i + 1) x tl else if g.kind = 2 then goL U ls f (i + 1) (x.set g.pot.toNat (x[g.pot.toNat]?.getD 0 + atF x U g.f)) tl else if g.kind = 3 then goL U ls f (i + 1) x (tl ++ [atF x U g.f]) else (true, x, tl)) := by
 obtain ⟨f, h1, e⟩ := h.r
 exact ⟨f - 1, by omega, by rw [e, goL_one hi (by omega) hg]⟩
theorem At.skip {j : Nat} (h : At U ls V i x tl) (hi : i < ls.length) (h6 : ls.length <= 6) (hg : ls[i]?.getD noLV = g) (hk : g.kind = 1) (hj : j = if atF x U g.f < 0 then i + 1 + g.skip.toNat else i + 1) : At U ls V j x tl := by
 obtain ⟨f, h1, e⟩ := h.one hi h6 hg;rw [if_pos hk, <- hj] at e;have hij : i + 1 <= j := by rw [hj]; split <;> omega
 have ht := h.t
 exact ⟨⟨f, by omega, e⟩, fun h => bnd_mono (‹At U ls V i x tl›.b (by omega)) (bd_mono (by omega)), h.l, by omega⟩
theorem At.add (h : At U ls V i x tl) (hi : i < ls.length) (h6 : ls.length <= 6) (hg : ls[i]?.getD noLV = g) (hk : g.kind = 2) (h1 : -(6 * bd i + 56) <= atF x U g.f) (h2 : atF x U g.f <= 6 * bd i + 56) : At U ls V (i + 1) (x.set g.pot.toNat (x[g.pot.toNat]?.getD 0 + atF x U g.f)) tl := by
 obtain ⟨f, h3, e⟩ := h.one hi h6 hg;rw [if_neg (by omega), if_pos hk] at e;have ht := h.t;refine ⟨⟨f, by omega, e⟩, fun _ => ?_, by rw [List.length_set]; exact h.l, by omega⟩;have hb := h.b (by omega);have := hb g.pot.toNat;have hp := bd_pos i
 exact bnd_set (bnd_mono hb (bd_succ i)) (by simp only [bd]; omega) (by simp only [bd]; omega)
theorem At.tell (h : At U ls V i x tl) (hi : i < ls.length) (h6 : ls.length <= 6) (hg : ls[i]?.getD noLV = g) (hk : g.kind = 3) : At U ls V (i + 1) x (tl ++ [atF x U g.f]) := by
 obtain ⟨f, h3, e⟩ := h.one hi h6 hg;rw [if_neg (by omega), if_neg (by omega), if_pos hk] at e;have ht := h.t
 exact ⟨⟨f, by omega, e⟩, fun _ => bnd_mono (h.b (by omega)) (bd_succ i), h.l, by rw [List.length_append]; simp; omega⟩
theorem At.stop (h : At U ls V i x tl) (hi : i < ls.length) (h6 : ls.length <= 6) (hg : ls[i]?.getD noLV = g) (h1 : ¬ g.kind = 1) (h2 : ¬ g.kind = 2) (h3 : ¬ g.kind = 3) : (runL U ls V).1 = true := by
 obtain ⟨f, _, e⟩ := h.one hi h6 hg;rw [if_neg h1, if_neg h2, if_neg h3] at e;rw [e]
def runB (N : Nat) (ls : List LV) (p : Nat) (V : List Int) (q : Nat) (U : List Int) : Bool := actB N ls && okN 3 10000 p V && okN 2 9 q U
def runCode (N : Nat) (ls : List LV) (p : Nat) (V : List Int) (q : Nat) (U : List Int) : Int := if runB N ls p V q U then (if (runL U ls V).1 then 2 else endCode (runL U ls V).2.1) else 0
def runTells (N : Nat) (ls : List LV) (p : Nat) (V : List Int) (q : Nat) (U : List Int) : List Int := if runB N ls p V q U then (if (runL U ls V).1 then [] else endTells (runL U ls V).2.1 (runL U ls V).2.2) else []
def runPots (N : Nat) (ls : List LV) (p : Nat) (V : List Int) (q : Nat) (U : List Int) : List Int := if runB N ls p V q U then (if (runL U ls V).1 then V else endPots V (runL U ls V).2.1) else []
theorem run_no (h : runB N ls p V q U = false) : runCode N ls p V q U = 0 /\ runTells N ls p V q U = [] /\ runPots N ls p V q U = [] := by
 simp [runCode, runTells, runPots, h]
theorem run_stop (h : runB N ls p V q U = true) (hs : (runL U ls V).1 = true) : runCode N ls p V q U = 2 /\ runTells N ls p V q U = [] /\ runPots N ls p V q U = V := by
 simp [runCode, runTells, runPots, h, hs]
theorem run_go (h : runB N ls p V q U = true) (hs : runL U ls V = (false, x, tl)) : runCode N ls p V q U = endCode x /\ runTells N ls p V q U = endTells x tl /\ runPots N ls p V q U = endPots V x := by
 simp [runCode, runTells, runPots, h, hs]
theorem actB_six (h : actB N ls = true) : N <= 6 /\ ls.all LV.ok = true := by
 simp only [actB, Bool.and_eq_true, decide_eq_true_eq] at h
 exact ⟨by omega, h.1.2⟩
theorem allL_at (h : ls.all LV.ok = true) (hk : k < ls.length) : (ls[k]?.getD noLV).ok = true := by
 rw [qB hk]
 exact List.all_eq_true.1 h _ (List.getElem_mem hk)
theorem line_one {skip : Int} (h : lineB 1 pot skip n m C D K = true) : 1 <= skip /\ skip <= 6 /\ smallB n m C D K = true := by
 simp [lineB] at h;have := inB_iff.1 h.1.2
 exact ⟨this.1, this.2, h.2⟩
theorem line_two {skip : Int} (h : lineB 2 pot skip n m C D K = true) : 0 <= pot /\ pot < 3 /\ smallB n m C D K = true := by
 simp [lineB] at h;have := inB_iff.1 h.1.1
 exact ⟨this.1, by omega, h.2⟩
theorem line_three {skip : Int} (h : lineB 3 pot skip n m C D K = true) : smallB n m C D K = true := by
 simp [lineB] at h
 exact h.2
theorem JA.rebase {w1 : World} {xs : List Int} (j : JA w1 v xs W) (b : Below w.heap.size w w1) : JA w v xs W := by
 refine ⟨btr b j.b, j.o.1, ?_⟩;have := b.size
 rcases j.o.2 with h2 | ⟨g, cap, cur, hv, hg, r⟩
 ·exact Or.inl h2
 exact Or.inr ⟨g, cap, cur, hv, by omega, r⟩
theorem JA.set {xs : List Int} (j : JA w v xs W) {B : Nat} (hB : w.heap.size <= B) (ne : v.ownBlock ≠ some B) (i : Nat) (y : Value) : JA w v xs (W.setCell ⟨B, i, none⟩ y) := by
 refine ⟨j.b.setCell hB _, j.o.1, ?_⟩
 rcases j.o.2 with h2 | ⟨g, cap, cur, hv, hg, hh, r⟩
 ·exact Or.inl h2
 refine Or.inr ⟨g, cap, cur, hv, hg, ?_, r⟩;have hne : g ≠ B := fun e => ne (by rw [hv, e]; rfl);rw [Below.heap_setCell _ _ _ _ hne]; exact hh
theorem OwnX.grown {a : Option Addr} {zs : List Int} {row : Option Nat} {o : Obj} (h : OwnX W a B n zs) (hg : (W.alloc o).grownBy W' row) (hne : row ≠ some B) : OwnX W' a B n zs := by
 refine ⟨h.1, ?_⟩
 rcases h.2 with h0 | ⟨e, cur, hc, hv⟩
 ·exact .inl h0
 refine .inr ⟨e, cur, ?_, hv⟩;have hl := hc.lt;have h1 : Cel (W.alloc o) B cur 3 := hc.alloc o;unfold Cel at *;rw [hg.block B (by rw [qA]; omega) (fun e => hne e.symm)]; exact h1
theorem Cel.grown {vs : List Value} {t : TypeId} {row : Option Nat} {o : Obj} (h : Cel W B vs t) (hg : (W.alloc o).grownBy W' row) (hne : row ≠ some B) : Cel W' B vs t := by
 have hl := h.lt;have h1 : Cel (W.alloc o) B vs t := h.alloc o;unfold Cel at *;rw [hg.block B (by rw [qA]; omega) (fun e => hne e.symm)]; exact h1
theorem as_testStep_testStep (v : Value) (w : World) : (Instr.typeAssert (.iface 179 v) 149 179 true).run Tryz.prog w = .ok (.tuple #[v, .bool true]) w := by kernel_rfl
theorem as_addStep_testStep (v : Value) (w : World) : (Instr.typeAssert (.iface 181 v) 149 179 true).run Tryz.prog w = .ok (.tuple #[.agg #[.int .i64 0, .slice none 0 0, .slice none 0 0, .int .i64 0], .bool false]) w := by kernel_rfl
theorem as_addStep_addStep (v : Value) (w : World) : (Instr.typeAssert (.iface 181 v) 149 181 true).run Tryz.prog w = .ok (.tuple #[v, .bool true]) w := by kernel_rfl
theorem as_printStep_testStep (v : Value) (w : World) : (Instr.typeAssert (.iface 183 v) 149 179 true).run Tryz.prog w = .ok (.tuple #[.agg #[.int .i64 0, .slice none 0 0, .slice none 0 0, .int .i64 0], .bool false]) w := by kernel_rfl
theorem as_printStep_addStep (v : Value) (w : World) : (Instr.typeAssert (.iface 183 v) 149 181 true).run Tryz.prog w = .ok (.tuple #[.agg #[.int .i64 0, .slice none 0 0, .slice none 0 0, .int .i64 0], .bool false]) w := by kernel_rfl
theorem as_printStep_printStep (v : Value) (w : World) : (Instr.typeAssert (.iface 183 v) 149 183 true).run Tryz.prog w = .ok (.tuple #[v, .bool true]) w := by kernel_rfl
theorem as_stopStep_testStep (v : Value) (w : World) : (Instr.typeAssert (.iface 184 v) 149 179 true).run Tryz.prog w = .ok (.tuple #[.agg #[.int .i64 0, .slice none 0 0, .slice none 0 0, .int .i64 0], .bool false]) w := by kernel_rfl
theorem as_stopStep_addStep (v : Value) (w : World) : (Instr.typeAssert (.iface 184 v) 149 181 true).run Tryz.prog w = .ok (.tuple #[.agg #[.int .i64 0, .slice none 0 0, .slice none 0 0, .int .i64 0], .bool false]) w := by kernel_rfl
theorem as_stopStep_printStep (v : Value) (w : World) : (Instr.typeAssert (.iface 184 v) 149 183 true).run Tryz.prog w = .ok (.tuple #[.agg #[.slice none 0 0, .slice none 0 0, .int .i64 0], .bool false]) w := by kernel_rfl
theorem as_stopStep_stopStep (v : Value) (w : World) : (Instr.typeAssert (.iface 184 v) 149 184 true).run Tryz.prog w = .ok (.tuple #[v, .bool true]) w := by kernel_rfl
theorem leave_stop {Dd : Nat} :
  Calls Tryz.prog 115 #[.pointer (some ⟨Dd, 0, none⟩), .iface 184 (.agg #[])] w fun e w' => e = .panicked [{ v := .iface 154 (.agg #[]), recovered := false }] /\ Below w.heap.size w w' := by
 have h1 := as_stopStep_testStep;have h2 := as_stopStep_addStep;have h3 := as_stopStep_printStep;have h4 := as_stopStep_stopStep
 go_enter Tryz.func115, Tryz.ntmps115
 go_wp2
 exact ⟨rfl, rfl, bal⟩
structure DR (w1 : World) (Dd B cp : Nat) (ua : Option Addr) (cu : Nat) (v : Value) (x tl : List Int) (W : World) : Prop where
 b : Below w1.heap.size w1 W
 d : Cel W Dd [.slice (some ⟨B, 0, none⟩) 3 cp, .slice ua 2 cu, v] 104
 ox : OwnX W (some ⟨B, 0, none⟩) B 3 x
 j : JA w1 v tl W
 ne : v.ownBlock ≠ some B
 nd : v.ownBlock ≠ some Dd
section
variable {w1 W W' : World} {Dd B cp : Nat} {ua : Option Addr} {cu : Nat} {v : Value} {x tl : List Int}
theorem DR.below (s : DR w1 Dd B cp ua cu v x tl W) (h : Below W.heap.size W W') : DR w1 Dd B cp ua cu v x tl W' := ⟨s.b.trans (h.mono s.b.size), s.d.below h, s.ox.below h, s.j.below h, s.ne, s.nd⟩
theorem DR.alloc (s : DR w1 Dd B cp ua cu v x tl W) (o : Obj) : DR w1 Dd B cp ua cu v x tl (W.alloc o) := s.below (bal)
theorem DR.set (s : DR w1 Dd B cp ua cu v x tl W) (hB : w1.heap.size <= B) (hDB : Dd ≠ B) {i : Nat} (hi : i < 3) (y : Int) : DR w1 Dd B cp ua cu v (x.set i y) tl (W.setCell ⟨B, i, none⟩ (.int .i64 y)) :=
 ⟨s.b.setCell hB _, s.d.setOther hDB _ _, s.ox.set hi y, s.j.set hB s.ne _ _, s.ne, s.nd⟩
theorem DR.app {y : Int} {g H : Nat} {o : Obj} (s : DR w1 Dd B cp ua cu v x tl W) (hD : w1.heap.size <= Dd) (hDB : Dd ≠ B) (hk : tl.length = k) (hown : W'.ownsRow w1.heap.size 3 1 (.slice (some ⟨g, 0, none⟩) (k + 1) cap) (k + 1) (tl.map (Value.int .i64) ++ [.int .i64 y])) (hg : (W.alloc o).grownBy W' v.ownBlock) (hat : v.ownBlock = some g \/ g = H) (hH : B < H) (hH2 : Dd < H) :
  DR w1 Dd B cp ua cu (.slice (some ⟨g, 0, none⟩) (k + 1) cap) x (tl ++ [y]) (W'.setCell ⟨Dd, 2, none⟩ (.slice (some ⟨g, 0, none⟩) (k + 1) cap)) := by
 have j' := s.j.app hk hown hg
 have nb : g ≠ B := fun e => by
  rcases hat with h | h
  ·exact s.ne (by rw [h, e])
  omega
 have nd : g ≠ Dd := fun e => by
  rcases hat with h | h
  ·exact s.nd (by rw [h, e])
  omega
 have nb' : Value.ownBlock (.slice (some ⟨g, 0, none⟩) (k + 1) cap) ≠ some B := by show some g ≠ some B; intro e; simp only [Option.some.injEq] at e; exact nb e
 have nd' : Value.ownBlock (.slice (some ⟨g, 0, none⟩) (k + 1) cap) ≠ some Dd := by show some g ≠ some Dd; intro e; simp only [Option.some.injEq] at e; exact nd e
 exact ⟨j'.b.setCell hD _, (s.d.grown hg s.nd).set 2 _, (s.ox.grown hg s.ne).setOther (fun _ => hDB) _ _, j'.set hD nd' _ _, nb', nd'⟩
end
theorem leave_test (w1 : World) (Dd B cp : Nat) (ua : Option Addr) (cu : Nat) (v : Value) (x tl : List Int) {skip : Int} {ga : Option Addr} {gcap : Nat} {gc : Option Addr} {gcap' : Nat} {K : Int} (C D U : List Int) (y : Int) {P R : Int} {W : World} (s : DR w1 Dd B cp ua cu v x tl W) (iC : Ints W ga 3 C) (iD : Ints W gc 2 D) (iU : Ints W ua 2 U) (hy : atV C D K x U = y)
  (p1 : bndP P C x) (p2 : bndP R D U) (zP : 0 <= P) (zQ : 0 <= R) (tP : P <= 100000000000) (tQ : R <= 100000000000) (bK : -10000000 <= K /\ K <= 10000000) :
  Calls Tryz.prog 115 #[.pointer (some ⟨Dd, 0, none⟩), .iface 179 (.agg #[.int .i64 skip, .slice ga 3 gcap, .slice gc 2 gcap', .int .i64 K])] W fun e w' => e = .returned (.int .i64 (if y < 0 then skip else 0)) /\ Below W.heap.size W w' := by
 have h1 := as_testStep_testStep;have HY : Hid (atV C D K x U = y) := hy;clear hy;have al : Below W.heap.size W (W.alloc (.cells #[.int .i64 skip, .slice ga 3 gcap, .slice gc 2 gcap', .int .i64 K] 179)) := bal;have bxa := Cel.new W [.int .i64 skip, .slice ga 3 gcap, .slice gc 2 gcap', .int .i64 K] 179;have sa := s.below al;have ia := iC.below al;have ib := iD.below al;have iu := iU.below al
 go_enter Tryz.func115, Tryz.ntmps115
 go_upto_region 4 with fail
 obtain ⟨Wa, hWa⟩ : ∃ Wa, Wa = W.alloc (.cells #[.int .i64 skip, .slice ga 3 gcap, .slice gc 2 gcap', .int .i64 K] 179) := ⟨_, rfl⟩
 rw [<- hWa] at sa bxa ia ib iu al ⊢;clear hWa s iC iD iU;have hn : Wa.cell? ⟨Dd, 0, none⟩ = some (.slice (some ⟨B, 0, none⟩) 3 cp) /\ Wa.cell? ⟨Dd, 1, none⟩ = some (.slice ua 2 cu) /\ Wa.cell? ⟨W.heap.size, 1, none⟩ = some (.slice ga 3 gcap) /\ Wa.cell? ⟨W.heap.size, 2, none⟩ = some (.slice gc 2 gcap') /\ Wa.cell? ⟨W.heap.size, 3, none⟩ = some (.int .i64 K) := ⟨sa.d.cell 0, sa.d.cell 1, bxa.cell 1, bxa.cell 2, bxa.cell 3⟩
 go_region_held3 (fun w' => w'.cell? ⟨Dd, 0, none⟩ = some (.slice (some ⟨B, 0, none⟩) 3 cp) /\ w'.cell? ⟨Dd, 1, none⟩ = some (.slice ua 2 cu) /\ w'.cell? ⟨W.heap.size, 1, none⟩ = some (.slice ga 3 gcap) /\ w'.cell? ⟨W.heap.size, 2, none⟩ = some (.slice gc 2 gcap') /\ w'.cell? ⟨W.heap.size, 3, none⟩ = some (.int .i64 K)) (first | with_reducible assumption | exact hn)
  (first
   | (go_at_call 123
      refine (iatG_any C D x U (by exact ia.below (Below.refl _ _).drew) (by exact ib.below (Below.refl _ _).drew) (by exact sa.ox.ints.below (Below.refl _ _).drew) (by exact iu.below (Below.refl _ _).drew) P R p1 p2 zP zQ tP tQ bK).mono ?_;rintro ee w3 ⟨rfl, b3⟩;rw [HY.out];have b3' := below_of_drew b3;have sd3 := sa.d.below b3';have bx3 := bxa.below b3'
      have hn3 : w3.cell? ⟨Dd, 0, none⟩ = some (.slice (some ⟨B, 0, none⟩) 3 cp) /\ w3.cell? ⟨Dd, 1, none⟩ = some (.slice ua 2 cu) /\ w3.cell? ⟨W.heap.size, 1, none⟩ = some (.slice ga 3 gcap) /\ w3.cell? ⟨W.heap.size, 2, none⟩ = some (.slice gc 2 gcap') /\ w3.cell? ⟨W.heap.size, 3, none⟩ = some (.int .i64 K) := ⟨sd3.cell 0, sd3.cell 1, bx3.cell 1, bx3.cell 2, bx3.cell 3⟩))
 have bb := btr al b3';have k0 := bx3.cell 0;simp only [qC] at k0
 by_cases hneg : y < 0
 ·go_wp2
  go_ret
  exact ⟨rfl, bb⟩
 go_wp2
 go_ret
 exact ⟨rfl, bb⟩
theorem touch_grown {S : Nat -> Prop} {row : Option Nat} (h : Touch S w W) (g : W.grownBy W' row) (hr : ∀ k, row = some k -> S k) : Touch S w W' :=
 ⟨g.os.trans h.os, g.tape.trans h.tape, g.output.trans h.output, Nat.le_trans h.size g.size, fun k hk hs => (g.block k (Nat.lt_of_lt_of_le hk h.size) (fun e => hs (hr k e.symm))).trans (h.block k hk hs)⟩
theorem leave_add (w1 : World) (Dd B cp : Nat) (ua : Option Addr) (cu : Nat) (v : Value) (x tl : List Int) (pn : Nat) (xp : Int) {ga : Option Addr} {gcap : Nat} {gc : Option Addr} {gcap' : Nat} {K : Int} (C D U : List Int) (y : Int) {P R : Int} {W : World} (s : DR w1 Dd B cp ua cu v x tl W) (iC : Ints W ga 3 C) (iD : Ints W gc 2 D) (iU : Ints W ua 2 U) (hy : atV C D K x U = y)
  (p1 : bndP P C x) (p2 : bndP R D U) (zP : 0 <= P) (zQ : 0 <= R) (tP : P <= 100000000000) (tQ : R <= 100000000000) (bK : -10000000 <= K /\ K <= 10000000) (hpn : pn < 3) (hxp : x[pn]?.getD 0 = xp) (r1 : -10000000000 <= xp) (r2 : xp <= 10000000000) (r3 : -1000000000000 <= y) (r4 : y <= 1000000000000) (hB : w1.heap.size <= B) (hDB : Dd ≠ B) :
  Calls Tryz.prog 115 #[.pointer (some ⟨Dd, 0, none⟩), .iface 181 (.agg #[.int .i64 (pn : Int), .slice ga 3 gcap, .slice gc 2 gcap', .int .i64 K])] W fun e w' => e = .returned (.int .i64 0) /\ DR w1 Dd B cp ua cu v (x.set pn (xp + y)) tl w' /\ Touch (fun z => z = B) W w' := by
 have h1 := as_addStep_testStep;have h2 := as_addStep_addStep;have HY : Hid (atV C D K x U = y) := hy;have HXP : Hid (x[pn]?.getD 0 = xp) := hxp;clear hy hxp;have hwr : IntKind.i64.wrap (xp + y) = xp + y := wrap_id (by omega) (by omega);have hpn' : (pn : Int) < 3 := by omega
 have al : Below W.heap.size W (W.alloc (.cells #[.int .i64 (pn : Int), .slice ga 3 gcap, .slice gc 2 gcap', .int .i64 K] 181)) := bal;have bxa := Cel.new W [.int .i64 (pn : Int), .slice ga 3 gcap, .slice gc 2 gcap', .int .i64 K] 181;have sa := s.below al;have ia := iC.below al;have ib := iD.below al;have iu := iU.below al;have lB := s.ox.lt (by omega);have lD := s.d.lt
 have cellp : ∀ Z, OwnX Z (some ⟨B, 0, none⟩) B 3 x -> Z.cell? ⟨B, pn, none⟩ = some (.int .i64 xp) /\ Z.frozen? ⟨B, pn, none⟩ = false := fun Z hZ => by
  obtain ⟨_, h1, h2⟩ := hZ.pos (by omega)
  exact ⟨by rw [h1 pn hpn, HXP.out], h2 pn⟩
 have CP : Hid _ := cellp;clear cellp
 go_enter Tryz.func115, Tryz.ntmps115
 go_upto_region 8 with fail
 obtain ⟨Wa, hWa⟩ : ∃ Wa, Wa = W.alloc (.cells #[.int .i64 (pn : Int), .slice ga 3 gcap, .slice gc 2 gcap', .int .i64 K] 181) := ⟨_, rfl⟩
 rw [<- hWa] at sa bxa ia ib iu al ⊢;clear hWa s iC iD iU;have zal := al.size;obtain ⟨ck, fk⟩ := CP.out Wa sa.ox;have hSS : (Wa.drew.cell? ⟨Dd, 0, none⟩ = some (.slice (some ⟨B, 0, none⟩) 3 cp) /\ Wa.drew.cell? ⟨Dd, 1, none⟩ = some (.slice ua 2 cu) /\ Wa.drew.cell? ⟨W.heap.size, 0, none⟩ = some (.int .i64 (pn : Int)) /\ Wa.drew.cell? ⟨W.heap.size, 1, none⟩ = some (.slice ga 3 gcap) /\ Wa.drew.cell? ⟨W.heap.size, 2, none⟩ = some (.slice gc 2 gcap') /\ Wa.drew.cell? ⟨W.heap.size, 3, none⟩ = some (.int .i64 K)) /\ Wa.drew.cell? ⟨B, pn, none⟩ = some (.int .i64 xp) := ⟨⟨sa.d.cell 0, sa.d.cell 1, bxa.cell 0, bxa.cell 1, bxa.cell 2, bxa.cell 3⟩, ck⟩
 refine wp_region_ends (fun w' => w'.cell? ⟨Dd, 0, none⟩ = some (.slice (some ⟨B, 0, none⟩) 3 cp) /\ w'.cell? ⟨Dd, 1, none⟩ = some (.slice ua 2 cu) /\ w'.cell? ⟨W.heap.size, 0, none⟩ = some (.int .i64 (pn : Int)) /\ w'.cell? ⟨W.heap.size, 1, none⟩ = some (.slice ga 3 gcap) /\ w'.cell? ⟨W.heap.size, 2, none⟩ = some (.slice gc 2 gcap') /\ w'.cell? ⟨W.heap.size, 3, none⟩ = some (.int .i64 K)) (fun w' => w'.cell? ⟨B, pn, none⟩ = some (.int .i64 xp)) 20 (by kernel_rfl) ?_;refine tkl 0 rfl hSS ?_;refine tkl 1 rfl hSS ?_;refine tkl 2 rfl hSS ?_;refine tkl 3 rfl hSS ?_;refine tkl 4 rfl hSS ?_;refine tkl 5 rfl hSS ?_;refine tkl 6 rfl hSS ?_;refine wpAnyE_take1 (i := 7) (v := ?v7) rfl rfl (by kernel_rfl) (by kernel_rfl) (by kernel_rfl) (by decide) (by rfl) (by simp [Region.binds]) (fun _ _ _ h => h) (Or.inl ⟨by rfl, ?hy7⟩) hSS ?_
 case hy7 => (intro wz hSw; (try dsimp only at hSw); go_simp; try (with_reducible rfl))
 refine tkl 8 rfl hSS ?_;refine tkl 9 rfl hSS ?_;refine tkl 10 rfl hSS ?_;refine tkl 11 rfl hSS ?_;refine tkl 12 rfl hSS ?_;refine tkl 13 rfl hSS ?_;refine tkl 14 rfl hSS ?_;refine tkl 15 rfl hSS ?_;refine tkl 16 rfl hSS ?_;refine tkl 17 rfl hSS ?_;refine wpAnyE_one (i := 18) (by kernel_rfl) rfl (fun Kn hK => ?_);go_simp;refine (iatG_any C D x U (ia.below (Below.refl _ _).drew) (ib.below (Below.refl _ _).drew) (sa.ox.ints.below (Below.refl _ _).drew) (iu.below (Below.refl _ _).drew) P R p1 p2 zP zQ tP tQ bK).mono ?_;rintro ee w3 ⟨rfl, b3⟩;rw [HY.out];have b3' := below_of_drew b3;have z3 := b3'.size;have s3 := sa.below b3';have bx3 := bxa.below b3';obtain ⟨ck3, fk3⟩ := CP.out w3 s3.ox;have hSS3 : (w3.cell? ⟨Dd, 0, none⟩ = some (.slice (some ⟨B, 0, none⟩) 3 cp) /\ w3.cell? ⟨Dd, 1, none⟩ = some (.slice ua 2 cu) /\ w3.cell? ⟨W.heap.size, 0, none⟩ = some (.int .i64 (pn : Int)) /\ w3.cell? ⟨W.heap.size, 1, none⟩ = some (.slice ga 3 gcap) /\ w3.cell? ⟨W.heap.size, 2, none⟩ = some (.slice gc 2 gcap') /\ w3.cell? ⟨W.heap.size, 3, none⟩ = some (.int .i64 K)) /\ w3.cell? ⟨B, pn, none⟩ = some (.int .i64 xp) := ⟨⟨s3.d.cell 0, s3.d.cell 1, bx3.cell 0, bx3.cell 1, bx3.cell 2, bx3.cell 3⟩, ck3⟩
 have s4 := s3.set hB hDB hpn (xp + y);have bx4 := bx3.setOther (show W.heap.size ≠ B by omega) pn (.int .i64 (xp + y));have hSS4 : (w3.setCell ⟨B, pn, none⟩ (.int .i64 (xp + y))).cell? ⟨Dd, 0, none⟩ = some (.slice (some ⟨B, 0, none⟩) 3 cp) /\ (w3.setCell ⟨B, pn, none⟩ (.int .i64 (xp + y))).cell? ⟨Dd, 1, none⟩ = some (.slice ua 2 cu) /\ (w3.setCell ⟨B, pn, none⟩ (.int .i64 (xp + y))).cell? ⟨W.heap.size, 0, none⟩ = some (.int .i64 (pn : Int)) /\ (w3.setCell ⟨B, pn, none⟩ (.int .i64 (xp + y))).cell? ⟨W.heap.size, 1, none⟩ = some (.slice ga 3 gcap) /\ (w3.setCell ⟨B, pn, none⟩ (.int .i64 (xp + y))).cell? ⟨W.heap.size, 2, none⟩ = some (.slice gc 2 gcap') /\ (w3.setCell ⟨B, pn, none⟩ (.int .i64 (xp + y))).cell? ⟨W.heap.size, 3, none⟩ = some (.int .i64 K) := ⟨s4.d.cell 0, s4.d.cell 1, bx4.cell 0, bx4.cell 1, bx4.cell 2, bx4.cell 3⟩
 dsimp only;refine hK.out _ _ ⟨hSS3.1, fun _ => hSS3.2⟩ ?_;clear hK hSS;refine tkl 19 rfl hSS3 ?_;refine wpAnyE_one (i := 20) (by kernel_rfl) rfl (fun Kn hK => ?_);go_simp;refine hK.out _ _ ⟨hSS3.1, fun _ => hSS3.2⟩ ?_;clear hK;refine wpAnyE_one (i := 21) (by kernel_rfl) rfl (fun Kn hK => ?_);go_simp;refine hK.out _ _ ⟨hSS4, fun h => absurd (show true = false from h) (by decide)⟩ ?_;clear hK;refine wod ?_ _;have zz : Touch (fun z => z = B) W (w3.setCell ⟨B, pn, none⟩ (.int .i64 (xp + y))) := Touch.setCell (S := fun z => z = B) ((Touch.of al).trans (Touch.of b3')) rfl _;clear b3 b3' sa bxa ia ib iu bx3 bx4 hSS3 hSS4 ck fk ck3 fk3 s3 al
 go_wp2
 go_ret
 exact ⟨rfl, s4, zz⟩
theorem leave_tell (w1 : World) (Dd B cp : Nat) (ua : Option Addr) (cu : Nat) (v : Value) (x tl : List Int) (tn : Nat) {ga : Option Addr} {gcap : Nat} {gc : Option Addr} {gcap' : Nat} {K : Int} (C D U : List Int) (y : Int) {P R : Int} {W : World} (s : DR w1 Dd B cp ua cu v x tl W) (iC : Ints W ga 3 C) (iD : Ints W gc 2 D) (iU : Ints W ua 2 U) (hy : atV C D K x U = y)
  (p1 : bndP P C x) (p2 : bndP R D U) (zP : 0 <= P) (zQ : 0 <= R) (tP : P <= 100000000000) (tQ : R <= 100000000000) (bK : -10000000 <= K /\ K <= 10000000) (htn : tl.length = tn) (ht6 : tn <= 100) (hB : w1.heap.size <= B) (hD : w1.heap.size <= Dd) (hDB : Dd ≠ B) :
  Calls Tryz.prog 115 #[.pointer (some ⟨Dd, 0, none⟩), .iface 183 (.agg #[.slice ga 3 gcap, .slice gc 2 gcap', .int .i64 K])] W fun e w' => e = .returned (.int .i64 0) /\ (∃ v', DR w1 Dd B cp ua cu v' x (tl ++ [y]) w' /\ ∀ F, F < W.heap.size -> v.ownBlock ≠ some F -> v'.ownBlock ≠ some F) /\ Touch (fun z => z = Dd \/ v.ownBlock = some z) W w' := by
 have h1 := as_printStep_testStep;have h2 := as_printStep_addStep;have h3 := as_printStep_printStep;obtain ⟨i0, hi, hz0, hz1, hz2⟩ := info_parts Tryz.infoInt;have HY : Hid (atV C D K x U = y) := hy;have HTN : Hid (tl.length = tn) := htn;clear hy htn;have al : Below W.heap.size W (W.alloc (.cells #[.slice ga 3 gcap, .slice gc 2 gcap', .int .i64 K] 183)) := bal;have bxa := Cel.new W [.slice ga 3 gcap, .slice gc 2 gcap', .int .i64 K] 183;have sa := s.below al;have ia := iC.below al;have ib := iD.below al;have iu := iU.below al;have lB := s.ox.lt (by omega);have lD := s.d.lt;have lv : ∀ z, v.ownBlock = some z -> z < W.heap.size := fun z hz => (s.j.o.lt z hz).2;have HLV : Hid _ := lv;clear lv
 go_enter Tryz.func115, Tryz.ntmps115
 go_upto_region 11 with fail
 obtain ⟨Wa, hWa⟩ : ∃ Wa, Wa = W.alloc (.cells #[.slice ga 3 gcap, .slice gc 2 gcap', .int .i64 K] 183) := ⟨_, rfl⟩
 rw [<- hWa] at sa bxa ia ib iu al ⊢;clear hWa s iC iD iU;have zal := al.size;have hSS : (Wa.drew.cell? ⟨Dd, 0, none⟩ = some (.slice (some ⟨B, 0, none⟩) 3 cp) /\ Wa.drew.cell? ⟨Dd, 1, none⟩ = some (.slice ua 2 cu) /\ Wa.drew.cell? ⟨W.heap.size, 0, none⟩ = some (.slice ga 3 gcap) /\ Wa.drew.cell? ⟨W.heap.size, 1, none⟩ = some (.slice gc 2 gcap') /\ Wa.drew.cell? ⟨W.heap.size, 2, none⟩ = some (.int .i64 K)) /\ Wa.drew.cell? ⟨Dd, 2, none⟩ = some v := ⟨⟨sa.d.cell 0, sa.d.cell 1, bxa.cell 0, bxa.cell 1, bxa.cell 2⟩, sa.d.cell 2⟩
 refine wp_region_ends (fun w' => w'.cell? ⟨Dd, 0, none⟩ = some (.slice (some ⟨B, 0, none⟩) 3 cp) /\ w'.cell? ⟨Dd, 1, none⟩ = some (.slice ua 2 cu) /\ w'.cell? ⟨W.heap.size, 0, none⟩ = some (.slice ga 3 gcap) /\ w'.cell? ⟨W.heap.size, 1, none⟩ = some (.slice gc 2 gcap') /\ w'.cell? ⟨W.heap.size, 2, none⟩ = some (.int .i64 K)) (fun w' => w'.cell? ⟨Dd, 2, none⟩ = some v) 18 (by kernel_rfl) ?_;refine tkl 0 rfl hSS ?_;refine tkl 1 rfl hSS ?_;refine tkl 2 rfl hSS ?_;refine tkl 3 rfl hSS ?_;refine wpAnyE_take1 (i := 4) (v := ?v4) rfl rfl (by kernel_rfl) (by kernel_rfl) (by kernel_rfl) (by decide) (by rfl) (by simp [Region.binds]) (fun _ _ _ h => h) (Or.inl ⟨by rfl, ?hy4⟩) hSS ?_
 case hy4 => (intro wz hSw; (try dsimp only at hSw); go_simp; try (with_reducible rfl))
 refine tkl 5 rfl hSS ?_;refine tkl 6 rfl hSS ?_;refine tkl 7 rfl hSS ?_;refine tkl 8 rfl hSS ?_;refine tkl 9 rfl hSS ?_;refine tkl 10 rfl hSS ?_;refine tkl 11 rfl hSS ?_;refine tkl 12 rfl hSS ?_;refine tkl 13 rfl hSS ?_;refine tkl 14 rfl hSS ?_;refine wpAnyE_one (i := 15) (by kernel_rfl) rfl (fun Kn hK => ?_);go_simp;refine (iatG_any C D x U (ia.below (Below.refl _ _).drew) (ib.below (Below.refl _ _).drew) (sa.ox.ints.below (Below.refl _ _).drew) (iu.below (Below.refl _ _).drew) P R p1 p2 zP zQ tP tQ bK).mono ?_;rintro ee w3 ⟨rfl, b3⟩;rw [HY.out];have b3' := below_of_drew b3;have z3 := b3'.size;have s3 := sa.below b3';have bx3 := bxa.below b3';have jo := s3.j.o;rw [HTN.out] at jo;have hjb := s3.j.b.size;have s3a := s3.alloc (.cells #[.int .i64 y] 3);have bx3a := bx3.alloc (.cells #[.int .i64 y] 3);have hSS3 : (w3.cell? ⟨Dd, 0, none⟩ = some (.slice (some ⟨B, 0, none⟩) 3 cp) /\ w3.cell? ⟨Dd, 1, none⟩ = some (.slice ua 2 cu) /\ w3.cell? ⟨W.heap.size, 0, none⟩ = some (.slice ga 3 gcap) /\ w3.cell? ⟨W.heap.size, 1, none⟩ = some (.slice gc 2 gcap') /\ w3.cell? ⟨W.heap.size, 2, none⟩ = some (.int .i64 K)) /\ w3.cell? ⟨Dd, 2, none⟩ = some v := ⟨⟨s3.d.cell 0, s3.d.cell 1, bx3.cell 0, bx3.cell 1, bx3.cell 2⟩, s3.d.cell 2⟩
 have hSS4 : ((w3.alloc (.cells #[.int .i64 y] 3)).cell? ⟨Dd, 0, none⟩ = some (.slice (some ⟨B, 0, none⟩) 3 cp) /\ (w3.alloc (.cells #[.int .i64 y] 3)).cell? ⟨Dd, 1, none⟩ = some (.slice ua 2 cu) /\ (w3.alloc (.cells #[.int .i64 y] 3)).cell? ⟨W.heap.size, 0, none⟩ = some (.slice ga 3 gcap) /\ (w3.alloc (.cells #[.int .i64 y] 3)).cell? ⟨W.heap.size, 1, none⟩ = some (.slice gc 2 gcap') /\ (w3.alloc (.cells #[.int .i64 y] 3)).cell? ⟨W.heap.size, 2, none⟩ = some (.int .i64 K)) /\ (w3.alloc (.cells #[.int .i64 y] 3)).cell? ⟨Dd, 2, none⟩ = some v := ⟨⟨s3a.d.cell 0, s3a.d.cell 1, bx3a.cell 0, bx3a.cell 1, bx3a.cell 2⟩, s3a.d.cell 2⟩
 dsimp only;refine hK.out _ _ ⟨hSS3.1, fun _ => hSS3.2⟩ ?_;clear hK hSS;refine wpAnyE_one (i := 16) (by kernel_rfl) rfl (fun Kn hK => ?_);go_simp;refine hK.out _ _ ⟨hSS4.1, fun _ => hSS4.2⟩ ?_;clear hK;refine wpAnyE_one (i := 17) (by kernel_rfl) rfl (fun Kn hK => ?_);refine step_append_lies _ (by rfl) _ _ _ (by rfl) w1.heap.size 3 i0 (.int .i64 0) 1 8 Tryz.underlying24 hi hz0 hz1 hz2 rfl (by decide) v tn (tl.map (Value.int .i64)) (by rfl) (jo.alloc _) ⟨w3.heap.size, 0, none⟩ 1 1 [.int .i64 y] (by rfl) rfl (news1 _) (one1) (by omega) (by unfold maxLen; omega) (by omega) (by rw [qA]; omega) _ rfl ?_;intro g4 cp4 w4 hown hgrow hat hlt4;have d4 := s3.d.grown hgrow s3.nd;have bx4 := bx3.grown hgrow (fun e => by have := HLV.out _ e; omega);have fd4 := d4.free 2;have cd4 := d4.cell 2;simp only [qC, List.getElem?_cons_succ] at cd4;have s5 := s3.app hD hDB HTN.out hown hgrow hat (by rw [qA]; omega) (by rw [qA]; omega);have bx5 := bx4.setOther (show W.heap.size ≠ Dd by omega) 2 (.slice (some ⟨g4, 0, none⟩) (tn + 1) cp4);have hSS5 : (w4.cell? ⟨Dd, 0, none⟩ = some (.slice (some ⟨B, 0, none⟩) 3 cp) /\ w4.cell? ⟨Dd, 1, none⟩ = some (.slice ua 2 cu) /\ w4.cell? ⟨W.heap.size, 0, none⟩ = some (.slice ga 3 gcap) /\ w4.cell? ⟨W.heap.size, 1, none⟩ = some (.slice gc 2 gcap') /\ w4.cell? ⟨W.heap.size, 2, none⟩ = some (.int .i64 K)) /\ w4.cell? ⟨Dd, 2, none⟩ = some v := ⟨⟨d4.cell 0, d4.cell 1, bx4.cell 0, bx4.cell 1, bx4.cell 2⟩, cd4⟩
 have hSS6 : (w4.setCell ⟨Dd, 2, none⟩ (.slice (some ⟨g4, 0, none⟩) (tn + 1) cp4)).cell? ⟨Dd, 0, none⟩ = some (.slice (some ⟨B, 0, none⟩) 3 cp) /\ (w4.setCell ⟨Dd, 2, none⟩ (.slice (some ⟨g4, 0, none⟩) (tn + 1) cp4)).cell? ⟨Dd, 1, none⟩ = some (.slice ua 2 cu) /\ (w4.setCell ⟨Dd, 2, none⟩ (.slice (some ⟨g4, 0, none⟩) (tn + 1) cp4)).cell? ⟨W.heap.size, 0, none⟩ = some (.slice ga 3 gcap) /\ (w4.setCell ⟨Dd, 2, none⟩ (.slice (some ⟨g4, 0, none⟩) (tn + 1) cp4)).cell? ⟨W.heap.size, 1, none⟩ = some (.slice gc 2 gcap') /\ (w4.setCell ⟨Dd, 2, none⟩ (.slice (some ⟨g4, 0, none⟩) (tn + 1) cp4)).cell? ⟨W.heap.size, 2, none⟩ = some (.int .i64 K) := ⟨s5.d.cell 0, s5.d.cell 1, bx5.cell 0, bx5.cell 1, bx5.cell 2⟩
 have zz : Touch (fun z => z = Dd \/ v.ownBlock = some z) W (w4.setCell ⟨Dd, 2, none⟩ (.slice (some ⟨g4, 0, none⟩) (tn + 1) cp4)) :=
  Touch.setCell (S := fun z => z = Dd \/ v.ownBlock = some z) (touch_grown (((Touch.of al).trans (Touch.of b3')).trans (Touch.of (bal))) hgrow (fun z hz => .inr hz)) (.inl rfl) _
 have nf : ∀ F, F < W.heap.size -> v.ownBlock ≠ some F -> Value.ownBlock (.slice (some ⟨g4, 0, none⟩) (tn + 1) cp4) ≠ some F := fun F hF hne e => by
  have e' : g4 = F := by
   have : some g4 = some F := e;simpa using this
  rcases hat with h | h
  ·exact hne (by rw [h, e'])
  rw [qA] at h; omega
 refine hK.out _ _ ⟨hSS5.1, fun _ => hSS5.2⟩ ?_;clear hK;refine wpAnyE_one (i := 18) (by kernel_rfl) rfl (fun Kn hK => ?_);go_simp;refine hK.out _ _ ⟨hSS5.1, fun _ => hSS5.2⟩ ?_;clear hK;refine wpAnyE_one (i := 19) (by kernel_rfl) rfl (fun Kn hK => ?_);go_simp;refine hK.out _ _ ⟨hSS5.1, fun _ => hSS5.2⟩ ?_;clear hK;refine wpAnyE_one (i := 20) (by kernel_rfl) rfl (fun Kn hK => ?_);go_simp;refine hK.out _ _ ⟨hSS6, fun h => absurd (show true = false from h) (by decide)⟩ ?_;clear hK;refine wod ?_ _;clear b3 b3' sa bxa ia ib iu bx3 bx4 bx5 hSS3 hSS4 hSS5 hSS6 s3 s3a bx3a al d4 fd4 cd4 hown hgrow jo
 go_wp2
 go_ret
 exact ⟨rfl, ⟨_, s5, nf⟩, zz⟩
theorem as_nil_sign (w : World) : (Instr.typeAssert .nilIface 20 154 true).run Tryz.prog w = .ok (.tuple #[.agg #[], .bool false]) w := by kernel_rfl
theorem as_sign_sign (w : World) : (Instr.typeAssert (.iface 154 (.agg #[])) 20 154 true).run Tryz.prog w = .ok (.tuple #[.agg #[], .bool true]) w := by kernel_rfl
theorem ne_nil_nil (w : World) : (binOp .neq 20 .nilIface .nilIface).run Tryz.prog w = .ok (.bool false) w := by kernel_rfl
theorem ne_sign_nil (w : World) : (binOp .neq 20 (.iface 154 (.agg #[])) .nilIface).run Tryz.prog w = .ok (.bool true) w := by kernel_rfl
theorem catch_idle (F : Nat) (b : Bool) {w : World} (hc : w.cell? ⟨F, 0, none⟩ = some (.bool b)) (hz : w.frozen? ⟨F, 0, none⟩ = false) :
  CallsD Tryz.prog 114 #[.pointer (some ⟨F, 0, none⟩)] .returning w fun e u' w' => e = .returned (.tuple #[]) /\ u' = .returning /\ w' = w.setCell ⟨F, 0, none⟩ (.bool false) := by
 have h1 := as_nil_sign;have h2 := ne_nil_nil;refine callsD_of_wpS Tryz.func114 rfl fun c₀ cs hu => ?_
 apply wpS_seq
 apply wpS_region
 simp [wpOpsS, go_sem, recoverD, hu, Tryz.ntmps114, Exit.thenS];refine wpS_of_wp ?_
 go_wp2
 cases c₀
 simp_all [bodyPostS, results, Tryz.results114]
theorem catch_stop (F : Nat) (b : Bool) (older : List PanicEntry) {w : World} (hc : w.cell? ⟨F, 0, none⟩ = some (.bool b)) (hz : w.frozen? ⟨F, 0, none⟩ = false) :
  CallsD Tryz.prog 114 #[.pointer (some ⟨F, 0, none⟩)] (.panicking ({ v := .iface 154 (.agg #[]), recovered := false } :: older)) w fun e u' w' => e = .returned (.tuple #[]) /\ u' = .panicking ({ v := .iface 154 (.agg #[]), recovered := true } :: older) /\ w' = w.setCell ⟨F, 0, none⟩ (.bool true) := by
 have h1 := as_sign_sign;have h2 := ne_sign_nil;refine callsD_of_wpS Tryz.func114 rfl fun c₀ cs hu => ?_
 apply wpS_seq
 apply wpS_region
 simp [wpOpsS, go_sem, recoverD, hu, Tryz.ntmps114, Exit.thenS];refine wpS_of_wp ?_
 go_wp2
 simp [bodyPostS, results, Tryz.results114]
theorem DR.other {w1 : World} {Dd cp : Nat} {ua : Option Addr} {cu : Nat} (s : DR w1 Dd B cp ua cu v x tl W) {F : Nat} (h1 : w1.heap.size <= F) (h2 : Dd ≠ F) (h3 : F ≠ B) (nF : v.ownBlock ≠ some F) (i : Nat) (y : Value) : DR w1 Dd B cp ua cu v x tl (W.setCell ⟨F, i, none⟩ y) :=
 ⟨s.b.setCell h1 _, s.d.setOther h2 _ _, s.ox.setOther (fun _ => h3) _ _, s.j.set h1 nF _ _, s.ne, s.nd⟩
theorem stops_any (w1 : World) (Dd B cp : Nat) (ua : Option Addr) (cu : Nat) (v : Value) (ad : Option Addr) (N : Nat) (ls : List LV) (V U : List Int) (sa : Option Addr) (scap G : Nat) {W : World}
  (hN : ls.length = N) (h6 : N <= 6) (hF : LinesG w1 ad ls) (hall : ls.all LV.ok = true) (hsa : 0 < N -> sa = some ⟨G, 0, none⟩) (hst : ∀ i, i < N -> w1.cell? ⟨G, i, none⟩ = some (stepV (ls[i]?.getD noLV))) (iU : Ints w1 ua 2 U) (bU : bnd 9 U) (bV : bnd 10000 V) (hVL : V.length = 3)
  (s0 : DR w1 Dd B cp ua cu v V [] W) (hB : w1.heap.size <= B) (hD : w1.heap.size <= Dd) (hDB : Dd ≠ B) :
  Calls Tryz.prog 69 #[.pointer (some ⟨Dd, 0, none⟩), .slice sa N scap] W fun e w' => e = .returned (.bool (runL U ls V).1) /\ Below w1.heap.size w1 w' /\ ((runL U ls V).1 = false -> ∃ v' , DR w1 Dd B cp ua cu v' (runL U ls V).2.1 (runL U ls V).2.2 w' /\ (runL U ls V).2.2.length <= 100) := by
 have HN : Hid (ls.length = N) := hN;have HO : Hid (ls.all LV.ok = true) := hall;have HST : Hid _ := hst;have HSA : Hid _ := hsa;clear hN hall hst hsa;have hmf : ∀ (fn : Fn) (first cap : Array Value) (w : World), (Instr.makeFunc fn first cap).run Tryz.prog w = .ok (.func fn first cap) w := fun _ _ _ _ => rfl;have sF := s0.alloc (.cells #[.bool false] 4);have cF := Cel.new W [.bool false] 4;have nF : v.ownBlock ≠ some W.heap.size := fun e => by have := (s0.j.o.lt _ e).2; omega
 have lB := s0.ox.lt (by omega);have lD := s0.d.lt;have HAT : Hid (At U ls V 0 V []) := At.start bV hVL;clear s0
 go_enter_defers Tryz.func69, Tryz.ntmps69
 go_wp2_with fail
 go_loopw [5] (fun i wr => ∃ (k : Nat) (x tl : List Int) (v' : Value), k <= 12 /\ i = .int .i64 k /\ At U ls V k x tl /\ DR w1 Dd B cp ua cu v' x tl wr /\ Cel wr W.heap.size [.bool false] 4 /\ v'.ownBlock ≠ some W.heap.size) (fun i _ => N - (intOf i).toNat)
 case atStart => exact ⟨0, V, [], v, by omega, rfl, HAT.out, sF, cF, nF⟩
 case round =>
  clear sF cF nF HAT;obtain ⟨k, x, tl, v', hk12, rfl, hAt, s, cF, nF⟩ := hrel;have HAT : Hid (At U ls V k x tl) := hAt;clear hAt;have c0 := cF.cell 0;have f0 := cF.free 0;simp only [qC] at c0;have zw := s.b.size;have z1 : w1.heap.size <= W.heap.size := by omega
  by_cases hlt : k < N
  ·obtain ⟨b, off, rfl, hc, hAtL⟩ := (hF.below s.b) k (by rw [HN.out]; exact hlt);have hok := allL_at (k := k) HO.out (by rw [HN.out]; exact hlt);have hkl : Hid (k < ls.length) := by show k < ls.length; rw [HN.out]; exact hlt
   have h6l : Hid (ls.length <= 6) := by show ls.length <= 6; rw [HN.out]; exact h6
   have bX := HAT.out.b (by omega);have bd6 := bd_six (n := k) (by omega);have bdp := bd_pos k;obtain rfl := HSA.out (by omega)
   have hstep : wr.cell? ⟨G, k, none⟩ = some (stepV (ls[k]?.getD noLV)) := by
    have h0 := HST.out k hlt;rw [s.b.cell (p := ⟨G, k, none⟩) (block_lt h0)]; exact h0
   generalize HG : ls[k]?.getD noLV = g at *;have HG' : Hid (ls[k]?.getD noLV = g) := HG;clear HG hc;obtain ⟨gk, gp, gz, ⟨ga, gn, gcap, gc, gm, gcap', gK, gC, gD⟩⟩ := g;obtain ⟨iC, iD, hn, hm⟩ := hAtL;simp only at iC iD hn hm;have iUr := iU.below s.b;have hok' : lineB gk gp gz gn gm gC gD gK = true := hok;clear hok
   by_cases hk1 : gk = 1
   ·subst hk1;obtain ⟨z1', z2', hsm⟩ := line_one hok';obtain ⟨rfl, rfl, bC, bD, bK1, bK2⟩ := small_elim hsm;obtain ⟨q1, q2, q3, q4⟩ := small_at bC bD bK1 bK2 bX bU;obtain ⟨y, hy⟩ : ∃ y, atV gC gD gK x U = y := ⟨_, rfl⟩
    have HY : Hid (atV gC gD gK x U = y) := hy;have HS : Hid (∀ j, (j = if y < 0 then k + 1 + gz.toNat else k + 1) -> At U ls V j x tl) := fun j hj => HAT.out.skip hkl.out h6l.out HG'.out rfl (by rw [hj, <- hy]; rfl);have hstep' : wr.cell? ⟨G, k, none⟩ = some (.iface 179 (.agg #[.int .i64 gz, .slice ga 3 gcap, .slice gc 2 gcap', .int .i64 gK])) := by rw [hstep]; rfl
    clear hy hok' hsm bX q3 q4 hstep
    by_cases hneg : y < 0
    ·go_wp2_with fail
     refine (leave_test w1 Dd B cp ua cu v' x tl gC gD U y s iC iD iUr HY.out q1 q2 (by omega) (by omega) (by omega) (by omega) ⟨by omega, by omega⟩).mono ?_;rintro e w3 ⟨rfl, b3⟩;rw [if_pos hneg];have s3 := s.below b3;have cF3 := cF.below b3;clear b3 s iC iD iUr q1 q2 c0 f0 cF hstep'
     go_wp2
     go_roundw
     case rel => exact ⟨k + 1 + gz.toNat, x, tl, v', by omega, by go_num, HS.out _ (by rw [if_pos hneg]), s3, cF3, nF⟩
     case measure => simp [intOf]; omega
    go_wp2_with fail
    refine (leave_test w1 Dd B cp ua cu v' x tl gC gD U y s iC iD iUr HY.out q1 q2 (by omega) (by omega) (by omega) (by omega) ⟨by omega, by omega⟩).mono ?_;rintro e w3 ⟨rfl, b3⟩;rw [if_neg (by omega)];have s3 := s.below b3;have cF3 := cF.below b3;clear b3 s iC iD iUr q1 q2 c0 f0 cF hstep'
    go_wp2
    go_roundw
    case rel => exact ⟨k + 1, x, tl, v', by omega, by go_num, HS.out _ (by rw [if_neg (by omega)]), s3, cF3, nF⟩
    case measure => simp [intOf]; omega
   by_cases hk2 : gk = 2
   ·subst hk2;obtain ⟨z1', z2', hsm⟩ := line_two hok';obtain ⟨rfl, rfl, bC, bD, bK1, bK2⟩ := small_elim hsm;obtain ⟨q1, q2, q3, q4⟩ := small_at bC bD bK1 bK2 bX bU;obtain ⟨pn, rfl⟩ := Int.eq_ofNat_of_zero_le z1';have hpn : pn < 3 := by omega
    obtain ⟨xp, hxp⟩ : ∃ xp, x[pn]?.getD 0 = xp := ⟨_, rfl⟩
    have HXP : Hid (x[pn]?.getD 0 = xp) := hxp;obtain ⟨r1, r2⟩ := bX pn;rw [hxp] at r1 r2;obtain ⟨y, hy⟩ : ∃ y, atV gC gD gK x U = y := ⟨_, rfl⟩
    have HY : Hid (atV gC gD gK x U = y) := hy;rw [hy] at q3 q4
    have HS : Hid (At U ls V (k + 1) (x.set pn (xp + y)) tl) := by
     have := HAT.out.add hkl.out h6l.out HG'.out rfl (by show _ <= atV gC gD gK x U; rw [hy]; omega) (by show atV gC gD gK x U <= _; rw [hy]; omega);simp only [Int.toNat_natCast, hxp] at this;rw [show atF x U ⟨ga, 3, gcap, gc, 2, gcap', gK, gC, gD⟩ = y from hy] at this
     exact this
    have hstep' : wr.cell? ⟨G, k, none⟩ = some (.iface 181 (.agg #[.int .i64 (pn : Int), .slice ga 3 gcap, .slice gc 2 gcap', .int .i64 gK])) := by rw [hstep]; rfl
    clear hy hxp hok' hsm bX hstep
    go_wp2_with fail
    refine (leave_add w1 Dd B cp ua cu v' x tl pn xp gC gD U y s iC iD iUr HY.out q1 q2 (by omega) (by omega) (by omega) (by omega) ⟨by omega, by omega⟩ hpn HXP.out (by omega) (by omega) (by omega) (by omega) hB hDB).mono ?_;rintro e w3 ⟨rfl, s3, t3⟩;have cF3 := cF.touch t3 (fun e => by omega);clear t3 s iC iD iUr q1 q2 c0 f0 cF hstep'
    go_wp2
    go_roundw
    case rel => exact ⟨k + 1, _, tl, v', by omega, by go_num, HS.out, s3, cF3, nF⟩
    case measure => simp [intOf]; omega
   by_cases hk3 : gk = 3
   ·subst hk3;have hsm := line_three hok';obtain ⟨rfl, rfl, bC, bD, bK1, bK2⟩ := small_elim hsm;obtain ⟨q1, q2, q3, q4⟩ := small_at bC bD bK1 bK2 bX bU;obtain ⟨y, hy⟩ : ∃ y, atV gC gD gK x U = y := ⟨_, rfl⟩
    have HY : Hid (atV gC gD gK x U = y) := hy
    have HS : Hid (At U ls V (k + 1) x (tl ++ [y])) := by
     have := HAT.out.tell hkl.out h6l.out HG'.out rfl;rw [show atF x U ⟨ga, 3, gcap, gc, 2, gcap', gK, gC, gD⟩ = y from hy] at this
     exact this
    have ht := HAT.out.t;have hstep' : wr.cell? ⟨G, k, none⟩ = some (.iface 183 (.agg #[.slice ga 3 gcap, .slice gc 2 gcap', .int .i64 gK])) := by rw [hstep]; rfl
    have lF := cF.lt;clear hy hok' hsm bX q3 q4 hstep
    go_wp2_with fail
    refine (leave_tell w1 Dd B cp ua cu v' x tl tl.length gC gD U y s iC iD iUr HY.out q1 q2 (by omega) (by omega) (by omega) (by omega) ⟨by omega, by omega⟩ rfl (by omega) hB hD hDB).mono ?_;rintro e w3 ⟨rfl, ⟨v2, s3, nf⟩, t3⟩
    have cF3 := cF.touch t3 (fun e => by
     rcases e with e | e
     ·omega
     exact nF e)
    have nF3 := nf _ lF nF;clear t3 s iC iD iUr q1 q2 c0 f0 cF hstep' nf
    go_wp2
    go_roundw
    case rel => exact ⟨k + 1, x, tl ++ [y], v2, by omega, by go_num, HS.out, s3, cF3, nF3⟩
    case measure => simp [intOf]; omega
   have hk4 : gk = 4 := by
    apply Classical.byContradiction
    intro h4;simp [lineB, hk1, hk2, hk3, h4] at hok'
   subst hk4;have hstop : (runL U ls V).1 = true := HAT.out.stop hkl.out h6l.out HG'.out hk1 hk2 hk3;have HSTOP : Hid ((runL U ls V).1 = true) := hstop;have hstep' : wr.cell? ⟨G, k, none⟩ = some (.iface 184 (.agg #[])) := by rw [hstep]; rfl
   clear hstop hstep hok' bX
   go_wp2_with fail
   refine (leave_stop).mono ?_;rintro e w3 ⟨rfl, b3⟩;have s3 := s.below b3;have cF3 := cF.below b3;clear b3 s cF c0 f0
   go_wp2
   refine leaves_cons (f := 114) (args := #[.pointer (some ⟨W.heap.size, 0, none⟩)]) (by simp) (by simp [go_sem]) ?_;refine (catch_stop W.heap.size false [] (cF3.cell 0) (cF3.free 0)).mono ?_;rintro e u' w'' ⟨rfl, rfl, rfl⟩;have cF4 := (cF3.set 0 (.bool true)).cell 0;simp only [List.set_cons_zero, qC] at cF4;have b4 : Below w1.heap.size w1 (w3.setCell ⟨W.heap.size, 0, none⟩ (.bool true)) := s3.b.setCell z1 _;simp [Leaves, settle, results, Tryz.results69, go_sem, cF4]
   exact ⟨HSTOP.out, b4, fun h => by rw [HSTOP.out] at h; cases h⟩
  have hd := HAT.out.done (by rw [HN.out]; omega);have HD : Hid (runL U ls V = (false, x, tl)) := hd;have ht := HAT.out.t;clear hd
  go_wp2
  have cF1 := cF.set 0 (.bool false);refine leaves_cons (f := 114) (args := #[.pointer (some ⟨W.heap.size, 0, none⟩)]) (by simp) (by simp [go_sem]) ?_;refine (catch_idle W.heap.size false (cF1.cell 0) (cF1.free 0)).mono ?_;rintro e u' w'' ⟨rfl, rfl, rfl⟩;have cF2 := (cF1.set 0 (.bool false)).cell 0;have s2 := (s.other (F := W.heap.size) z1 (by omega) (by omega) nF 0 (.bool false)).other (F := W.heap.size) z1 (by omega) (by omega) nF 0 (.bool false);simp only [List.set_cons_zero, qC] at cF2;simp [Leaves, settle, results, Tryz.results69, go_sem, cF2];rw [HD.out]
  exact ⟨rfl, s2.b, fun _ => ⟨⟨v', s2⟩, by show tl.length <= 100; omega⟩⟩
end Go.Proofs.YtemcinobgdphnaaGreat
