/-
  Lemmas that the claim's last text rests on.
-/
import Derived.Deep.AppendLies
import Derived.Lib.SliceRun
import Derived.Lib.SmallJoins
import Derived.Deep.Slices
import Derived.Test.YtemcinobgdphnaaGreatQLD
namespace Go.Proofs.YtemcinobgdphnaaGreat
open Go.RowKit Go.ChangeShapes Go.WideShapes Go.ChangeAt Go.Joins Go.Deep
open Option.some renaming injEq → qA
open Addr.mk renaming injEq → qB
open List renaming getElem?_eq_getElem → qC, getElem?_cons_zero → qD, length_append → qE, take_succ_eq_append_getElem → qF, length_cons → qG, length_nil → qH, getElem?_take → qK
open Nat renaming le_refl → qI, zero_le → qJ
set_option linter.unusedVariables false
set_option maxRecDepth 100000
set_option maxHeartbeats 25600000
variable {B B1 B2 R cap cap' k m n : Nat} {C D bs xs zs : List Int} {K p : Int} {S : Nat -> Prop} {W W' w w' : World} {a c : Option Addr} {v : Value}
structure FA (w : World) (a : Option Addr) (n : Nat) (c : Option Addr) (m : Nat) (f : Frm) : Prop where
 C : Ints w a n f.1
 D : Ints w c m f.2.1
 hn : n <= 1048576
 hm : m <= 1048576
theorem FA.below {f : Frm} (h : FA w a n c m f) (b : Below w.heap.size w w') : FA w' a n c m f := ⟨h.C.below b, h.D.below b, h.hn, h.hm⟩
def Mk (w w' : World) (e : Ending) (f : Frm) : Prop := ∃ a n cap c m cap', e = .returned (formV a n cap c m cap' f.2.2) /\ FA w' a n c m f /\ Below w.heap.size w w'
theorem Mk.of {e : Ending} (h : Res w w' e C D K) (h1 : C.length <= 1048576) (h2 : D.length <= 1048576) : Mk w w' e (C, D, K) := by
 obtain ⟨a, n, cap, c, m, cap', B1, B2, he, rfl, rfl, hb, o1, o2, _, _, _⟩ := h
 exact ⟨a, _, cap, c, _, cap', he, ⟨o1.ints, o2.ints, h1, h2⟩, hb⟩
def okP (f : Frm) : Bool := formB f.1.length f.2.1.length f.1 f.2.1 f.2.2
def zeroP : Frm := ([0, 0, 0], [0, 0], 0)
theorem pZero : Calls Tryz.prog 61 #[] w fun e w' => Mk w w' e zeroP := (izero_res w).mono fun e w' h => Mk.of h (by simp) (by simp)
theorem pOk (f : Frm) (a : Option Addr) (n cap : Nat) (c : Option Addr) (m cap' : Nat) (w : World) (hf : FA w a n c m f) :
  Calls Tryz.prog 60 #[formV a n cap c m cap' f.2.2] w fun e w' => e = .returned (.bool (okP f)) /\ Below w.heap.size w w' := by
 obtain rfl := hf.C.1;obtain rfl := hf.D.1
 go_enter Tryz.func60, Tryz.ntmps60
 go_wp2_with fail
 refine (iok_any a cap c cap' f.2.2 f.1 f.2.1 (hf.C.alloc _) (hf.D.alloc _) hf.hn hf.hm).mono ?_;rintro e w1 ⟨rfl, b1⟩
 go_wp2
 go_ret
 exact ⟨rfl, (bal).trans (b1.mono (by simp))⟩
theorem coI_any (xs ys : List Int) {w : World} (h : Ints w a n xs) (h' : Ints w c m ys) (hn : n <= 1048576) (hm : m <= 1048576) :
  Calls Tryz.prog 12 #[.slice a n cap, .slice c m cap'] w fun e w' => e = .returned (.bool (eqB xs ys)) /\ Below w.heap.size w w' := by
 have hx := h.1;have HX : Hid (xs.length = n) := hx;have hy := h'.1;have HY : Hid (ys.length = m) := hy;clear hx hy
 by_cases hc : n = m
 ·subst hc
  go_enter Tryz.func12, Tryz.ntmps12
  go_wp2_with fail
  go_loopw [5] (fun i wr => ∃ k : Nat, k <= n /\ i = .int .i64 k /\ Below w.heap.size w wr /\ xs.take k = ys.take k) (fun i _ => n - (intOf i).toNat)
  case atStart => exact ⟨0, qJ _, rfl, Below.refl _ _, rfl⟩
  case round =>
   obtain ⟨k, hk, rfl, hnx, hall⟩ := hrel;have HA : Hid (xs.take k = ys.take k) := hall;clear hall
   by_cases hlt : k < n
   ·obtain ⟨b, off, rfl, hcell⟩ := (h.below hnx).pos (by omega);obtain ⟨b', off', rfl, hcell'⟩ := (h'.below hnx).pos (by omega);have hck := hcell k hlt;have hck' := hcell' k hlt;have hlt' : (k : Int) < (n : Int) := by omega
    clear hcell hcell' h h'
    go_wp2_with fail
    go_quiet (fail)
    cases he : (xs[k]?.getD 0 != ys[k]?.getD 0)
    ·go_wp2
     go_roundw
     case rel => exact ⟨k + 1, by omega, by go_num, below_drewN hnx _, take_same_succ (by rw [HX.out]; exact hlt) (by rw [HY.out]; exact hlt) HA.out (by simpa using he)⟩
     case measure => simp [intOf]; omega
    go_wp2
    go_ret
    exact ⟨ret_bool (by rw [eqB_false (k := k) (by simpa using he)]), below_drewN hnx _⟩
   go_wp2
   go_ret
   exact ⟨ret_bool (by rw [eqB_true HX.out HY.out (by omega) HA.out]), hnx⟩
 have hne : ((n : Int) != (m : Int)) = true := by simp; omega
 go_enter Tryz.func12, Tryz.ntmps12
 go_wp2
 go_ret
 exact ⟨ret_bool (by rw [eqB_len (by rw [HX.out, HY.out]; exact hc)]), Below.refl _ _⟩
theorem coHolds_any : Calls Tryz.prog 13 #[] w fun e w' => e = .returned (.bool true) /\ Below w.heap.size w w' := by
 go_enter Tryz.func13, Tryz.ntmps13
 go_wp2_with fail
 refine (pZero).mono ?_;rintro e w1 ⟨a, n, cap, c, m, cap', rfl, h1, b1⟩
 go_wp2_with fail
 refine (pOk zeroP _ _ _ _ _ _ _ h1).mono ?_;rintro e w2 ⟨rfl, b2⟩;have hz : okP zeroP = true := by decide
 rw [hz]
 go_wp2
 go_ret
 exact ⟨rfl, btr b1 b2⟩
theorem Rd.ha (h : Rd w R a n cap bs p) : 0 < n -> ∀ b o, a = some ⟨b, o, none⟩ -> b < w.heap.size := fun h0 b o hab => by
 obtain ⟨b', o', hab', hcc⟩ := h.b.2.1 0 h0;rw [hab] at hab';simp only [qA, qB, and_true] at hab';have := block_lt hcc
 omega
theorem Ints.off (h : Ints w a n zs) (t : Touch S w w') (hS : ∀ b o, a = some ⟨b, o, none⟩ -> ¬ S b) : Ints w' a n zs := by
 refine ⟨h.1, fun i hi => ?_⟩;obtain ⟨b, off, hab, hc⟩ := h.2 i hi
 exact ⟨b, off, hab, (World.cell?_of_block (t.block b (block_lt hc) (hS b off hab))).trans hc⟩
theorem FA.off {f : Frm} (h : FA w a n c m f) (t : Touch S w w') (h1 : ∀ b o, a = some ⟨b, o, none⟩ -> ¬ S b) (h2 : ∀ b o, c = some ⟨b, o, none⟩ -> ¬ S b) : FA w' a n c m f := ⟨h.C.off t h1, h.D.off t h2, h.hn, h.hm⟩
theorem FmN.fa {q : Int} {nC nD : Nat} (h : FmN w W R a n cap bs p q B1 nC B2 nD C D) (K : Int) : FA W (some ⟨B1, 0, none⟩) nC (some ⟨B2, 0, none⟩) nD (C, D, K) := ⟨h.c, h.d, by have := h.c4; omega, by have := h.d4; omega⟩
theorem FA.far {lo : Nat} {f : Frm} (h : FA w (some ⟨B1, 0, none⟩) n (some ⟨B2, 0, none⟩) m f) (t : Touch S w w') (hS : ∀ k, S k -> k < lo) (h1 : lo <= B1) (h2 : lo <= B2) : FA w' (some ⟨B1, 0, none⟩) n (some ⟨B2, 0, none⟩) m f :=
 h.off t (fun b o e hs => by simp only [qA, qB] at e; have := hS b hs; omega) (fun b o e hs => by simp only [qA, qB] at e; have := hS b hs; omega)
theorem FA.setFar {X : Nat} {f : Frm} (h : FA w (some ⟨B1, 0, none⟩) n (some ⟨B2, 0, none⟩) m f) (h1 : B1 ≠ X) (h2 : B2 ≠ X) (i : Nat) (v : Value) : FA (w.setCell ⟨X, i, none⟩ v) (some ⟨B1, 0, none⟩) n (some ⟨B2, 0, none⟩) m f :=
 ⟨h.C.setFar (fun b o e => by simp only [qA, qB] at e; omega) i v, h.D.setFar (fun b o e => by simp only [qA, qB] at e; omega) i v, h.hn, h.hm⟩
theorem J.lit3 (j : J w R a n cap bs p v xs W) (x y z : Int) : J w R a n cap bs p (.slice (some ⟨W.heap.size, 0, none⟩) 3 3) [x, y, z] (W.alloc (.cells #[.int .i64 x, .int .i64 y, .int .i64 z] 3)) :=
 ⟨(j.alloc _).t, (j.alloc _).r, World.ownsRow_lit W #[.int .i64 x, .int .i64 y, .int .i64 z] 3 j.t.size (by unfold maxLen; omega) rfl, j.lR, j.lb⟩
structure JA (w : World) (v : Value) (xs : List Int) (W : World) : Prop where
 b : Below w.heap.size w W
 o : W.ownsRow w.heap.size 3 1 v xs.length (xs.map (Value.int .i64))
theorem JA.nil (w : World) : JA w (.slice none 0 0) [] w := ⟨Below.refl _ _, World.ownsRow_nil w _ _ _⟩
theorem JA.lit (w : World) : JA w (.slice (some ⟨w.heap.size, 0, none⟩) 0 0) [] (w.alloc (.cells #[] 3)) :=
 ⟨bal, World.ownsRow_lit w #[] 0 (qI _) (by unfold maxLen; omega) rfl⟩
theorem JA.alloc (j : JA w v xs W) (o : Obj) : JA w v xs (W.alloc o) := ⟨j.b.alloc j.b.size _, j.o.alloc o⟩
theorem JA.below (j : JA w v xs W) (h : Below W.heap.size W W') : JA w v xs W' := by
 refine ⟨j.b.trans (h.mono j.b.size), j.o.1, ?_⟩
 rcases j.o.2 with h2 | ⟨g, cap, cur, hv, hg, hh, r⟩
 ·exact Or.inl h2
 exact Or.inr ⟨g, cap, cur, hv, hg, by rw [h.block g (lt_of_block hh)]; exact hh, r⟩
theorem JA.own {v' : Value} {ys : List Int} (j : JA w v xs W) (o : W'.ownsRow w.heap.size 3 1 v' ys.length (ys.map (Value.int .i64))) (g : W.grownBy W' v.ownBlock) : JA w v' ys W' :=
 ⟨j.b.grown g j.b.size (fun k hk => (j.o.lt k hk).1), o⟩
theorem JA.ints (j : JA w v xs W) : ∃ a cap, v = .slice a xs.length cap /\ xs.length <= cap /\ Ints W a xs.length xs /\ (∀ b o, a = some ⟨b, o, none⟩ -> w.heap.size <= b /\ b < W.heap.size) := by
 rcases j.o.2 with ⟨hv, h⟩ | ⟨g, cap', cur, rfl, hg, hh, hl, _, _⟩
 ·rw [h];have : xs = [] := List.eq_nil_of_length_eq_zero h;subst this
  exact ⟨none, 0, hv, qI _, ⟨rfl, fun i hi => by omega⟩, fun b o e => by cases e⟩
 refine ⟨some ⟨g, 0, none⟩, cap', rfl, hl, ⟨rfl, fun i hi => ⟨g, 0, rfl, ?_⟩⟩, fun b o e => ?_⟩
 ·have := j.o.cellAt i (by omega);rw [Nat.zero_add, this];simp [hi]
 simp only [qA, qB, and_true] at e;obtain ⟨rfl, rfl⟩ := e
 exact ⟨hg, lt_of_block hh⟩
theorem news1 (w : World) {x : Value} {t : TypeId} : ∀ j u, [x][j]? = some u -> (w.alloc (.cells #[x] t)).cell? ((⟨w.heap.size, 0, none⟩ : Addr).add j) = some u := fun j u hu => by
 match j, hu with
 | 0, hu =>
  simp only [qD, qA] at hu;subst hu;simp [Addr.add]
theorem one1 {k : IntKind} {x : Int} : ∀ u ∈ [Value.int k x], u.oneCell' = true := fun u hu => by
 simp at hu; subst hu; rfl
theorem JA.app {y : Int} {g : Nat} {o : Obj} (j : JA w v xs W) (hk : xs.length = k) (hown : W'.ownsRow w.heap.size 3 1 (.slice (some ⟨g, 0, none⟩) (k + 1) cap) (k + 1) (xs.map (Value.int .i64) ++ [.int .i64 y])) (hg : (W.alloc o).grownBy W' v.ownBlock) :
  JA w (.slice (some ⟨g, 0, none⟩) (k + 1) cap) (xs ++ [y]) W' := by
 refine (j.alloc o).own ?_ hg;rw [qE, hk, List.map_append]
 exact hown
def OwnX (W : World) (a : Option Addr) (B n : Nat) (zs : List Int) : Prop :=
 zs.length = n /\ (n = 0 \/ (a = some ⟨B, 0, none⟩ /\ ∃ cur : List Value, Cel W B cur 3 /\ ∀ i, i < n -> cur[i]? = some (.int .i64 (zs[i]?.getD 0))))
theorem OwnX.ints (h : OwnX W a B n zs) : Ints W a n zs := by
 refine ⟨h.1, fun i hi => ?_⟩
 rcases h.2 with h0 | ⟨rfl, cur, hc, hv⟩
 ·omega
 refine ⟨B, 0, rfl, ?_⟩;rw [Nat.zero_add, hc.cell i, hv i hi];simp
theorem OwnX.below (h : OwnX W a B n zs) (b : Below W.heap.size W W') : OwnX W' a B n zs := by
 refine ⟨h.1, ?_⟩
 rcases h.2 with h0 | ⟨e, cur, hc, hv⟩
 ·exact .inl h0
 exact .inr ⟨e, cur, hc.below b, hv⟩
theorem OwnX.alloc (h : OwnX W a B n zs) (o : Obj) : OwnX (W.alloc o) a B n zs := h.below (bal)
theorem OwnX.touch (h : OwnX W a B n zs) (t : Touch S W W') (hn : 0 < n -> ¬ S B) : OwnX W' a B n zs := by
 refine ⟨h.1, ?_⟩
 rcases h.2 with h0 | ⟨e, cur, hc, hv⟩
 ·exact .inl h0
 by_cases h0 : 0 < n
 ·exact .inr ⟨e, cur, hc.touch t (hn h0), hv⟩
 exact .inl (by omega)
theorem OwnX.lt (h : OwnX W a B n zs) (hn : 0 < n) : B < W.heap.size := by
 rcases h.2 with h0 | ⟨e, cur, hc, hv⟩
 ·omega
 exact hc.lt
theorem OwnX.setOther {X : Nat} (h : OwnX W a B n zs) (hX : 0 < n -> X ≠ B) (i : Nat) (v : Value) : OwnX (W.setCell ⟨X, i, none⟩ v) a B n zs := by
 refine h.touch (S := fun k => k = X) (Touch.setCell (S := fun k => k = X) (Touch.refl _ _) rfl v) (fun h0 e => hX h0 e.symm)
theorem OwnX.nil (W : World) (a : Option Addr) (B : Nat) : OwnX W a B 0 [] := ⟨rfl, .inl rfl⟩
theorem OwnX.pos (h : OwnX W a B n zs) (hn : 0 < n) : a = some ⟨B, 0, none⟩ /\ (∀ i, i < n -> W.cell? ⟨B, i, none⟩ = some (.int .i64 (zs[i]?.getD 0))) /\ ∀ i, W.frozen? ⟨B, i, none⟩ = false := by
 rcases h.2 with h0 | ⟨rfl, cur, hc, hv⟩
 ·omega
 exact ⟨rfl, fun i hi => by rw [hc.cell i, hv i hi], fun i => hc.free i⟩
theorem OwnX.set (h : OwnX W a B n zs) {i : Nat} (hi : i < n) (x : Int) : OwnX (W.setCell ⟨B, i, none⟩ (.int .i64 x)) a B n (zs.set i x) := by
 refine ⟨by rw [List.length_set]; exact h.1, ?_⟩
 rcases h.2 with h0 | ⟨e, cur, hc, hv⟩
 ·omega
 refine .inr ⟨e, cur.set i (.int .i64 x), hc.set _ _, fun j hj => ?_⟩
 have hl : i < cur.length := by
  have := hv i hi
  exact (List.getElem?_eq_some_iff.1 this).1
 have hz := h.1
 by_cases e : j = i
 ·subst e;rw [List.getElem?_set_self hl, List.getElem?_set_self (by omega)]; rfl
 rw [List.getElem?_set_ne (by omega), hv j hj, List.getElem?_set_ne (by omega)]
theorem JA.ownx (j : JA w v xs W) (hn : xs.length = n) : ∃ a cap B, v = .slice a n cap /\ OwnX W a B n xs /\ (0 < n -> w.heap.size <= B) := by
 subst hn
 rcases j.o.2 with ⟨hv, h⟩ | ⟨g, cap', cur, rfl, hg, hh, hl, _, hs, ht⟩
 ·rw [h];have : xs = [] := List.eq_nil_of_length_eq_zero h;subst this
  exact ⟨none, 0, 0, hv, OwnX.nil _ _ _, fun h => by omega⟩
 refine ⟨some ⟨g, 0, none⟩, cap', g, rfl, ⟨rfl, .inr ⟨rfl, cur.toList, by unfold Cel; simpa using hh, fun i hi => ?_⟩⟩, fun _ => hg⟩;have h1 : (cur.toList.take (xs.length * 1))[i]? = (xs.map (Value.int .i64))[i]? := by rw [ht]
 rw [qK, if_pos (by omega)] at h1;rw [h1];simp [hi]
theorem OwnX.cut (h : OwnX W a B n zs) (hk : k <= n) : OwnX W a B k (zs.take k) := by
 have hl := h.1;refine ⟨by rw [List.length_take]; omega, ?_⟩
 by_cases h0 : k = 0
 ·exact .inl h0
 rcases h.2 with h1 | ⟨e, cur, hc, hv⟩
 ·omega
 exact .inr ⟨e, cur, hc, fun i hi => by rw [hv i (by omega), qK, if_pos hi]⟩
theorem J.ownx' {a' : Option Addr} {n' : Nat} (j : J w R a n cap bs p (.slice a' n' cap') xs W) (hn : xs.length = n') : ∃ B, OwnX W a' B n' xs := by
 subst hn
 rcases j.o.2 with ⟨_, h⟩ | ⟨g, cp, cur, hv, hg, hh, hl, hc, hs, ht⟩
 ·exact ⟨0, rfl, .inl h⟩
 simp only [Value.slice.injEq] at hv;refine ⟨g, rfl, .inr ⟨hv.1, cur.toList, by unfold Cel; simpa using hh, fun i hi => ?_⟩⟩;have h1 : (cur.toList.take (xs.length * 1))[i]? = (xs.map (Value.int .i64))[i]? := by rw [ht]
 rw [qK, if_pos (by omega)] at h1;rw [h1];simp [hi]
theorem added_own (R : Nat) (a : Option Addr) (n cap : Nat) (bs : List Int) (p N : Int) {w : World} (hR : Rd w R a n cap bs p) (hp : 0 <= p) (hp1 : p <= 9000000) (hN : 1 <= N) (hN1 : N <= 1000) (hlb : 0 < n -> ∀ b o, a = some ⟨b, o, none⟩ -> b < w.heap.size) :
  Calls Tryz.prog 42 #[.pointer (some ⟨R, 0, none⟩), .int .i64 N] w fun e w' => ∃ a' n' cap' zs q, e = .returned (.slice a' n' cap') /\ Dn w w' R a n cap bs p q a' n' zs /\ ∃ B, OwnX w' a' B n' zs := by
 have j := J.start hR hlb;obtain ⟨i0, hi, hz0, hz1, hz2⟩ := info_parts Tryz.infoInt;clear hR hlb
 go_enter Tryz.func42, Tryz.ntmps42
 go_wp2_with fail
 refine (pick_any R a n cap bs p 9 j.r).mono ?_;rintro e w1 ⟨x, x0, x1, rfl, t1, R1⟩;have j1 := j.pick t1 R1;clear t1 R1 j
 go_wp2_with fail
 refine (pick_any R a n cap bs (p + 1) 9 j1.r).mono ?_;rintro e w2 ⟨y, y0, y1, rfl, t2, R2⟩;have j2 := j1.pick t2 R2;clear t2 R2 j1
 go_wp2_with fail
 refine (pick_any R a n cap bs (p + 1 + 1) 4 (j2.alloc _).r).mono ?_;rintro e w3 ⟨u, u0, u1, rfl, t3, R3⟩;have j3 := (j2.alloc (.cells #[.int .i64 0, .int .i64 0, .int .i64 1, .int .i64 (-2)] 3)).pick t3 R3;have tb := (Cel.new w2 [.int .i64 0, .int .i64 0, .int .i64 1, .int .i64 (-2)] 3).touch t3 (by have := j2.t.size; have := j2.lR; omega);obtain ⟨un, rfl⟩ := Int.eq_ofNat_of_zero_le u0
 have ct : w3.cell? ⟨w2.heap.size, un, none⟩ = some (.int .i64 ([0, 0, 1, -2][un]?.getD 0)) := by
  rw [tb.cell un]
  match un, u1 with
  | 0, _ => rfl
  | 1, _ => rfl
  | 2, _ => rfl
  | 3, _ => rfl
  | (m + 4), h => omega
 have hun : (un : Int) < 4 := by omega
 generalize ([0, 0, 1, -2] : List Int)[un]?.getD 0 = z at ct;have j4 := j3.lit3 (x - 4) (y - 4) z;have lw3 := j3.t.size;clear t3 R3 j2 j3 tb
 go_wp2_with fail
 refine (pick_any R a n cap bs (p + 1 + 1 + 1) N j4.r).mono ?_;rintro e w4 ⟨r, r0, r2, rfl, t4, R4⟩;have j5 := j4.pick t4 R4;clear t4 R4 j4 ct
 by_cases hr : r = 0
 ·subst hr
  go_wp2_with fail
  refine (pick_any R a n cap bs (p + 1 + 1 + 1 + 1) 3 j5.r).mono ?_;rintro e w5 ⟨s, s0, s3, rfl, t5, R5⟩;have j6 := j5.pick t5 R5;clear t5 R5 j5;obtain ⟨g, cap', hv, hcap, hg, hI, hfz⟩ := j6.ints (by simp);simp only [Value.slice.injEq, qA, qB, and_true, qG, qH] at hv;obtain ⟨rfl, _, rfl⟩ := hv;simp only [qG, qH] at hI;have OX6 := j6.ownx' (by simp)
  rcases (show s = 0 \/ s = 1 \/ s = 2 from by omega) with rfl | rfl | rfl
  ·go_wp2
   go_ret
   exact ⟨_, 2, 3, [x - 4, y - 4], _, rfl, ⟨j6.t, j6.r, hI.cut (k := 2) (by omega), by omega, by omega, fun b o e => by simp only [qA, qB] at e; omega, by omega, by omega⟩, OX6.imp (fun B h => h.cut (k := 2) (by omega))⟩
  ·go_wp2_with fail
   refine (pick_any R a n cap bs (p + 1 + 1 + 1 + 1 + 1) 3 (j6.alloc _).r).mono ?_;rintro e w6 ⟨k, k0, k1, rfl, t6, R6⟩;have j7 := (j6.alloc (.cells #[.int .i64 20001, .int .i64 60, .int .i64 (-60)] 3)).pick t6 R6;have tb := (Cel.new w5 [.int .i64 20001, .int .i64 60, .int .i64 (-60)] 3).touch t6 (by have := j6.t.size; have := j6.lR; omega);obtain ⟨kn, rfl⟩ := Int.eq_ofNat_of_zero_le k0
   have ct : w6.cell? ⟨w5.heap.size, kn, none⟩ = some (.int .i64 ([20001, 60, -60][kn]?.getD 0)) := by
    rw [tb.cell kn]
    match kn, k1 with
    | 0, _ => rfl
    | 1, _ => rfl
    | 2, _ => rfl
    | (m + 3), h => omega
   have hkn : (kn : Int) < 3 := by omega
   generalize ([20001, 60, -60] : List Int)[kn]?.getD 0 = y9 at ct;obtain ⟨g2, cap2, hv2, hcap2, hg2, hI2, hfz2⟩ := j7.ints (by simp);simp only [Value.slice.injEq, qA, qB, and_true, qG, qH] at hv2;obtain ⟨rfl, _, rfl⟩ := hv2;simp only [qG, qH] at hI2
   have cg : w6.cell? ⟨w3.heap.size, 0, none⟩ = some (.int .i64 (x - 4)) := by
    obtain ⟨b, o, e1, hh⟩ := hI2.2 0 (by omega);simp only [qA, qB, and_true] at e1;obtain ⟨rfl, rfl⟩ := e1;simpa using hh
   have fg := hfz2 0;have IS := ints_set hI2 (s := 0) (by omega) y9;obtain ⟨B7, o7⟩ := j7.ownx' (by simp);have eB := (o7.pos (by omega)).1;simp only [qA, qB, and_true] at eB;subst eB;have OS := o7.set (i := 0) (by omega) y9;clear o7;have TS := j7.t.setNewD hg2 0 (.int .i64 y9);have RS := j7.setR hg2 0 (.int .i64 y9);clear t6 R6 j6 j7 tb hI hfz hI2 hfz2
   go_wp2
   go_ret
   exact ⟨_, 3, 3, _, _, rfl, ⟨TS, RS, IS, by omega, by omega, fun b o e => by simp only [qA, qB] at e; omega, by omega, by omega⟩, w3.heap.size, OS⟩
  go_wp2_with (at_builtin; refine wpList_append_own _ rfl (.tmp 24) (.tmp 25) 24 rfl w.heap.size 3 i0 (.int .i64 0) 1 8 Tryz.underlying24 hi hz0 hz1 hz2 rfl (by decide) _ _ _ rfl (j6.alloc _).o ⟨w5.heap.size, 0, none⟩ 1 1 [.int .i64 0] rfl rfl ?d1 ?d2 ?d3 ?d4 ?d5 ?_)
  case d1 =>
   intro i u hu
   match i, hu with
   | 0, hu => simp at hu; subst hu; simp [Addr.add]
  case d2 => intro u hu; simp at hu; subst hu; rfl
  case d3 => unfold maxLen; simp
  case d4 => simp
  case d5 => have := j6.t.size; simp; omega
  intro v' w6 hown' hgrow _;have j7 : J w R a n cap bs (p + 1 + 1 + 1 + 1 + 1) v' ([x - 4, y - 4, z] ++ [0]) w6 := (j6.alloc _).own (by simpa using hown') hgrow;obtain ⟨g', cap2, hv', hcap2, hg', hI', hfz'⟩ := j7.ints (by simp);subst hv';have OX7 := j7.ownx' rfl;clear hown' hgrow j6 hI hfz
  go_wp2
  go_ret
  exact ⟨_, _, cap2, _, _, rfl, ⟨j7.t, j7.r, hI', by simp, by simp, fun b o e => by simp only [qA, qB] at e; omega, by omega, by omega⟩, OX7⟩
 obtain ⟨g, cap', hv, hcap, hg, hI, hfz⟩ := j5.ints (by simp);simp only [Value.slice.injEq, qA, qB, and_true, qG, qH] at hv;obtain ⟨rfl, _, rfl⟩ := hv;have OX5 := j5.ownx' (by simp);have hr' : (r == 0) = false := by simpa using hr
 go_wp2
 go_ret
 exact ⟨_, _, 3, _, _, rfl, ⟨j5.t, j5.r, hI, by simp, by simp, fun b o e => by simp only [qA, qB] at e; omega, by omega, by omega⟩, OX5⟩
structure LV where
 kind : Int
 pot : Int
 skip : Int
 f : FV
def LV.cs (l : LV) : List Value := [.int .i64 l.kind, .int .i64 l.pot, .int .i64 l.skip, .slice l.f.a l.f.n l.f.cap, .slice l.f.c l.f.m l.f.cap', .int .i64 l.f.K]
def noLV : LV := ⟨0, 0, 0, noFV⟩
def smallB (n m : Nat) (C D : List Int) (K : Int) : Bool := okN 3 2 n C && okN 2 2 m D && inB K (-20) 20
theorem allB_mono {m m' : Int} (h : m <= m') (ha : allB m zs = true) : allB m' zs = true := by
 unfold allB at *;rw [List.all_eq_true] at *;intro x hx;have := inB_iff.1 (ha x hx)
 exact inB_iff.2 (by omega)
theorem small_ok (h : smallB n m C D K = true) : formB n m C D K = true := by
 simp only [smallB, formB, okN, Bool.and_eq_true, decide_eq_true_eq] at *;obtain ⟨⟨⟨h1, h2⟩, h3, h4⟩, h5⟩ := h
 exact ⟨⟨⟨h1, allB_mono (by omega) h2⟩, h3, allB_mono (by omega) h4⟩, inB_iff.2 (by have := inB_iff.1 h5; omega)⟩
theorem small_eq (h : formB n m C D K = true) : smallB n m C D K = (allB 2 C && allB 2 D && inB K (-20) 20) := by
 simp only [formB, okN, Bool.and_eq_true, decide_eq_true_eq] at h;obtain ⟨⟨⟨h1, _⟩, h3, _⟩, _⟩ := h;simp only [smallB, okN, h1, h3, decide_true, Bool.true_and]
theorem sSmall_any (C D : List Int) {w : World} (hC : Ints w a n C) (hD : Ints w c m D) (hn : n <= 1048576) (hm : m <= 1048576) :
  Calls Tryz.prog 138 #[formV a n cap c m cap' K] w fun e w' => e = .returned (.bool (smallB n m C D K)) /\ Below w.heap.size w w' := by
 cases h1 : okN 3 2 n C
 ·go_enter Tryz.func138, Tryz.ntmps138
  go_wp2_with fail
  refine (all_any C _ _ (hC.alloc _) hn).mono ?_;rintro e w1 ⟨rfl, rfl⟩
  go_wp2
  go_ret
  exact ⟨ret_bool (by simp [smallB, h1]), bal⟩
 cases h2 : okN 2 2 m D
 ·go_enter Tryz.func138, Tryz.ntmps138
  go_wp2_with fail
  refine (all_any C _ _ (hC.alloc _) hn).mono ?_;rintro e w1 ⟨rfl, rfl⟩
  go_wp2_with fail
  refine (all_any D _ _ (hD.alloc _) hm).mono ?_;rintro e w1 ⟨rfl, rfl⟩
  go_wp2
  go_ret
  exact ⟨ret_bool (by simp [smallB, h1, h2]), bal⟩
 go_enter Tryz.func138, Tryz.ntmps138
 go_wp2_with fail
 refine (all_any C _ _ (hC.alloc _) hn).mono ?_;rintro e w1 ⟨rfl, rfl⟩
 go_wp2_with fail
 refine (all_any D _ _ (hD.alloc _) hm).mono ?_;rintro e w1 ⟨rfl, rfl⟩
 go_wp2_with fail
 refine (in_any).mono ?_;rintro e w1 ⟨rfl, rfl⟩
 go_wp2
 go_ret
 exact ⟨ret_bool (by simp [smallB, h1, h2]), bal⟩
def lineB (kind pot skip : Int) (n m : Nat) (C D : List Int) (K : Int) : Bool :=
 if kind = 1 then (pot == 0) && inB skip 1 6 && smallB n m C D K
 else if kind = 2 then inB pot 0 2 && (skip == 0) && smallB n m C D K
 else if kind = 3 then (pot == 0) && (skip == 0) && smallB n m C D K
 else (kind == 4) && (pot == 0) && (skip == 0) && ((n : Int) + m == 0) && (K == 0)
abbrev lineV (kind pot skip : Int) (a : Option Addr) (n cap : Nat) (c : Option Addr) (m cap' : Nat) (K : Int) : Value := .agg #[.int .i64 kind, .int .i64 pot, .int .i64 skip, .slice a n cap, .slice c m cap', .int .i64 K]
theorem Cel.six {x0 x1 x2 x3 x4 x5 : Value} {t : TypeId} (h : Cel w B [x0, x1, x2, x3, x4, x5] t) : w.cell? ⟨B, 0, none⟩ = some x0 /\ w.cell? ⟨B, 1, none⟩ = some x1 /\ w.cell? ⟨B, 2, none⟩ = some x2 /\ w.cell? ⟨B, 3, none⟩ = some x3 /\ w.cell? ⟨B, 4, none⟩ = some x4 /\ w.cell? ⟨B, 5, none⟩ = some x5 := ⟨h.cell 0, h.cell 1, h.cell 2, h.cell 3, h.cell 4, h.cell 5⟩
structure BL (w : World) (B : Nat) (la : List Value) (ty : TypeId) (W : World) : Prop where
 p : Cel W B la ty
 b : Below w.heap.size w W
theorem BL.new (w : World) (la : List Value) (ty : TypeId) : BL w w.heap.size la ty (w.alloc (.cells la.toArray ty)) := ⟨Cel.new w la ty, bal⟩
theorem BL.below {la : List Value} {ty : TypeId} (h : BL w B la ty W) (b : Below W.heap.size W W') : BL w B la ty W' := ⟨h.p.below b, h.b.trans (b.mono h.b.size)⟩
theorem BL.alloc {la : List Value} {ty : TypeId} (h : BL w B la ty W) (o : Obj) : BL w B la ty (W.alloc o) := h.below (bal)
theorem szL_any (kind pot skip : Int) (a : Option Addr) (n cap : Nat) (c : Option Addr) (m cap' : Nat) (K l : Int) (w : World) (hn : n <= maxLen) (hm : m <= maxLen) (h0 : 0 <= l) (hl : l <= 1048576) :
  Calls Tryz.prog 117 #[lineV kind pot skip a n cap c m cap' K, .int .i64 l] w fun e w' => e = .returned (.int .i64 (leftOf (leftOf l n) m)) /\ Below w.heap.size w w' := by
 have g2 := leftOf_ge (leftOf l n) m;have n0 := BL.new w [.int .i64 kind, .int .i64 pot, .int .i64 skip, .slice a n cap, .slice c m cap', .int .i64 K] 161
 by_cases h : leftOf (leftOf l n) m < 0
 ·go_enter Tryz.func117, Tryz.ntmps117
  go_wp2_with fail
  refine (szF_any hn hm h0 hl).mono ?_;rintro e w1 ⟨rfl, b1⟩
  go_wp2
  go_ret
  exact ⟨ret_int (by omega), (n0.below b1).b⟩
 go_enter Tryz.func117, Tryz.ntmps117
 go_wp2_with fail
 refine (szF_any hn hm h0 hl).mono ?_;rintro e w1 ⟨rfl, b1⟩
 go_wp2
 go_ret
 exact ⟨rfl, (n0.below b1).b⟩
def stepV (l : LV) : Value :=
 if l.kind = 1 then .iface 179 (.agg #[.int .i64 l.skip, .slice l.f.a l.f.n l.f.cap, .slice l.f.c l.f.m l.f.cap', .int .i64 l.f.K])
 else if l.kind = 2 then .iface 181 (.agg #[.int .i64 l.pot, .slice l.f.a l.f.n l.f.cap, .slice l.f.c l.f.m l.f.cap', .int .i64 l.f.K])
 else if l.kind = 3 then .iface 183 (.agg #[.slice l.f.a l.f.n l.f.cap, .slice l.f.c l.f.m l.f.cap', .int .i64 l.f.K])
 else if l.kind = 4 then .iface 184 (.agg #[])
 else .nilIface
theorem sline_any {kind pot skip : Int} (C D : List Int) {w : World} (hC : Ints w a n C) (hD : Ints w c m D) (hn : n <= 1048576) (hm : m <= 1048576) :
  Calls Tryz.prog 116 #[lineV kind pot skip a n cap c m cap' K] w fun e w' => e = .returned (.bool (lineB kind pot skip n m C D K)) /\ Below w.heap.size w w' := by
 have n0 := BL.new w [.int .i64 kind, .int .i64 pot, .int .i64 skip, .slice a n cap, .slice c m cap', .int .i64 K] 147
 by_cases hk1 : kind = 1
 ·subst hk1
  by_cases hp : pot = 0
  ·subst hp
   cases hs : inB skip 1 6
   ·go_enter Tryz.func116, Tryz.ntmps116
    go_wp2_with fail
    refine (in_any).mono ?_;rintro e w1 ⟨rfl, rfl⟩;rw [hs]
    go_wp2
    go_ret
    exact ⟨ret_bool (by simp [lineB, hs]), n0.b⟩
   go_enter Tryz.func116, Tryz.ntmps116
   go_wp2_with fail
   refine (in_any).mono ?_;rintro e w1 ⟨rfl, rfl⟩;rw [hs]
   go_wp2_with fail
   refine (sSmall_any C D (hC.below n0.b) (hD.below n0.b) hn hm).mono ?_;rintro e w1 ⟨rfl, b1⟩
   go_wp2
   go_ret
   exact ⟨ret_bool (by simp [lineB, hs]), (n0.below b1).b⟩
  have hp' : (pot == 0) = false := by simp [hp]
  go_enter Tryz.func116, Tryz.ntmps116
  go_wp2
  go_ret
  exact ⟨ret_bool (by simp [lineB, hp]), n0.b⟩
 by_cases hk2 : kind = 2
 ·subst hk2
  cases hp : inB pot 0 2
  ·go_enter Tryz.func116, Tryz.ntmps116
   go_wp2_with fail
   refine (in_any).mono ?_;rintro e w1 ⟨rfl, rfl⟩;rw [hp]
   go_wp2
   go_ret
   exact ⟨ret_bool (by simp [lineB, hp]), n0.b⟩
  by_cases hs : skip = 0
  ·subst hs
   go_enter Tryz.func116, Tryz.ntmps116
   go_wp2_with fail
   refine (in_any).mono ?_;rintro e w1 ⟨rfl, rfl⟩;rw [hp]
   go_wp2_with fail
   refine (sSmall_any C D (hC.below n0.b) (hD.below n0.b) hn hm).mono ?_;rintro e w1 ⟨rfl, b1⟩
   go_wp2
   go_ret
   exact ⟨ret_bool (by simp [lineB, hp]), (n0.below b1).b⟩
  have hs' : (skip == 0) = false := by simp [hs]
  go_enter Tryz.func116, Tryz.ntmps116
  go_wp2_with fail
  refine (in_any).mono ?_;rintro e w1 ⟨rfl, rfl⟩;rw [hp]
  go_wp2
  go_ret
  exact ⟨ret_bool (by simp [lineB, hs]), n0.b⟩
 by_cases hk3 : kind = 3
 ·subst hk3
  by_cases hp : pot = 0
  ·subst hp
   by_cases hs : skip = 0
   ·subst hs
    go_enter Tryz.func116, Tryz.ntmps116
    go_wp2_with fail
    refine (sSmall_any C D (hC.below n0.b) (hD.below n0.b) hn hm).mono ?_;rintro e w1 ⟨rfl, b1⟩
    go_wp2
    go_ret
    exact ⟨ret_bool (by simp [lineB, ]), (n0.below b1).b⟩
   have hs' : (skip == 0) = false := by simp [hs]
   go_enter Tryz.func116, Tryz.ntmps116
   go_wp2
   go_ret
   exact ⟨ret_bool (by simp [lineB, hs]), n0.b⟩
  have hp' : (pot == 0) = false := by simp [hp]
  go_enter Tryz.func116, Tryz.ntmps116
  go_wp2
  go_ret
  exact ⟨ret_bool (by simp [lineB, hp]), n0.b⟩
 have hk1' : (kind == 1) = false := by simp [hk1]
 have hk2' : (kind == 2) = false := by simp [hk2]
 have hk3' : (kind == 3) = false := by simp [hk3]
 by_cases hk4 : kind = 4
 ·subst hk4
  by_cases hp : pot = 0
  ·subst hp
   by_cases hs : skip = 0
   ·subst hs
    by_cases hl : (n : Int) + m = 0
    ·have hl' : ((n : Int) + m == 0) = true := by simp [hl]
     go_enter Tryz.func116, Tryz.ntmps116
     go_wp2
     go_ret
     exact ⟨ret_bool (by simp only [lineB, hl', Int.reduceEq, if_false, beq_self_eq_true, Bool.true_and]), n0.b⟩
    have hl' : ((n : Int) + m == 0) = false := by simpa using hl
    go_enter Tryz.func116, Tryz.ntmps116
    go_wp2
    go_ret
    exact ⟨ret_bool (by simp only [lineB, hl', Int.reduceEq, if_false, beq_self_eq_true, Bool.true_and, Bool.false_and]), n0.b⟩
   have hs' : (skip == 0) = false := by simp [hs]
   go_enter Tryz.func116, Tryz.ntmps116
   go_wp2
   go_ret
   exact ⟨ret_bool (by simp [lineB, hs]), n0.b⟩
  have hp' : (pot == 0) = false := by simp [hp]
  go_enter Tryz.func116, Tryz.ntmps116
  go_wp2
  go_ret
  exact ⟨ret_bool (by simp [lineB, hp]), n0.b⟩
 have hk4' : (kind == 4) = false := by simp [hk4]
 go_enter Tryz.func116, Tryz.ntmps116
 go_wp2
 go_ret
 exact ⟨ret_bool (by simp [lineB, hk1, hk2, hk3, hk4]), n0.b⟩
theorem iSmall_any (C D : List Int) {w : World} (hC : Ints w a n C) (hD : Ints w c m D) (hn : n <= 1048576) (hm : m <= 1048576) :
  Calls Tryz.prog 136 #[formV a n cap c m cap' K] w fun e w' => e = .returned (.bool (smallB n m C D K)) /\ Below w.heap.size w w' := by
 have n0 := BL.new w [.slice a n cap, .slice c m cap', .int .i64 K] 86;obtain ⟨fb, hfb⟩ : ∃ fb, fb = formB n m C D K := ⟨_, rfl⟩
 have HF : Hid (fb = formB n m C D K) := hfb;clear hfb
 go_enter Tryz.func136, Tryz.ntmps136
 go_wp2_with fail
 refine (iok_any _ _ _ _ _ C D (hC.alloc _) (hD.alloc _) hn hm).mono ?_;rintro e w1 ⟨rfl, b1⟩;have n1 := n0.below b1;rw [<- HF.out];clear n0 b1;have c0 := n1.p.cell 0;have c1 := n1.p.cell 1;have c2 := n1.p.cell 2;simp only [qD, List.getElem?_cons_succ] at c0 c1 c2
 cases fb
 ·have hs : smallB n m C D K = false := by
   cases hh : smallB n m C D K
   ·rfl
   have := small_ok hh; rw [<- HF.out] at this; cases this
  go_wp2
  go_ret
  exact ⟨ret_bool hs.symm, n1.b⟩
 have HS : Hid _ := small_eq HF.out.symm
 cases h3 : allB 2 C
 ·go_wp2_with fail
  refine (within_any _ _ _ C (hC.below n1.b) hn).mono ?_;rintro e w2 ⟨rfl, rfl⟩;rw [h3]
  go_wp2
  go_ret
  exact ⟨ret_bool (by rw [HS.out, h3]; rfl), n1.b⟩
 cases h4 : allB 2 D
 ·go_wp2_with fail
  refine (within_any _ _ _ C (hC.below n1.b) hn).mono ?_;rintro e w2 ⟨rfl, rfl⟩;rw [h3]
  go_wp2_with fail
  refine (within_any _ _ _ D (hD.below n1.b) hm).mono ?_;rintro e w2 ⟨rfl, rfl⟩;rw [h4]
  go_wp2
  go_ret
  exact ⟨ret_bool (by rw [HS.out, h3, h4]; rfl), n1.b⟩
 go_wp2_with fail
 refine (within_any _ _ _ C (hC.below n1.b) hn).mono ?_;rintro e w2 ⟨rfl, rfl⟩;rw [h3]
 go_wp2_with fail
 refine (within_any _ _ _ D (hD.below n1.b) hm).mono ?_;rintro e w2 ⟨rfl, rfl⟩;rw [h4]
 go_wp2_with fail
 refine (within_any (some ⟨_, 0, none⟩) 1 1 [K] ?_ (by omega)).mono ?_
 ·refine ⟨rfl, fun i hi => ⟨_, 0, rfl, ?_⟩⟩;obtain rfl : i = 0 := by omega
  exact (Cel.new _ [.int .i64 K] _).cell 0
 rintro e w2 ⟨rfl, rfl⟩
 go_wp2
 go_ret
 exact ⟨ret_bool (by rw [allB_one, HS.out, h3, h4]; rfl), (n1.alloc _).b⟩
theorem iNoth_any :
  Calls Tryz.prog 137 #[formV a n cap c m cap' K] w fun e w' => e = .returned (.bool (((n : Int) + m == 0) && (K == 0))) /\ Below w.heap.size w w' := by
 have n0 := BL.new w [.slice a n cap, .slice c m cap', .int .i64 K] 86
 by_cases h1 : (n : Int) = 0
 ·obtain rfl : n = 0 := by omega
  by_cases h2 : (m : Int) = 0
  ·obtain rfl : m = 0 := by omega
   go_enter Tryz.func137, Tryz.ntmps137
   go_wp2
   go_ret
   exact ⟨ret_bool (by simp), n0.b⟩
  have h2' : ((m : Int) == 0) = false := by simpa using h2
  go_enter Tryz.func137, Tryz.ntmps137
  go_wp2
  go_ret
  exact ⟨ret_bool (by simp; omega), n0.b⟩
 have h1' : ((n : Int) == 0) = false := by simpa using h1
 go_enter Tryz.func137, Tryz.ntmps137
 go_wp2
 go_ret
 exact ⟨ret_bool (by simp; omega), n0.b⟩
theorem ret_step {u : Value} {a b : Bool} (h : u = v) (h' : a = b) : Ending.returned (.tuple #[u, .bool a]) = .returned (.tuple #[v, .bool b]) := by rw [h, h']
theorem istep_any {kind pot skip : Int} (C D : List Int) {w : World} (hC : Ints w a n C) (hD : Ints w c m D) (hn : n <= 1048576) (hm : m <= 1048576) :
  Calls Tryz.prog 113 #[lineV kind pot skip a n cap c m cap' K] w fun e w' => e = .returned (.tuple #[stepV ⟨kind, pot, skip, ⟨a, n, cap, c, m, cap', K, C, D⟩⟩, .bool (lineB kind pot skip n m C D K)]) /\ Below w.heap.size w w' := by
 have n0 := BL.new w [.int .i64 kind, .int .i64 pot, .int .i64 skip, .slice a n cap, .slice c m cap', .int .i64 K] 147
 by_cases hk1 : kind = 1
 ·subst hk1
  by_cases hp : pot = 0
  ·subst hp
   by_cases hs1 : 1 <= skip
   ·by_cases hs2 : skip <= 6
    ·have hs : inB skip 1 6 = true := inB_iff.2 ⟨hs1, hs2⟩
     go_enter Tryz.func113, Tryz.ntmps113
     go_wp2_with fail
     refine (iSmall_any C D (hC.below n0.b) (hD.below n0.b) hn hm).mono ?_;rintro e w1 ⟨rfl, b1⟩;obtain ⟨c0, c1, c2, c3, c4, c5⟩ := (n0.below b1).p.six
     go_wp2
     go_ret2
     exact ⟨ret_step (by simp [stepV]) (by simp [lineB, hs]), (n0.below b1).b⟩
    have hs : inB skip 1 6 = false := inB_not.2 (by omega)
    go_enter Tryz.func113, Tryz.ntmps113
    go_wp2
    go_ret2
    exact ⟨ret_step (by simp [stepV]) (by simp [lineB, hs]), n0.b⟩
   have hs : inB skip 1 6 = false := inB_not.2 (by omega)
   go_enter Tryz.func113, Tryz.ntmps113
   go_wp2
   go_ret2
   exact ⟨ret_step (by simp [stepV]) (by simp [lineB, hs]), n0.b⟩
  have hp' : (pot == 0) = false := by simp [hp]
  go_enter Tryz.func113, Tryz.ntmps113
  go_wp2
  go_ret2
  exact ⟨ret_step (by simp [stepV]) (by simp [lineB, hp]), n0.b⟩
 by_cases hk2 : kind = 2
 ·subst hk2
  by_cases hp1 : 0 <= pot
  ·by_cases hp2 : pot < 3
   ·have hp : inB pot 0 2 = true := inB_iff.2 ⟨hp1, by omega⟩
    by_cases hs : skip = 0
    ·subst hs
     go_enter Tryz.func113, Tryz.ntmps113
     go_wp2_with fail
     refine (place_any).mono ?_;rintro e w1 ⟨rfl, rfl⟩;rw [decide_eq_true (show 0 <= pot /\ pot < 3 from ⟨hp1, hp2⟩)]
     go_wp2_with fail
     refine (iSmall_any C D (hC.below n0.b) (hD.below n0.b) hn hm).mono ?_;rintro e w1 ⟨rfl, b1⟩;obtain ⟨c0, c1, c2, c3, c4, c5⟩ := (n0.below b1).p.six
     go_wp2
     go_ret2
     exact ⟨ret_step (by simp [stepV]) (by simp [lineB, hp]), (n0.below b1).b⟩
    have hs' : (skip == 0) = false := by simp [hs]
    go_enter Tryz.func113, Tryz.ntmps113
    go_wp2_with fail
    refine (place_any).mono ?_;rintro e w1 ⟨rfl, rfl⟩;rw [decide_eq_true (show 0 <= pot /\ pot < 3 from ⟨hp1, hp2⟩)]
    go_wp2
    go_ret2
    exact ⟨ret_step (by simp [stepV]) (by simp [lineB, hs]), n0.b⟩
   have hp : inB pot 0 2 = false := inB_not.2 (by omega)
   go_enter Tryz.func113, Tryz.ntmps113
   go_wp2_with fail
   refine (place_any).mono ?_;rintro e w1 ⟨rfl, rfl⟩;rw [decide_eq_false (show ¬ (0 <= pot /\ pot < 3) by omega)]
   go_wp2
   go_ret2
   exact ⟨ret_step (by simp [stepV]) (by simp [lineB, hp]), n0.b⟩
  have hp : inB pot 0 2 = false := inB_not.2 (by omega)
  go_enter Tryz.func113, Tryz.ntmps113
  go_wp2_with fail
  refine (place_any).mono ?_;rintro e w1 ⟨rfl, rfl⟩;rw [decide_eq_false (show ¬ (0 <= pot /\ pot < 3) by omega)]
  go_wp2
  go_ret2
  exact ⟨ret_step (by simp [stepV]) (by simp [lineB, hp]), n0.b⟩
 by_cases hk3 : kind = 3
 ·subst hk3
  by_cases hp : pot = 0
  ·subst hp
   by_cases hs : skip = 0
   ·subst hs
    go_enter Tryz.func113, Tryz.ntmps113
    go_wp2_with fail
    refine (iSmall_any C D (hC.below n0.b) (hD.below n0.b) hn hm).mono ?_;rintro e w1 ⟨rfl, b1⟩;obtain ⟨c0, c1, c2, c3, c4, c5⟩ := (n0.below b1).p.six
    go_wp2
    go_ret2
    exact ⟨ret_step (by simp [stepV]) (by simp [lineB, ]), (n0.below b1).b⟩
   have hs' : (skip == 0) = false := by simp [hs]
   go_enter Tryz.func113, Tryz.ntmps113
   go_wp2
   go_ret2
   exact ⟨ret_step (by simp [stepV]) (by simp [lineB, hs]), n0.b⟩
  have hp' : (pot == 0) = false := by simp [hp]
  go_enter Tryz.func113, Tryz.ntmps113
  go_wp2
  go_ret2
  exact ⟨ret_step (by simp [stepV]) (by simp [lineB, hp]), n0.b⟩
 have hk1' : (kind == 1) = false := by simp [hk1]
 have hk2' : (kind == 2) = false := by simp [hk2]
 have hk3' : (kind == 3) = false := by simp [hk3]
 by_cases hk4 : kind = 4
 ·subst hk4
  by_cases hp : pot = 0
  ·subst hp
   by_cases hs : skip = 0
   ·subst hs
    go_enter Tryz.func113, Tryz.ntmps113
    go_wp2_with fail
    refine (iNoth_any).mono ?_;rintro e w1 ⟨rfl, b1⟩;obtain ⟨c0, c1, c2, c3, c4, c5⟩ := (n0.below b1).p.six
    go_wp2
    go_ret2
    exact ⟨ret_step (by simp [stepV]) (by simp only [lineB, Int.reduceEq, if_false, beq_self_eq_true, Bool.true_and]), (n0.below b1).b⟩
   have hs' : (skip == 0) = false := by simp [hs]
   go_enter Tryz.func113, Tryz.ntmps113
   go_wp2
   go_ret2
   exact ⟨ret_step (by simp [stepV]) (by simp [lineB, hs]), n0.b⟩
  have hp' : (pot == 0) = false := by simp [hp]
  go_enter Tryz.func113, Tryz.ntmps113
  go_wp2
  go_ret2
  exact ⟨ret_step (by simp [stepV]) (by simp [lineB, hp]), n0.b⟩
 have hk4' : (kind == 4) = false := by simp [hk4]
 go_enter Tryz.func113, Tryz.ntmps113
 go_wp2
 go_ret2
 exact ⟨ret_step (by simp [stepV, hk1, hk2, hk3, hk4]) (by simp [lineB, hk1, hk2, hk3, hk4]), n0.b⟩
def LinesG (w : World) (ad : Option Addr) (ls : List LV) : Prop :=
 ∀ i, i < ls.length -> ∃ b off, ad = some ⟨b, off, none⟩ /\ (∀ r, r < 6 -> w.cell? ⟨b, off + i * 6 + r, none⟩ = (ls[i]?.getD noLV).cs[r]?) /\ (ls[i]?.getD noLV).f.At w
theorem cells_below {b o : Nat} {l : LV} (h : ∀ r, r < 6 -> w.cell? ⟨b, o + r, none⟩ = l.cs[r]?) (hb : Below w.heap.size w w') : ∀ r, r < 6 -> w'.cell? ⟨b, o + r, none⟩ = l.cs[r]? := fun r hr => by
 have hl : b < w.heap.size := by
  have := h 0 (by omega)
  exact block_lt (v := .int .i64 l.kind) (by rw [this]; rfl)
 rw [hb.cell (p := ⟨b, o + r, none⟩) hl]; exact h r hr
theorem LinesG.below {ad : Option Addr} {ls : List LV} (h : LinesG w ad ls) (hb : Below w.heap.size w w') : LinesG w' ad ls := fun i hi => by
 obtain ⟨b, off, e, hc, ha⟩ := h i hi
 exact ⟨b, off, e, cells_below hc hb, ha.below hb⟩
theorem six_of {b o : Nat} {l : LV} (h : ∀ r, r < 6 -> w.cell? ⟨b, o + r, none⟩ = l.cs[r]?) :
  w.cell? ⟨b, o, none⟩ = some (.int .i64 l.kind) /\ w.cell? ⟨b, o + 1, none⟩ = some (.int .i64 l.pot) /\ w.cell? ⟨b, o + 2, none⟩ = some (.int .i64 l.skip) /\ w.cell? ⟨b, o + 3, none⟩ = some (.slice l.f.a l.f.n l.f.cap) /\ w.cell? ⟨b, o + 4, none⟩ = some (.slice l.f.c l.f.m l.f.cap') /\ w.cell? ⟨b, o + 5, none⟩ = some (.int .i64 l.f.K) :=
 ⟨h 0 (by omega), h 1 (by omega), h 2 (by omega), h 3 (by omega), h 4 (by omega), h 5 (by omega)⟩
def six (vs : List Value) (o : Nat) (x0 x1 x2 x3 x4 x5 : Value) : List Value := (((((vs.set o x0).set (o + 1) x1).set (o + 2) x2).set (o + 3) x3).set (o + 4) x4).set (o + 5) x5
def LV.ok (l : LV) : Bool := lineB l.kind l.pot l.skip l.f.n l.f.m l.f.C l.f.D l.f.K
def LV.tst (l : LV) : Bool := l.kind == 1
def tests (ls : List LV) : Nat := ls.countP LV.tst
def actB (N : Nat) (ls : List LV) : Bool := decide ((N : Int) <= 6) && ls.all LV.ok && decide ((tests ls : Int) <= 3)
theorem allL_take_succ {ls : List LV} (h : k < ls.length) (h1 : (ls.take k).all LV.ok = true) (h2 : (ls[k]?.getD noLV).ok = true) : (ls.take (k + 1)).all LV.ok = true := by
 rw [qF h, List.all_append, h1];rw [qC h] at h2;simpa using h2
theorem allL_no {ls : List LV} (h : k < ls.length) (h2 : (ls[k]?.getD noLV).ok = false) : ls.all LV.ok = false := by
 rw [List.all_eq_false];rw [qC h] at h2
 exact ⟨ls[k], List.getElem_mem h, by simpa using h2⟩
theorem tests_succ {ls : List LV} (h : k < ls.length) : tests (ls.take (k + 1)) = tests (ls.take k) + (if (ls[k]?.getD noLV).tst then 1 else 0) := by
 unfold tests;rw [qF h, List.countP_append, qC h];simp [List.countP_cons]
theorem tests_yes {ls : List LV} (h : k < ls.length) {g : LV} (hg : ls[k]?.getD noLV = g) (hk : g.kind = 1) : tests (ls.take (k + 1)) = tests (ls.take k) + 1 := by
 rw [tests_succ h, hg, LV.tst, hk]; rfl
theorem tests_no {ls : List LV} (h : k < ls.length) {g : LV} (hg : ls[k]?.getD noLV = g) (hk : (g.kind == 1) = false) : tests (ls.take (k + 1)) = tests (ls.take k) := by
 rw [tests_succ h, hg, LV.tst, hk]; rfl
theorem sact_any {ad : Option Addr} (N cap : Nat) (ls : List LV) {w : World} (hN : ls.length = N) (hF : LinesG w ad ls) (hN1 : N <= 1048576) :
  Calls Tryz.prog 71 #[.slice ad N cap] w fun e w' => e = .returned (.bool (actB N ls)) /\ Below w.heap.size w w' := by
 have HN : Hid (ls.length = N) := hN;clear hN
 go_enter Tryz.func71, Tryz.ntmps71
 go_wp2_with fail
 go_loopw [3, 4] (fun t i wr => ∃ k : Nat, k <= N /\ i = .int .i64 k /\ (∃ j : Nat, j <= k /\ t = .int .i64 j /\ j = tests (ls.take k)) /\ Below w.heap.size w wr /\ (ls.take k).all LV.ok = true) (fun _ i _ => N - (intOf i).toNat)
 case atStart => exact ⟨0, qJ _, rfl, ⟨0, qI _, rfl, rfl⟩, Below.refl _ _, by simp⟩
 case round =>
  obtain ⟨k, hk, rfl, ⟨j, hj, rfl, hjt⟩, hb, hall⟩ := hrel;have HA : Hid ((ls.take k).all LV.ok = true) := hall;have HJ : Hid (j = tests (ls.take k)) := hjt;clear hall hjt
  by_cases hlt : k < N
  ·obtain ⟨b, off, rfl, hc, hAt⟩ := (hF.below hb) k (by rw [HN.out]; exact hlt);generalize HG : ls[k]?.getD noLV = g at *;have HG' : Hid (ls[k]?.getD noLV = g) := HG;clear HG hF;obtain ⟨e0, e1, e2, e3, e4, e5⟩ := six_of hc;have HC : Hid _ := hc;clear hc;obtain ⟨gk, gp, gz, ⟨ga, gn, gcap, gc, gm, gcap', gK, gC, gD⟩⟩ := g;obtain ⟨iC, iD, hn, hm⟩ := hAt;simp only at e0 e1 e2 e3 e4 e5 iC iD hn hm
   cases hf : lineB gk gp gz gn gm gC gD gK
   ·go_wp2_with fail
    refine (sline_any gC gD iC iD hn hm).mono ?_;rintro e w1 ⟨rfl, b1⟩;have B1 := btr hb b1;rw [hf]
    go_wp2
    go_ret
    exact ⟨ret_bool (by rw [actB, allL_no (k := k) (by rw [HN.out]; exact hlt) (by rw [HG'.out]; exact hf)]; simp), B1⟩
   by_cases h1 : gk = 1
   ·subst h1;have HT : Hid (j + 1 = tests (ls.take (k + 1))) := by show j + 1 = _; rw [tests_yes (by rw [HN.out]; exact hlt) HG'.out rfl, <- HJ.out]
    go_wp2_with fail
    refine (sline_any gC gD iC iD hn hm).mono ?_;rintro e w1 ⟨rfl, b1⟩;have B1 := btr hb b1;obtain ⟨f0, f1, f2, f3, f4, f5⟩ := six_of (cells_below HC.out b1);simp only at f0;clear b1 hb iC iD e0 e1 e2 e3 e4 e5 f1 f2 f3 f4 f5;rw [hf]
    go_wp2
    go_roundw
    case rel => exact ⟨k + 1, by omega, by go_num, ⟨j + 1, by omega, by go_num, HT.out⟩, B1, allL_take_succ (by rw [HN.out]; exact hlt) HA.out (by rw [HG'.out]; exact hf)⟩
    case measure => simp [intOf]; omega
   have h1' : (gk == 1) = false := by simp [h1]
   have HT : Hid (j = tests (ls.take (k + 1))) := by show j = _; rw [tests_no (by rw [HN.out]; exact hlt) HG'.out h1', <- HJ.out]
   go_wp2_with fail
   refine (sline_any gC gD iC iD hn hm).mono ?_;rintro e w1 ⟨rfl, b1⟩;have B1 := btr hb b1;obtain ⟨f0, f1, f2, f3, f4, f5⟩ := six_of (cells_below HC.out b1);simp only at f0;clear b1 hb iC iD e0 e1 e2 e3 e4 e5 f1 f2 f3 f4 f5;rw [hf]
   go_wp2
   go_roundw
   case rel => exact ⟨k + 1, by omega, by go_num, ⟨j, by omega, rfl, HT.out⟩, B1, allL_take_succ (by rw [HN.out]; exact hlt) HA.out (by rw [HG'.out]; exact hf)⟩
   case measure => simp [intOf]; omega
  obtain rfl : k = N := by omega
  have HT : Hid (ls.take k = ls) := List.take_of_length_le (by rw [HN.out]; omega)
  have HAB : Hid (actB k ls = (decide ((k : Int) <= 6) && decide ((j : Int) <= 3))) := by
   show actB k ls = _
   have h1 := HA.out;have h2 := HJ.out;rw [HT.out] at h1 h2;rw [actB, h1, <- h2, Bool.and_true]
  by_cases h6 : (k : Int) <= 6
  ·go_wp2
   go_ret
   exact ⟨ret_bool (by rw [HAB.out]; simp; omega), hb⟩
  go_wp2
  go_ret
  exact ⟨ret_bool (by rw [HAB.out]; simp; omega), hb⟩
structure JS (w : World) (v : Value) (xs : List Value) (W : World) : Prop where
 b : Below w.heap.size w W
 o : W.ownsRow w.heap.size 149 1 v xs.length xs
theorem JS.nil (w : World) : JS w (.slice none 0 0) [] w := ⟨Below.refl _ _, World.ownsRow_nil w _ _ _⟩
theorem JS.below {xs : List Value} (j : JS w v xs W) (h : Below W.heap.size W W') : JS w v xs W' := by
 refine ⟨j.b.trans (h.mono j.b.size), j.o.1, ?_⟩
 rcases j.o.2 with h2 | ⟨g, cap, cur, hv, hg, hh, r⟩
 ·exact Or.inl h2
 exact Or.inr ⟨g, cap, cur, hv, hg, by rw [h.block g (lt_of_block hh)]; exact hh, r⟩
theorem JS.alloc {xs : List Value} (j : JS w v xs W) (o : Obj) : JS w v xs (W.alloc o) := j.below (bal)
theorem JS.app {xs : List Value} {y : Value} {g : Nat} {o : Obj} (j : JS w v xs W) (hk : xs.length = k) (hown : W'.ownsRow w.heap.size 149 1 (.slice (some ⟨g, 0, none⟩) (k + 1) cap) (k + 1) (xs ++ [y])) (hg : (W.alloc o).grownBy W' v.ownBlock) :
  JS w (.slice (some ⟨g, 0, none⟩) (k + 1) cap) (xs ++ [y]) W' := by
 have j' := j.alloc o;refine ⟨j'.b.grown hg j'.b.size (fun k hk => (j'.o.lt k hk).1), ?_⟩;rw [qE, hk]
 exact hown
theorem stepV_iface {l : LV} (h : l.ok = true) : ∃ ty v, stepV l = .iface ty v := by
 unfold stepV
 by_cases h1 : l.kind = 1
 ·rw [if_pos h1]; exact ⟨_, _, rfl⟩
 by_cases h2 : l.kind = 2
 ·rw [if_neg h1, if_pos h2]; exact ⟨_, _, rfl⟩
 by_cases h3 : l.kind = 3
 ·rw [if_neg h1, if_neg h2, if_pos h3]; exact ⟨_, _, rfl⟩
 by_cases h4 : l.kind = 4
 ·rw [if_neg h1, if_neg h2, if_neg h3, if_pos h4]; exact ⟨_, _, rfl⟩
 simp [LV.ok, lineB, h1, h2, h3, h4] at h
theorem news_one {x : Value} {t : TypeId} : ∀ j u, [x][j]? = some u -> (w.alloc (.cells #[x] t)).cell? ((⟨w.heap.size, 0, none⟩ : Addr).add j) = some u := fun j u hu => by
 match j, hu with
 | 0, hu =>
  simp only [qD, qA] at hu;subst hu;simp [Addr.add]
theorem Tryz.infoStep : (Tryz.prog.info? 149).map (fun i => (i.zero, i.size, i.bytes)) = some (some .nilIface, 1, 16) := by kernel_rfl
theorem isteps_any (ad : Option Addr) (N cap : Nat) (ls : List LV) {w : World} (hN : ls.length = N) (hF : LinesG w ad ls) (hN1 : N <= 1048576) :
  Calls Tryz.prog 68 #[.slice ad N cap] w fun e w' => ∃ sv, e = .returned (.tuple #[sv, .bool (actB N ls)]) /\ Below w.heap.size w w' /\ (actB N ls = true -> JS w sv (ls.map stepV) w') := by
 have HN : Hid (ls.length = N) := hN;clear hN;obtain ⟨i0, hi, hz0, hz1, hz2⟩ := info_parts Tryz.infoStep
 by_cases h6 : 6 < N
 ·have HB : Hid (actB N ls = false) := by show actB N ls = false; rw [actB, decide_eq_false (by omega)]; rfl
  go_enter Tryz.func68, Tryz.ntmps68
  go_wp2
  go_ret2
  exact ⟨_, ret_step rfl HB.out.symm, Below.refl _ _, fun h => by rw [HB.out] at h; cases h⟩
 have h6' : N <= 6 := by omega
 clear h6
 go_enter Tryz.func68, Tryz.ntmps68
 go_wp2_with fail
 go_loopw [4, 5, 7, 8, 9, 15] (fun v t _ _ _ i wr => ∃ k : Nat, k <= N /\ i = .int .i64 k /\ (∃ j : Nat, j <= k /\ t = .int .i64 j /\ j = tests (ls.take k)) /\ (∃ xs : List Value, xs.length = k /\ xs = (ls.take k).map stepV /\ JS w v xs wr) /\ (ls.take k).all LV.ok = true) (fun _ _ _ _ _ i _ => N - (intOf i).toNat)
 case atStart => exact ⟨0, qJ _, rfl, ⟨0, qI _, rfl, rfl⟩, ⟨[], rfl, rfl, JS.nil w⟩, by simp⟩
 case round =>
  obtain ⟨k, hk, rfl, ⟨j, hj, rfl, hjt⟩, ⟨xs, hxl, hxs, jj⟩, hall⟩ := hrel;have HA : Hid ((ls.take k).all LV.ok = true) := hall;have HJ : Hid (j = tests (ls.take k)) := hjt;have HXL : Hid (xs.length = k) := hxl;have HXS : Hid (xs = (ls.take k).map stepV) := hxs;clear hall hjt hxl hxs
  by_cases hlt : k < N
  ·obtain ⟨b, off, rfl, hc, hAt⟩ := (hF.below jj.b) k (by rw [HN.out]; exact hlt)
   have HXX0 : Hid ((ls.take (k + 1)).map stepV = (ls.take k).map stepV ++ [stepV (ls[k]?.getD noLV)]) := by
    have hl : k < ls.length := by rw [HN.out]; exact hlt
    show _ = _
    rw [qF hl, List.map_append, qC hl]; rfl
   generalize HG : ls[k]?.getD noLV = g at *;have HG' : Hid (ls[k]?.getD noLV = g) := HG;clear HG hF;obtain ⟨e0, e1, e2, e3, e4, e5⟩ := six_of hc;clear hc;obtain ⟨gk, gp, gz, ⟨ga, gn, gcap, gc, gm, gcap', gK, gC, gD⟩⟩ := g;obtain ⟨iC, iD, hn, hm⟩ := hAt;simp only at e0 e1 e2 e3 e4 e5 iC iD hn hm
   cases hf : lineB gk gp gz gn gm gC gD gK
   ·have HB : Hid (actB N ls = false) := by show actB N ls = false; rw [actB, allL_no (k := k) (by rw [HN.out]; exact hlt) (by rw [HG'.out]; exact hf)]; simp
    go_wp2_with fail
    refine (istep_any gC gD (iC.alloc _) (iD.alloc _) hn hm).mono ?_;rintro e w1 ⟨rfl, b1⟩;have j1 := (jj.alloc _).below b1;rw [hf];obtain ⟨sv, hsv⟩ : ∃ sv, sv = stepV ⟨gk, gp, gz, ⟨ga, gn, gcap, gc, gm, gcap', gK, gC, gD⟩⟩ := ⟨_, rfl⟩
    rw [<- hsv]
    go_wp2
    go_ret2
    exact ⟨_, ret_step rfl HB.out.symm, j1.b, fun h => by rw [HB.out] at h; cases h⟩
   obtain ⟨ty, vv, hsv⟩ := stepV_iface (l := ⟨gk, gp, gz, ⟨ga, gn, gcap, gc, gm, gcap', gK, gC, gD⟩⟩) hf;have HSV : Hid (stepV ⟨gk, gp, gz, ⟨ga, gn, gcap, gc, gm, gcap', gK, gC, gD⟩⟩ = .iface ty vv) := hsv;have HS1 : Hid (∀ u ∈ [Value.iface ty vv], u.oneCell' = true) := fun u hu => by simp at hu; subst hu; rfl
   have HXX : Hid (xs ++ [.iface ty vv] = (ls.take (k + 1)).map stepV) := by show _ = _; rw [HXX0.out, HXS.out, hsv]
   clear hsv
   by_cases h1 : gk = 1
   ·subst h1;have HT : Hid (j + 1 = tests (ls.take (k + 1))) := by show j + 1 = _; rw [tests_yes (by rw [HN.out]; exact hlt) HG'.out rfl, <- HJ.out]
    go_wp2_with fail
    refine (istep_any gC gD (iC.alloc _) (iD.alloc _) hn hm).mono ?_;rintro e w1 ⟨rfl, b1⟩;have j1 := (jj.alloc _).below b1;have bx := (Cel.new wr _ _).below b1;obtain ⟨f0, f1, f2, f3, f4, f5⟩ := bx.six;have jo := j1.o;rw [HXL.out] at jo;have hjb := j1.b.size;rw [hf, HSV.out];clear jj b1 iC iD e0 e1 e2 e3 e4 e5 f1 f2 f3 f4 f5 bx
    go_wp2_with (at_builtin; go_must (refine wpList_append_lies _ rfl (.tmp 31) (.tmp 33) 100 rfl w.heap.size 149 i0 .nilIface 1 16 Tryz.underlying100 hi hz0 hz1 hz2 rfl (by decide) _ _ _ rfl (jo.alloc _) ⟨w1.heap.size, 0, none⟩ 1 1 [.iface ty vv] rfl rfl (news_one) HS1.out (by omega) (by unfold maxLen; omega) (by omega) (by rw [World.size_alloc]; omega) _ rfl ?_); intro g cp w2 hown hgrow hat hlt1)
    have j2 := j1.app HXL.out hown hgrow;clear hown hgrow jo j1 hat
    go_wp2
    go_roundw
    case rel => exact ⟨k + 1, by omega, by go_num, ⟨j + 1, by omega, by go_num, HT.out⟩, ⟨_, by rw [qE, HXL.out]; rfl, HXX.out, j2⟩, allL_take_succ (by rw [HN.out]; exact hlt) HA.out (by rw [HG'.out]; exact hf)⟩
    case measure => simp [intOf]; omega
   have h1' : (gk == 1) = false := by simp [h1]
   have HT : Hid (j = tests (ls.take (k + 1))) := by show j = _; rw [tests_no (by rw [HN.out]; exact hlt) HG'.out h1', <- HJ.out]
   go_wp2_with fail
   refine (istep_any gC gD (iC.alloc _) (iD.alloc _) hn hm).mono ?_;rintro e w1 ⟨rfl, b1⟩;have j1 := (jj.alloc _).below b1;have bx := (Cel.new wr _ _).below b1;obtain ⟨f0, f1, f2, f3, f4, f5⟩ := bx.six;have jo := j1.o;rw [HXL.out] at jo;have hjb := j1.b.size;rw [hf, HSV.out];clear jj b1 iC iD e0 e1 e2 e3 e4 e5 f1 f2 f3 f4 f5 bx
   go_wp2_with (at_builtin; go_must (refine wpList_append_lies _ rfl (.tmp 31) (.tmp 33) 100 rfl w.heap.size 149 i0 .nilIface 1 16 Tryz.underlying100 hi hz0 hz1 hz2 rfl (by decide) _ _ _ rfl (jo.alloc _) ⟨w1.heap.size, 0, none⟩ 1 1 [.iface ty vv] rfl rfl (news_one) HS1.out (by omega) (by unfold maxLen; omega) (by omega) (by rw [World.size_alloc]; omega) _ rfl ?_); intro g cp w2 hown hgrow hat hlt1)
   have j2 := j1.app HXL.out hown hgrow;clear hown hgrow jo j1 hat
   go_wp2
   go_roundw
   case rel => exact ⟨k + 1, by omega, by go_num, ⟨j, by omega, rfl, HT.out⟩, ⟨_, by rw [qE, HXL.out]; rfl, HXX.out, j2⟩, allL_take_succ (by rw [HN.out]; exact hlt) HA.out (by rw [HG'.out]; exact hf)⟩
   case measure => simp [intOf]; omega
  obtain rfl : k = N := by omega
  have HT : Hid (ls.take k = ls) := List.take_of_length_le (by rw [HN.out]; omega)
  have HAB : Hid (actB k ls = decide ((j : Int) <= 3)) := by
   show actB k ls = _
   have h1 := HA.out;have h2 := HJ.out;rw [HT.out] at h1 h2;rw [actB, h1, <- h2, Bool.and_true, decide_eq_true (by omega), Bool.true_and]
  have HX2 : Hid (xs = ls.map stepV) := by show _ = _; rw [HXS.out, HT.out]
  go_wp2
  go_ret2
  exact ⟨_, ret_step rfl HAB.out.symm, jj.b, fun _ => by rw [<- HX2.out]; exact jj⟩
theorem iact_any (ad : Option Addr) (N cap : Nat) (ls : List LV) {w : World} (hN : ls.length = N) (hF : LinesG w ad ls) (hN1 : N <= 1048576) :
  Calls Tryz.prog 83 #[.slice ad N cap] w fun e w' => e = .returned (.bool (actB N ls)) /\ Below w.heap.size w w' := by
 go_enter Tryz.func83, Tryz.ntmps83
 go_wp2_with fail
 refine (isteps_any _ _ _ ls hN hF hN1).mono ?_;rintro e w1 ⟨sv, rfl, b1, -⟩
 go_wp2
 go_ret
 exact ⟨rfl, b1⟩
end Go.Proofs.YtemcinobgdphnaaGreat
