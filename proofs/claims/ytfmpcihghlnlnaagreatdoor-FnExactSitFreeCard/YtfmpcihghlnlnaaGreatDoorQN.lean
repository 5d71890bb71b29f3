/-
  Lemmas that the claim's last text rests on.
-/
import Derived.Test.YtfmpcihghlnlnaaGreatDoorQM
namespace Go.Proofs.YtfmpcihghlnlnaaGreatDoor
open Go.RowKit Go.Deep
open Option.some renaming injEq → qA
open World renaming size_alloc → qB
open List renaming getElem?_cons_zero → qC, getElem?_cons_succ → qD
open Nat renaming le_refl → qE
set_option linter.unusedVariables false
set_option maxRecDepth 100000
set_option maxHeartbeats 25600000
variable {S : Nat -> Prop} {W W' w : World} {X cap n : Nat} {a : Option Addr} {fs : List Frm} {t : TypeId} {v : Value} {xs : List Value}
theorem izero_any :
  Calls Tryz.prog 155 #[] w fun e w' => ∃ B1 B2, e = .returned (formV (some ⟨B1, 0, none⟩) 3 3 (some ⟨B2, 0, none⟩) 2 2 0) /\ Below w.heap.size w w' /\ w.heap.size <= B1 /\ B1 ≠ B2 /\ w.heap.size <= B2 /\ Blk w' B1 [0, 0, 0] /\ Blk w' B2 [0, 0] := by
 go_enter Tryz.func155, Tryz.ntmps155
 go_wp2_with fail
 refine (sum_any none 0 0 [] 0 rfl (fun i hi => by simp at hi) (fun i hi => by simp at hi)).mono ?_;rintro e w1 ⟨B1, B2, rfl, b1, h1, h2, h3, k1, k2⟩;have r := (Cel.new w _ _).below b1;have r0 := r.cell 0;have r1 := r.cell 1;have r2 := r.cell 2;have r3 := r.free 0;have r4 := r.free 1;have r5 := r.free 2;simp only [qC, qD] at r0 r1 r2;rw [qB] at h1 h3;have hb : Below w.heap.size w w1 := (bal).trans (b1.mono (by simp))
 go_wp2
 refine bodyPost_ret (v := formV (some ⟨B1, 0, none⟩) 3 3 (some ⟨B2, 0, none⟩) 2 2 0) (by simp [results, Tryz.results155, go_sem, r0, r1, r2, sumK]) rfl ⟨B1, B2, rfl, ?_, by omega, h2, by omega, ?_, ?_⟩
 ·exact ((hb.setCell (qE _) _).setCell (qE _) _).setCell (qE _) _
 ·exact ((k1.so).so).so
 exact ((k2.so).so).so
def potC (v : Int) : List Int := if 0 <= v /\ v <= 2 then [0, 0, 0].set v.toNat 1 else []
def potD (v : Int) : List Int := if 0 <= v /\ v <= 2 then [0, 0] else []
theorem potC_in (v : Int) (k : Nat) (hv : v = k) (hk : k <= 2 := by omega) : potC v = [0, 0, 0].set k 1 := by subst hv; unfold potC; rw [if_pos (by omega)]; rfl
theorem potD_in (v : Int) (h0 : 0 <= v := by omega) (h2 : v <= 2 := by omega) : potD v = [0, 0] := by unfold potD; rw [if_pos ⟨h0, h2⟩]
theorem potC_out (v : Int) (h : ¬ (0 <= v /\ v <= 2)) : potC v = [] := by unfold potC; rw [if_neg h]
theorem potD_out (v : Int) (h : ¬ (0 <= v /\ v <= 2)) : potD v = [] := by unfold potD; rw [if_neg h]
theorem spot_any (v : Int) (w : World) :
  Calls Tryz.prog 58 #[.int .i64 v] w fun e w' => Res w w' e (potC v) (potD v) 0 := by
 by_cases h : 0 <= v /\ v <= 2
 ·obtain ⟨h0, h2⟩ := h;have hi : inB v 0 2 = true := inB_iff.2 ⟨h0, h2⟩;obtain ⟨k, rfl⟩ := Int.eq_ofNat_of_zero_le h0;have hk : k < 3 := by omega
  have hk' : (k : Int) < 3 := by omega
  rw [potC_in (k : Int) k rfl, potD_in (k : Int)]
  go_enter Tryz.func58, Tryz.ntmps58
  go_wp2_with fail
  refine (in_any).mono ?_;rintro e w0 ⟨rfl, rfl⟩
  go_wp2_with fail
  refine (szero_any).mono ?_;rintro e w1 ⟨B1, B2, rfl, b1, g1, g2, g3, k1, k2⟩;rw [qB] at g1 g3;have r := (Cel.new w _ _).below b1;have hb : Below w.heap.size w w1 := (bal).trans (b1.mono (by simp));have hrl := r.lt
  have c0 : w1.cell? ⟨B1, k, none⟩ = some (.int .i64 0) := by
   have := k1.cell k (by simpa using hk);rw [this]
   match k, hk with
   | 0, _ => rfl
   | 1, _ => rfl
   | 2, _ => rfl
  have c1 := k1.free k;have hB1 := k1.lt;have hB2 := k2.lt;have k3 := k1.set k 1;have k4 := k2.setOther (B' := B1) (by omega) k (.int .i64 1);have r' := r.setOther (B' := B1) (by omega) k (.int .i64 1);have hb' := hb.setCell (p := ⟨B1, k, none⟩) (by show w.heap.size <= B1; omega) (.int .i64 1);have r0 := r'.cell 0;have r1 := r'.cell 1;have r2 := r'.cell 2;have r3 := r'.free 0;have r4 := r'.free 1;have r5 := r'.free 2;simp only [qC, qD] at r0 r1 r2;clear hi
  go_wp2
  refine bodyPost_ret (v := formV (some ⟨B1, 0, none⟩) 3 3 (some ⟨B2, 0, none⟩) 2 2 0) (by simp [results, Tryz.results58, go_sem, r0, r1, r2, hrl]) rfl (Res.of (B1 := B1) (B2 := B2) rfl (by simp) rfl ?_ (by omega) g2 (by omega) ?_ ?_)
  ·exact (((hb'.setCell (qE _) _).setCell (qE _) _).setCell (qE _) _).alloc (by rw [size_setCell, size_setCell, size_setCell, size_setCell]; omega) _
  ·exact (((k3.so).so).so).alloc _
  exact (((k4.so).so).so).alloc _
 have hi : inB v 0 2 = false := inB_not.2 h;rw [potC_out v h, potD_out v h]
 go_enter Tryz.func58, Tryz.ntmps58
 go_wp2_with fail
 refine (in_any).mono ?_;rintro e w0 ⟨rfl, rfl⟩
 go_wp2
 exact bodyPost_ret (v := formV none 0 0 none 0 0 0) (by simp [results, Tryz.results58, go_sem]) rfl (Res.none rfl (bal))
theorem ipot_any {v : Int} :
  Calls Tryz.prog 140 #[.int .i64 v] w fun e w' => Res w w' e (potC v) (potD v) 0 := by
 by_cases h : 0 <= v /\ v <= 2
 ·obtain ⟨h0, h2⟩ := h;have hi : inB v 0 2 = true := inB_iff.2 ⟨h0, h2⟩;obtain ⟨k, rfl⟩ := Int.eq_ofNat_of_zero_le h0;have hk : k < 3 := by omega
  have hk' : (k : Int) < 3 := by omega
  rw [potC_in (k : Int) k rfl, potD_in (k : Int)]
  go_enter Tryz.func140, Tryz.ntmps140
  go_wp2_with fail
  refine (place_any).mono ?_;rintro e w0 ⟨rfl, rfl⟩;rw [decide_eq_true (show 0 <= (k : Int) /\ (k : Int) < 3 from ⟨h0, hk'⟩)]
  go_wp2_with fail
  refine (izero_any).mono ?_;rintro e w1 ⟨B1, B2, rfl, b1, g1, g2, g3, k1, k2⟩;rw [qB] at g1 g3;have r := (Cel.new w _ _).below b1;have hb : Below w.heap.size w w1 := (bal).trans (b1.mono (by simp));have hrl := r.lt
  have c0 : w1.cell? ⟨B1, k, none⟩ = some (.int .i64 0) := by
   have := k1.cell k (by simpa using hk);rw [this]
   match k, hk with
   | 0, _ => rfl
   | 1, _ => rfl
   | 2, _ => rfl
  have c1 := k1.free k;have hB1 := k1.lt;have hB2 := k2.lt;have k3 := k1.set k 1;have k4 := k2.setOther (B' := B1) (by omega) k (.int .i64 1);have r' := r.setOther (B' := B1) (by omega) k (.int .i64 1);have hb' := hb.setCell (p := ⟨B1, k, none⟩) (by show w.heap.size <= B1; omega) (.int .i64 1);have r0 := r'.cell 0;have r1 := r'.cell 1;have r2 := r'.cell 2;have r3 := r'.free 0;have r4 := r'.free 1;have r5 := r'.free 2;simp only [qC, qD] at r0 r1 r2;clear hi
  go_wp2
  refine bodyPost_ret (v := formV (some ⟨B1, 0, none⟩) 3 3 (some ⟨B2, 0, none⟩) 2 2 0) (by simp [results, Tryz.results140, go_sem, r0, r1, r2, hrl]) rfl (Res.of (B1 := B1) (B2 := B2) rfl (by simp) rfl ?_ (by omega) g2 (by omega) ?_ ?_)
  ·exact (((hb'.setCell (qE _) _).setCell (qE _) _).setCell (qE _) _).alloc (by rw [size_setCell, size_setCell, size_setCell, size_setCell]; omega) _
  ·exact (((k3.so).so).so).alloc _
  exact (((k4.so).so).so).alloc _
 rw [potC_out v h, potD_out v h]
 go_enter Tryz.func140, Tryz.ntmps140
 go_wp2_with fail
 refine (place_any).mono ?_;rintro e w0 ⟨rfl, rfl⟩;rw [decide_eq_false (show ¬ (0 <= v /\ v < 3) by omega)]
 go_wp2
 exact bodyPost_ret (v := formV none 0 0 none 0 0 0) (by simp [results, Tryz.results140, go_sem]) rfl (Res.none rfl (bal))
theorem grown_none (h : W.grownBy W' none) {G : Nat} : W.grownBy W' (some G) :=
 ⟨h.os, h.tape, h.output, h.size, fun k hk _ => h.block k hk (by simp)⟩
theorem Cel.grew {B : Nat} {vs : List Value} {row : Option Nat} (h : Cel W B vs t) (hg : W.grownBy W' row) (hne : row ≠ some B) : Cel W' B vs t := by
 have hl := h.lt;unfold Cel at *;rw [hg.block B hl (fun e => hne e.symm)]; exact h
structure JV (w : World) (v : Value) (n : Nat) (xs : List Value) (fs : List Frm) (W : World) : Prop where
 b : Below w.heap.size w W
 o : W.ownsRow w.heap.size 106 3 v n xs
 t : ∃ G, (v.ownBlock = some G \/ (v.ownBlock = none /\ n = 0)) /\ TermsOk W G xs fs n
 l : Lo w.heap.size xs
theorem JV.nil (w : World) (fs : List Frm) : JV w (.slice none 0 0) 0 [] fs w := ⟨Below.refl _ _, World.ownsRow_nil w _ _ _, ⟨0, Or.inr ⟨rfl, rfl⟩, fun j hj => by omega⟩, Lo.nil _⟩
theorem JV.below (j : JV w v n xs fs W) (h : Below W.heap.size W W') : JV w v n xs fs W' := by
 obtain ⟨G, hG, ht⟩ := j.t
 exact ⟨j.b.trans (h.mono j.b.size), own_below j.o h, ⟨G, hG, ht.below h⟩, j.l⟩
theorem JV.own (j : JV w v n xs fs W) {G : Nat} (h : v.ownBlock = some G) : w.heap.size <= G /\ G < W.heap.size := by
 rcases j.o.2 with ⟨e, _⟩ | ⟨g, cap', cur, e, hg, hh, _⟩
 ·rw [e] at h; cases h
 rw [e] at h;have : some g = some G := h;simp only [qA] at this;subst this
 exact ⟨hg, lt_of_block hh⟩
theorem JV.isSlice (j : JV w v n xs fs W) : ∃ a c, v = .slice a n c := by
 rcases j.o.2 with ⟨e, h0⟩ | ⟨g, cap', cur, e, _⟩
 ·subst h0; exact ⟨_, _, e⟩
 exact ⟨_, _, e⟩
theorem JV.slice (j : JV w v n xs fs W) (hn : fs.length = n) : ∃ a cap, v = .slice a n cap /\ FormsAt W a fs := by
 obtain ⟨G, hG, ht⟩ := j.t
 rcases j.o.2 with ⟨e, h0⟩ | ⟨g, cap', cur, e, hg, hh, _⟩
 ·subst h0
  exact ⟨none, 0, e, fun i hi => by omega⟩
 have o := j.o;rw [e] at o
 rcases hG with hG | ⟨_, h0⟩
 ·rw [e] at hG;have : some g = some G := hG;simp only [qA] at this;subst this
  exact ⟨_, cap', e, ht.forms hn o⟩
 subst h0
 exact ⟨_, cap', e, fun i hi => by omega⟩
theorem JV.app {g B1 B2 ca cc : Nat} {C D : List Int} {K : Int} (j : JV w v n xs fs W) (hown : W'.ownsRow w.heap.size 106 3 (.slice (some ⟨g, 0, none⟩) (n + 1) cap) (n + 1) (xs ++ [.slice (some ⟨B1, 0, none⟩) 3 ca, .slice (some ⟨B2, 0, none⟩) 2 cc, .int .i64 K])) (hgrow : W.grownBy W' v.ownBlock) {H : Nat} (hat : v.ownBlock = some g \/ g = H) (hH : W.heap.size = H)
  (k1 : Ints W (some ⟨B1, 0, none⟩) 3 C) (k2 : Ints W (some ⟨B2, 0, none⟩) 2 D) (n1 : v.ownBlock ≠ some B1) (n2 : v.ownBlock ≠ some B2) (p1 : w.heap.size <= B1) (p2 : w.heap.size <= B2) (hT : fs[n]?.getD ([], [], 0) = (C, D, K)) :
  JV w (.slice (some ⟨g, 0, none⟩) (n + 1) cap) (n + 1) (xs ++ [.slice (some ⟨B1, 0, none⟩) 3 ca, .slice (some ⟨B2, 0, none⟩) 2 cc, .int .i64 K]) fs W' := by
 have hb : Below w.heap.size w W' := j.b.grown hgrow j.b.size (fun z hz => (j.own hz).1);have l1 := k1.blt (by omega) B1 0 rfl;have l2 := k2.blt (by omega) B2 0 rfl;obtain ⟨G, hG, ht⟩ := j.t;refine ⟨hb, hown, ⟨g, Or.inl rfl, ?_⟩, j.l.app p1 p2⟩
 rcases hG with hG | ⟨hG, h0⟩
 ·rw [hG] at hgrow hat n1 n2;refine ht.step j.o.1 hgrow ?_ k1 k2 (fun e => n1 (by rw [e])) (fun e => n2 (by rw [e])) hT
  rcases hat with h | h
  ·simp only [qA] at h; exact Or.inl h.symm
  exact Or.inr (by omega)
 rw [hG] at hgrow hat;have ht' : TermsOk W (W.heap.size + 1) xs fs n := fun j hj => by omega
 refine ht'.step j.o.1 (grown_none hgrow) ?_ k1 k2 (by omega) (by omega) hT
 rcases hat with h | h
 ·cases h
 exact Or.inr (by omega)
def FOff (W : World) (S : Nat -> Prop) (a : Option Addr) (fs : List Frm) : Prop := ∀ W', Touch S W W' -> FormsAt W' a fs
theorem FOff.at (h : FOff W S a fs) : FormsAt W a fs := h W (Touch.refl _ _)
theorem FOff.touch (h : FOff W S a fs) (t : Touch S W W') : FOff W' S a fs := fun W'' t' => h W'' (t.trans t')
theorem FOff.below (h : FOff W S a fs) (b : Below W.heap.size W W') : FOff W' S a fs := h.touch (Touch.of b)
theorem FOff.mono {S' : Nat -> Prop} (h : FOff W S a fs) (hs : ∀ k, S' k -> S k) : FOff W S' a fs := fun W' t => h W' (t.mono hs)
theorem FOff.fresh (h : FOff W S a fs) (o : Obj) : FOff (W.alloc o) (fun k => S k \/ k = W.heap.size) a fs := fun W' t => by
 have b : Below W.heap.size W (W.alloc o) := bal;refine h W' ⟨t.os.trans b.os, t.tape.trans b.tape, t.output.trans b.output, Nat.le_trans b.size t.size, fun k hk hn => ?_⟩
 rw [t.block k (Nat.lt_of_lt_of_le hk b.size) (fun e => by
  rcases e with e | e
  ·exact hn e
  omega)]
 exact b.block k hk
theorem JF.foff {G : Nat} (j : JF w G cap n xs fs W) (hn : fs.length = n) : FOff W (fun k => k < w.heap.size) (some ⟨G, 0, none⟩) fs := fun W' t => j.off hn (fun k h => h) t
theorem JV.foff (j : JV w v n xs fs W) (hn : fs.length = n) : ∃ a cap, v = .slice a n cap /\ FOff W (fun k => k < w.heap.size) a fs := by
 obtain ⟨a, cap, hv⟩ := j.isSlice;refine ⟨a, cap, hv, fun W' t => ?_⟩;obtain ⟨G, hG, ht⟩ := j.t;have o' := own_off j.o (fun g hg hs => by have := (j.own hg).1; omega) t;have b' : Below w.heap.size W W' -> True := fun _ => trivial;have t' := ht.off j.l (fun k h => h) t
 rcases o'.2 with ⟨e, h0⟩ | ⟨g, cap', cur, e, _⟩
 ·subst h0;intro i hi
  omega
 have o := o';rw [e] at o hv;simp only [Value.slice.injEq, true_and] at hv;obtain ⟨rfl, rfl⟩ := hv
 rcases hG with hG | ⟨hG, _⟩
 ·rw [e] at hG;have : some g = some G := hG;simp only [qA] at this;subst this
  exact t'.forms hn o
 rw [e] at hG; cases hG
theorem own_zero {b : Nat} {e : TypeId} {s : Nat} (h : W.ownsRow b e s v n xs) : W.ownsRow 0 e s v n xs := ⟨h.1, by
 rcases h.2 with h2 | ⟨g, cap, cur, hv, hg, r⟩
 ·exact Or.inl h2
 exact Or.inr ⟨g, cap, cur, hv, Nat.zero_le _, r⟩⟩
def FOwn (W : World) (S : Nat -> Prop) (v : Value) (n : Nat) (fs : List Frm) : Prop := ∃ xs, ∀ W', Touch S W W' -> W'.ownsRow 0 106 3 v n xs /\ ∃ G, (v.ownBlock = some G \/ (v.ownBlock = none /\ n = 0)) /\ TermsOk W' G xs fs n
theorem FOwn.touch (h : FOwn W S v n fs) (t : Touch S W W') : FOwn W' S v n fs := by
 obtain ⟨xs, h⟩ := h
 exact ⟨xs, fun W'' t' => h W'' (t.trans t')⟩
theorem FOwn.below (h : FOwn W S v n fs) (b : Below W.heap.size W W') : FOwn W' S v n fs := h.touch (Touch.of b)
theorem FOwn.mono {S' : Nat -> Prop} (h : FOwn W S v n fs) (hs : ∀ k, S' k -> S k) : FOwn W S' v n fs := by
 obtain ⟨xs, h⟩ := h
 exact ⟨xs, fun W' t => h W' (t.mono hs)⟩
theorem FOwn.fresh {T : Nat -> Prop} (h : FOwn W (fun k => S k \/ T k) v n fs) (o : Obj) : FOwn (W.alloc o) (fun k => (S k \/ k = W.heap.size) \/ T k) v n fs := by
 obtain ⟨xs, h⟩ := h;have b : Below W.heap.size W (W.alloc o) := bal;refine ⟨xs, fun W' t => h W' ⟨t.os.trans b.os, t.tape.trans b.tape, t.output.trans b.output, Nat.le_trans b.size t.size, fun k hk hn => ?_⟩⟩
 rw [t.block k (Nat.lt_of_lt_of_le hk b.size) (fun e => by
  rcases e with (e | e) | e
  ·exact hn (Or.inl e)
  ·omega
  exact hn (Or.inr e))]
 exact b.block k hk
theorem FOwn.none : FOwn W S (.slice Option.none 0 0) 0 fs := ⟨[], fun W' t => ⟨World.ownsRow_nil W' 0 _ _, 0, Or.inr ⟨rfl, rfl⟩, fun j hj => by omega⟩⟩
theorem FOwn.above (h : FOwn W S v n fs) : FOwn W (fun k => S k \/ W.heap.size <= k) v n fs := by
 obtain ⟨xs, h⟩ := h
 exact ⟨xs, fun W' t => h W' ⟨t.os, t.tape, t.output, t.size, fun k hk hn => t.block k hk (fun e => by
  rcases e with e | e
  ·exact hn e
  omega)⟩⟩
theorem JF.fown {G : Nat} (j : JF w G cap n xs fs W) : FOwn W (fun k => k < w.heap.size \/ W.heap.size <= k) (.slice (some ⟨G, 0, Option.none⟩) n cap) n fs := by
 have hG := j.lt
 exact FOwn.above ⟨xs, fun W' t => ⟨own_zero (own_off j.o (fun g hg hs => by
  have : some G = some g := hg;simp only [qA] at this
  omega) t), G, Or.inl rfl, j.t.off j.l (fun k h => h) t⟩⟩
theorem JV.fown (j : JV w v n xs fs W) : FOwn W (fun k => k < w.heap.size \/ W.heap.size <= k) v n fs := by
 obtain ⟨G, hG, ht⟩ := j.t
 exact FOwn.above ⟨xs, fun W' t => ⟨own_zero (own_off j.o (fun g hg hs => by have := (j.own hg).1; omega) t), G, hG, ht.off j.l (fun k h => h) t⟩⟩
def InB (a : Option Addr) (k : Nat) : Prop := ∃ o s, a = some ⟨k, o, s⟩
def RowOwn (W : World) (S : Nat -> Prop) (ga : Option Addr) (gc : Nat) (aa : Option Addr) (ac : Nat) (ta : Option Addr) (tc : Nat) (r : RowM) : Prop :=
 FOwn W (fun k => S k \/ (InB aa k \/ InB ta k)) (.slice ga r.guards.length gc) r.guards.length r.guards /\ FOwn W (fun k => S k \/ (InB ga k \/ InB ta k)) (.slice aa r.adds.length ac) r.adds.length r.adds /\ FOwn W (fun k => S k \/ (InB ga k \/ InB aa k)) (.slice ta r.tells.length tc) r.tells.length r.tells
def RowX (W : World) (B : Nat) (v : Value) (r : RowM) : Prop :=
 ∃ ga gc aa ac ta tc, v = .agg #[.slice ga r.guards.length gc, .slice aa r.adds.length ac, .slice ta r.tells.length tc, .bool r.stop] /\ FOff W (fun k => k < B) ga r.guards /\ FOff W (fun k => k < B) aa r.adds /\ FOff W (fun k => k < B) ta r.tells
def RowXO (W : World) (B : Nat) (v : Value) (r : RowM) : Prop :=
 ∃ ga gc aa ac ta tc, v = .agg #[.slice ga r.guards.length gc, .slice aa r.adds.length ac, .slice ta r.tells.length tc, .bool r.stop] /\ FOff W (fun k => k < B) ga r.guards /\ FOff W (fun k => k < B) aa r.adds /\ FOff W (fun k => k < B) ta r.tells /\ RowOwn W (fun k => k < B) ga gc aa ac ta tc r
theorem FormsAt.keep (h : FormsAt W a fs) (hb : Below W.heap.size W W') : FormsAt W' a fs := fun i hi => by
 obtain ⟨b, off, e, a', c', ca, cc, c0, c1, c2, iC, iD⟩ := h i hi;refine ⟨b, off, e, a', c', ca, cc, ?_, ?_, ?_, iC.below hb, iD.below hb⟩
 ·rw [hb.cell (p := ⟨b, off + i * 3, none⟩) (block_lt c0)]; exact c0
 ·rw [hb.cell (p := ⟨b, off + i * 3 + 1, none⟩) (block_lt c1)]; exact c1
 rw [hb.cell (p := ⟨b, off + i * 3 + 2, none⟩) (block_lt c2)]; exact c2
theorem Ints.past {zs : List Int} (h : Ints W a n zs) (hx : ∀ o q, W.cell? ⟨X, o, none⟩ ≠ some (.int .i64 q)) (t : Touch (fun z => z = X) W W') : Ints W' a n zs := by
 refine ⟨h.1, fun i hi => ?_⟩;obtain ⟨b, off, e, hc⟩ := h.2 i hi;refine ⟨b, off, e, ?_⟩;have hb := block_lt hc;have hne : b ≠ X := fun e2 => by subst e2; exact hx _ _ hc
 simp only [World.cell?] at hc ⊢;rw [t.block b hb hne]; exact hc
theorem FormsAt.past (h : FormsAt W a fs) (hx : ∀ o v, W.cell? ⟨X, o, none⟩ = some v -> v = .slice none 0 0 \/ v = .bool false) (t : Touch (fun z => z = X) W W') : FormsAt W' a fs := fun i hi => by
 obtain ⟨b, off, e, a', c', ca, cc, c0, c1, c2, iC, iD⟩ := h i hi;have hi' : ∀ o q, W.cell? ⟨X, o, none⟩ ≠ some (.int .i64 q) := fun o q hq => by rcases hx o _ hq with h | h <;> cases h
 have hne : b ≠ X := fun e2 => by subst e2; rcases hx _ _ c0 with h | h <;> cases h
 have hb := block_lt c0;refine ⟨b, off, e, a', c', ca, cc, ?_, ?_, ?_, iC.past hi' t, iD.past hi' t⟩
 ·simp only [World.cell?] at c0 ⊢; rw [t.block b hb hne]; exact c0
 ·simp only [World.cell?] at c1 ⊢; rw [t.block b hb hne]; exact c1
 simp only [World.cell?] at c2 ⊢; rw [t.block b hb hne]; exact c2
theorem JV.past (j : JV w v n xs fs W) (hX : w.heap.size <= X) (hx : ∀ o q, W.cell? ⟨X, o, none⟩ ≠ some (.int .i64 q)) (ne : v.ownBlock ≠ some X) (t : Touch (fun z => z = X) W W') : JV w v n xs fs W' := by
 obtain ⟨G, hG, ht⟩ := j.t;refine ⟨j.b.trans (t.below j.b.size (fun k hk => by omega)), ⟨j.o.1, ?_⟩, ⟨G, hG, fun i hi => ?_⟩, j.l⟩
 ·rcases j.o.2 with h2 | ⟨g, cap, cur, hv, hg, hh, r⟩
  ·exact Or.inl h2
  refine Or.inr ⟨g, cap, cur, hv, hg, ?_, r⟩;have hne : g ≠ X := fun e => ne (by rw [hv, e]; rfl);rw [t.block g (lt_of_block hh) hne]; exact hh
 obtain ⟨a', c', ca, cc, e0, e1, e2, i1, i2, n1, n2⟩ := ht i hi
 exact ⟨a', c', ca, cc, e0, e1, e2, i1.past hx t, i2.past hx t, n1, n2⟩
theorem Cel.four {B : Nat} {x y z u : Value} (h : Cel w B [x, y, z, u] t) : w.cell? ⟨B, 0, none⟩ = some x /\ w.cell? ⟨B, 1, none⟩ = some y /\ w.cell? ⟨B, 2, none⟩ = some z /\ w.cell? ⟨B, 3, none⟩ = some u := ⟨h.cell 0, h.cell 1, h.cell 2, h.cell 3⟩
theorem boxNo {a' a'' : Option Addr} {n' n'' c c' c'' : Nat} {bb : Bool} (h : Cel W X [.slice a n c, .slice a' n' c', .slice a'' n'' c'', .bool bb] t) : ∀ o q, W.cell? ⟨X, o, none⟩ ≠ some (.int .i64 q) := fun o q e => by
 have := h.cell o;rw [e] at this
 match o with
 | 0 => simp at this
 | 1 => simp at this
 | 2 => simp at this
 | 3 => simp at this
 | o + 4 => simp at this
theorem boxNil (h : Cel W X [.slice none 0 0, .slice none 0 0, .slice none 0 0, .bool false] t) : ∀ o v, W.cell? ⟨X, o, none⟩ = some v -> v = .slice none 0 0 \/ v = .bool false := fun o v e => by
 have := h.cell o;rw [e] at this
 match o with
 | 0 => simp at this; exact Or.inl this
 | 1 => simp at this; exact Or.inl this
 | 2 => simp at this; exact Or.inl this
 | 3 => simp at this; exact Or.inr this
 | o + 4 => simp at this
theorem pot_bnd {k : Nat} (hk : k < 3) : bndT 1000000000000000000 (-1) (([0, 0, 0] : List Int).set k 1) := fun i => by
 match k, hk, i with
 | 0, _, 0 => simp
 | 0, _, 1 => simp
 | 0, _, 2 => simp
 | 0, _, i + 3 => simp
 | 1, _, 0 => simp
 | 1, _, 1 => simp
 | 1, _, 2 => simp
 | 1, _, i + 3 => simp
 | 2, _, 0 => simp
 | 2, _, 1 => simp
 | 2, _, 2 => simp
 | 2, _, i + 3 => simp
theorem pot_bnd2 : bndT 1000000000000000000 (-1) ([0, 0] : List Int) := fun i => by
 match i with
 | 0 => simp
 | 1 => simp
 | i + 2 => simp
theorem srowend_any (y : Way) {pa : Option Addr} {cp : Nat} {ga : Option Addr} {ng gc : Nat} {ta : Option Addr} {nt tc : Nat} {w : World} (hp : y.pots.length = 3) (hg : y.guards.length = ng) (ht : y.tells.length = nt)
  (hP : FormsAt w pa y.pots) (hG : FormsAt w ga y.guards) (hT : FormsAt w ta y.tells) (fp : ∀ k, k < 3 -> fitX 10000000 (y.pots[k]?.getD noX)) (fg : ∀ k, k < ng -> fitX 10000000 (y.guards[k]?.getD ([], [], 0))) (ft : ∀ k, k < nt -> fitX 10000000 (y.tells[k]?.getD ([], [], 0))) (hg1 : ng <= 1048576) (ht1 : nt <= 1048576) :
  Calls Tryz.prog 133 #[.slice pa 3 cp, .slice ga ng gc, .slice ta nt tc] w fun e w' => ∃ v, e = .returned v /\ Below w.heap.size w w' /\ RowXO w' w.heap.size v (endW y) := by
 have HPL : Hid (y.pots.length = 3) := hp;have HGL : Hid (y.guards.length = ng) := hg;have HTL : Hid (y.tells.length = nt) := ht;have HP : Hid (FormsAt w pa y.pots) := hP;have HFP : Hid _ := fp;have HFG : Hid _ := fg;have HFT : Hid _ := ft;clear hp hg ht fp fg ft hP;obtain ⟨i0, hi, hz0, hz1, hz2⟩ := info_parts Tryz.infoForm;have B0 : Below w.heap.size w (w.alloc (.cells #[.slice none 0 0, .slice none 0 0, .slice none 0 0, .bool false] 113)) := bal;have r0 := Cel.new w [.slice none 0 0, .slice none 0 0, .slice none 0 0, .bool false] 113
 go_enter Tryz.func133, Tryz.ntmps133
 go_wp2_with fail
 refine (scopy_any y.guards HGL.out (hG.keep B0) HFG.out hg1).mono ?_;rintro e w1 ⟨G1, cp1, xs1, rfl, j1⟩;have B1 := btr B0 j1.b;have r1 := r0.below j1.b;have g1 := j1.foff HGL.out;have o1 := j1.fown;have q1 := j1.lt;rw [qB] at g1 o1 q1;clear r0 B0 j1
 go_wp2_with fail
 refine (scopy_any y.tells HTL.out (hT.keep B1) HFT.out ht1).mono ?_;rintro e w2 ⟨G2, cp2, xs2, rfl, j2⟩;have B2 := btr B1 j2.b;have r2 := r1.below j2.b;have g2 := g1.below j2.b;have o2 := o1.below j2.b;have p2 := j2.fown;have q2 := j2.lt;have s12 := j2.b.size;have t2 := j2.foff HTL.out;have z12 := r1.lt;clear r1 B1 j2 g1 o1
 go_wp2_with fail
 have lX := r2.lt;have x0 := Cel.new w2 [.slice (some ⟨G1, 0, none⟩) ng cp1, .slice none 0 0, .slice (some ⟨G2, 0, none⟩) nt cp2, .bool false] 113;have j0 : JV w2 (.slice none 0 0) 0 [] (endW y).adds (w2.alloc (.cells #[.slice (some ⟨G1, 0, none⟩) ng cp1, .slice none 0 0, .slice (some ⟨G2, 0, none⟩) nt cp2, .bool false] 113)) := (JV.nil w2 _).below (bal)
 go_loopw [8] (fun i wr => ∃ (k : Nat) (v : Value) (xs : List Value), k <= 3 /\ i = .int .i64 k /\ Cel wr w2.heap.size [.slice (some ⟨G1, 0, none⟩) ng cp1, v, .slice (some ⟨G2, 0, none⟩) nt cp2, .bool false] 113 /\ JV w2 v k xs (endW y).adds wr /\ v.ownBlock ≠ some w2.heap.size) (fun i _ => 3 - (intOf i).toNat)
 case atStart => exact ⟨0, _, [], by omega, rfl, x0, j0, by intro h; cases h⟩
 case round =>
  clear x0 j0;obtain ⟨k, v, xs, hk, rfl, xr, j, hne⟩ := hrel
  by_cases hlt : k < 3
  ·obtain ⟨b, off, rfl, a', c', ca, cc, c0, c1, c2, iC, iD⟩ := HP.out k (by rw [HPL.out]; exact hlt);have hfit : fitX 10000000 (y.pots[k]?.getD ([], [], 0)) := HFP.out k hlt;generalize HG : y.pots[k]?.getD ([], [], 0) = f at *
   have HT : Hid ((endW y).adds[k]?.getD ([], [], 0) = lessX f k) := by
    show _ = _
    rw [show (endW y).adds = (List.range 3).map (fun v => lessX (y.pots[v]?.getD noX) v) from rfl, List.getElem?_map, List.getElem?_range hlt]
    show lessX (y.pots[k]?.getD noX) k = _
    rw [show y.pots[k]?.getD noX = f from HG]
   clear HG;obtain ⟨fC, fD, fK⟩ := f;obtain ⟨lC, lD, bC, bD, q1, q2⟩ := hfit;simp only at c2 iC iD lC lD bC bD q1 q2;obtain ⟨va, vc, rfl⟩ := j.isSlice
   have keep : ∀ W : World, Below w.heap.size w W -> (W.cell? ⟨b, off + k * 3, none⟩ = some (.slice a' 3 ca) /\ W.cell? ⟨b, off + k * 3 + 1, none⟩ = some (.slice c' 2 cc) /\ W.cell? ⟨b, off + k * 3 + 2, none⟩ = some (.int .i64 fK)) := fun W hW =>
    ⟨by rw [hW.cell (p := ⟨b, off + k * 3, none⟩) (block_lt c0)]; exact c0, by rw [hW.cell (p := ⟨b, off + k * 3 + 1, none⟩) (block_lt c1)]; exact c1, by rw [hW.cell (p := ⟨b, off + k * 3 + 2, none⟩) (block_lt c2)]; exact c2⟩
   have KP : Hid (∀ W : World, Below w2.heap.size w2 W -> _) := fun W hW => keep W (btr B2 hW);clear keep c0 c1 c2;have xd : Cel wr.drew w2.heap.size [.slice (some ⟨G1, 0, none⟩) ng cp1, .slice va k vc, .slice (some ⟨G2, 0, none⟩) nt cp2, .bool false] 113 := xr;have hSS := And.intro (KP.out _ j.b.drew) (xd.cell 1);simp only [qC, qD] at hSS;have bw : ∀ W, Below wr.heap.size wr W -> Below w.heap.size w W := fun W hW => B2.trans ((j.b.trans (hW.mono j.b.size)).mono B2.size);have lx := xr.lt;have hlt' : (k : Int) < 3 := by omega
   go_upto_region 5 with fail
   refine wp_region_ends (fun w' => w'.cell? ⟨b, off + k * 3, none⟩ = some (.slice a' 3 ca) /\ w'.cell? ⟨b, off + k * 3 + 1, none⟩ = some (.slice c' 2 cc) /\ w'.cell? ⟨b, off + k * 3 + 2, none⟩ = some (.int .i64 fK)) (fun w' => w'.cell? ⟨w2.heap.size, 1, none⟩ = some (.slice va k vc)) 11 (by kernel_rfl) ?_;refine tkl 0 rfl hSS ?_;refine wpAnyE_take1 (i := 1) (v := ?v1) rfl rfl (by kernel_rfl) (by kernel_rfl) (by kernel_rfl) (by decide) (by rfl) (by simp [Region.binds]) (fun _ _ _ h => h) (Or.inl ⟨by rfl, ?hy1⟩) hSS ?_
   case hy1 => (intro wz hSw; (try dsimp only at hSw); go_simp; try (with_reducible rfl))
   refine tkl 2 rfl hSS ?_;refine tkl 3 rfl hSS ?_;refine tkl 4 rfl hSS ?_;refine tkl 5 rfl hSS ?_;refine tkl 6 rfl hSS ?_;refine wo1 7 rfl fun K hK => ?_;go_simp;refine (spot_any _ _).mono ?_;rintro ee w3 ⟨za, zn, zcap, zc, zm, zcap', Z1, Z2, rfl, L1, L2, b3, o1, o2, -, -, -⟩;rw [potC_in (k : Int) k rfl] at L1 o1;rw [potD_in (k : Int)] at L2 o2;obtain rfl : zn = 3 := by rw [<- L1]; simp
   obtain rfl : zm = 2 := by rw [<- L2]; simp
   have z1 := o1.ints;have z2 := o2.ints;rw [L1] at z1;rw [L2] at z2;have b3' := below_of_drew b3;have j3 := j.below b3';have x3 := xr.below b3';have i1 := iC.below (bw _ b3');have i2 := iD.below (bw _ b3');have hS3 := And.intro (KP.out _ j3.b) (x3.cell 1);simp only [qC, qD] at hS3;dsimp only;refine hK.out _ _ ⟨hS3.1, fun _ => hS3.2⟩ ?_;have s3 := b3'.size;clear hK K hSS hS3 j o1 o2 b3 b3' L1 L2 iC iD bw xd xr;refine wo1 8 rfl fun K hK => ?_;go_simp;refine (l1sum_any fC fD _ _ i1 i2 z1 z2 (fun i => by have := bC i; omega) (fun i => by have := bD i; omega) (by omega) (pot_bnd hlt) pot_bnd2 (by omega)).mono ?_;rintro ee w4 ⟨D1, D2, rfl, b4, g1, g3, g4, u1, u2⟩;have e0 : fK + -1 * (0 : Int) = fK := by omega
   rw [e0];have hs3 := j3.b.size;have j4 := j3.below b4;have x4 := x3.below b4;have hS4 := And.intro (KP.out _ j4.b) (x4.cell 1);simp only [qC, qD] at hS4;have m1 : (Value.slice va k vc).ownBlock ≠ some D1 := fun e => by have := (j3.own e).2; omega
   have m2 : (Value.slice va k vc).ownBlock ≠ some D2 := fun e => by have := (j3.own e).2; omega
   have s4 := b4.size;dsimp only;refine hK.out _ _ ⟨hS4.1, fun _ => hS4.2⟩ ?_;clear hK K hS4 b4 z1 z2 i1 i2 j3 x3;refine wo1 9 rfl fun K hK => ?_;go_simp;have A5 : Below w4.heap.size w4 (w4.alloc (.cells #[.slice (some ⟨D1, 0, none⟩) 3 3, .slice (some ⟨D2, 0, none⟩) 2 2, .int .i64 fK] 106)) := bal;have j5 := j4.below A5;have x5 := x4.below A5;have hs5 := j5.b.size;have v1 := u1.below A5;have v2 := u2.below A5;have hS5 := And.intro (KP.out _ j5.b) (x5.cell 1);simp only [qC, qD] at hS5;refine hK.out _ _ ⟨hS5.1, fun _ => hS5.2⟩ ?_;clear hK K hS5 A5 j4 x4 u1 u2;refine wo1 10 rfl fun K hK => ?_;rw [if_pos (by rfl)];refine wp_append_lies _ (.tmp 19) (.tmp 27) 111 rfl w2.heap.size 106 i0 _ 3 56 Tryz.underlying111 hi hz0 hz1 hz2 rfl (by omega) (.slice va k vc) k xs (by rfl) j5.o ⟨w4.heap.size, 0, none⟩ 1 1 [Value.slice (some ⟨D1, 0, none⟩) 3 3, Value.slice (some ⟨D2, 0, none⟩) 2 2, Value.int .i64 fK] (by rfl) (by rfl) (World.news_of_block (cs := #[Value.slice (some ⟨D1, 0, none⟩) 3 3, Value.slice (some ⟨D2, 0, none⟩) 2 2, Value.int .i64 fK]) (t := 106) (fr := (0, 0)) (heap_alloc_new w4 _)) (by simp [Value.oneCell']) (by omega) (by unfold maxLen; omega) (by omega) hs5 (w4.heap.size + 1) (by rw [qB]) ?_;intro g cp6 w6 hown hgrow hat hlt6
   have j6 := j5.app hown hgrow hat (by rw [qB]) (v1.ints' (lin_len lC (by simp))) (v2.ints' (lin_len lD rfl)) m1 m2 (by omega) (by omega) (by rw [HT.out]; show (lin fC _ (-1), lin fD _ (-1), fK + -1 * 0) = _; rw [e0]);have x6 := x5.grew hgrow hne
   have ne6 : some g ≠ some w2.heap.size := fun e => by
    rcases hat with h | h
    ·exact hne (h.trans e)
    simp only [qA] at e; omega
   have hS6 := And.intro (KP.out _ j6.b) (x6.cell 1);simp only [qC, qD] at hS6;refine hK.out _ _ ⟨hS6.1, fun _ => hS6.2⟩ ?_;have f6 := x6.free 1;clear hK K hown hgrow hat j5 x5 v1 v2 m1 m2;refine wo1 11 rfl fun K hK => ?_;go_simp;refine hK.out _ _ ⟨hS6.1, fun h => absurd (show true = false from h) (by decide)⟩ ?_;have T7 : Touch (fun z => z = w2.heap.size) w6 (w6.setCell ⟨w2.heap.size, 1, none⟩ (.slice (some ⟨g, 0, none⟩) (k + 1) cp6)) := Touch.setCell (S := fun z => z = w2.heap.size) (Touch.refl _ _) rfl _;have j7 := j6.past (qE _) (boxNo x6) ne6 T7;have x7 := x6.set 1 (.slice (some ⟨g, 0, none⟩) (k + 1) cp6);have c61 := hS6.2;refine wo1 12 rfl fun K hK => ?_;go_simp;refine hK.out _ _ ⟨KP.out _ j7.b, fun h => absurd (show true = false from h) (by decide)⟩ ?_;refine wod ?_ _;clear j6 x6 T7 hS6 f6 c61
   go_wp2
   go_roundw
   case rel => exact ⟨k + 1, _, _, by omega, by go_num, x7, j7, ne6⟩
   case measure => simp [intOf]; omega
  obtain rfl : k = 3 := by omega
  obtain ⟨aa, ac, rfl, hA⟩ := j.foff rfl;obtain ⟨d0, d1, d2, d3⟩ := xr.four;have r6 := r2.below j.b;obtain ⟨e0, e1, e2, e3⟩ := r6.four;have f0 := r6.free 0;have f1 := r6.free 1;have f2 := r6.free 2;have f3 := r6.free 3;have bb := btr B2 j.b;have gA := g2.below j.b;have oA := o2.below j.b;have pA := p2.below j.b;have vA := j.fown
  have hIA : ∀ k, InB aa k -> w2.heap.size < k := fun k hk => by
   obtain ⟨o, s, e⟩ := hk;have h1 : (Value.slice aa 3 ac).ownBlock = some k := by rw [e]; rfl
   have h2 := (j.own h1).1;have h3 : k ≠ w2.heap.size := fun e2 => hne (by rw [h1, e2])
   omega
  have hIG : ∀ k, InB (some ⟨G1, 0, none⟩) k -> k = G1 := fun k hk => by
   obtain ⟨o, s, e⟩ := hk;simp only [qA, Addr.mk.injEq] at e
   exact e.1.symm
  have hIT : ∀ k, InB (some ⟨G2, 0, none⟩) k -> k = G2 := fun k hk => by
   obtain ⟨o, s, e⟩ := hk;simp only [qA, Addr.mk.injEq] at e
   exact e.1.symm
  have tA := t2.below j.b
  go_wp2
  have T6 : Touch (fun z => z = w.heap.size) wr ((((wr.setCell ⟨w.heap.size, 0, none⟩ (.slice (some ⟨G1, 0, none⟩) ng cp1)).setCell ⟨w.heap.size, 1, none⟩ (.slice aa 3 ac)).setCell ⟨w.heap.size, 2, none⟩ (.slice (some ⟨G2, 0, none⟩) nt cp2)).setCell ⟨w.heap.size, 3, none⟩ (.bool false)) :=
   Touch.setCell (Touch.setCell (Touch.setCell (Touch.setCell (S := fun z => z = w.heap.size) (Touch.refl _ _) rfl _) rfl _) rfl _) rfl _
  refine bodyPost_ret (v := .agg #[.slice (some ⟨G1, 0, none⟩) ng cp1, .slice aa 3 ac, .slice (some ⟨G2, 0, none⟩) nt cp2, .bool false]) (by simp [results, Tryz.results133, go_sem, e0, e1, e2, e3]) rfl ?_;refine ⟨_, rfl, ?_, some ⟨G1, 0, none⟩, cp1, aa, ac, some ⟨G2, 0, none⟩, cp2, ?_, (gA.touch (T6.mono (fun k hk => by omega))).mono (fun k hk => by omega), (hA.touch (T6.mono (fun k hk => by omega))).mono (fun k hk => by omega), (tA.touch (T6.mono (fun k hk => by omega))).mono (fun k hk => by omega), ?_⟩
  ·exact bb.trans (T6.below bb.size (fun k hk => by omega))
  ·show _ = Value.agg #[.slice _ y.guards.length _, .slice _ 3 _, .slice _ y.tells.length _, .bool false]
   rw [HGL.out, HTL.out]
  have eG : (endW y).guards.length = ng := HGL.out;have eT : (endW y).tells.length = nt := HTL.out;have eA : (endW y).adds.length = 3 := rfl;refine ⟨?_, ?_, ?_⟩
  ·rw [eG];refine (oA.touch (T6.mono (fun k hk => by omega))).mono (fun k hk => ?_)
   rcases hk with hk | hk | hk
   ·omega
   ·have := hIA k hk; omega
   have := hIT k hk; omega
  ·rw [eA];refine (vA.touch (T6.mono (fun k hk => by omega))).mono (fun k hk => ?_)
   rcases hk with hk | hk | hk
   ·omega
   ·have := hIG k hk; omega
   have := hIT k hk; omega
  rw [eT];refine (pA.touch (T6.mono (fun k hk => by omega))).mono (fun k hk => ?_)
  rcases hk with hk | hk | hk
  ·omega
  ·have := hIG k hk; omega
  have := hIA k hk; omega
end Go.Proofs.YtfmpcihghlnlnaaGreatDoor
