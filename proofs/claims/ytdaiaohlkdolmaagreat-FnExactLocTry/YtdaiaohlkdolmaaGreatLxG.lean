/-
  Lemmas that the claim's last text rests on.
-/
import Derived.Test.YtdaiaohlkdolmaaGreatLxF
namespace Go.Proofs.YtdaiaohlkdolmaaGreat
open Go.RowKit Go.Deep
open Option.some renaming injEq → qA
open Addr.mk renaming injEq → qB
open World renaming size_alloc → qC
open List renaming getElem?_cons_zero → qD, getElem?_cons_succ → qE, getElem?_set_ne → qF, length_append → qG, getElem?_append_right → qH, getElem?_append_left → qI, getElem?_set_self → qJ
set_option linter.unusedVariables false
set_option maxRecDepth 100000
set_option maxHeartbeats 25600000
variable {B G X cap g i n : Nat} {S S' : Nat -> Prop} {W W' w : World} {a : Option Addr} {fs : List Frm} {ls : List LV} {rs ss : List RowM} {t : TypeId} {v : Value} {xs ys : List Value} {zs : List Int}
theorem grown_none (h : W.grownBy W' none) {G : Nat} : W.grownBy W' (some G) :=
 ⟨h.os, h.tape, h.output, h.size, fun k hk _ => h.block k hk (by simp)⟩
theorem Cel.grew {vs : List Value} {row : Option Nat} (h : Cel W B vs t) (hg : W.grownBy W' row) (hne : row ≠ some B) : Cel W' B vs t := by
 have hl := h.lt;unfold Cel at *;rw [hg.block B hl (fun e => hne e.symm)]; exact h
structure JV (w : World) (v : Value) (n : Nat) (xs : List Value) (fs : List Frm) (W : World) : Prop where
 b : Below w.heap.size w W
 o : W.ownsRow w.heap.size 81 3 v n xs
 t : ∃ G, (v.ownBlock = some G \/ (v.ownBlock = none /\ n = 0)) /\ TermsOk W G xs fs n
 l : Lo w.heap.size xs
theorem JV.nil (w : World) (fs : List Frm) : JV w (.slice none 0 0) 0 [] fs w := ⟨Below.refl _ _, World.ownsRow_nil w _ _ _, ⟨0, Or.inr ⟨rfl, rfl⟩, fun j hj => by omega⟩, Lo.nil _⟩
theorem JV.below (j : JV w v n xs fs W) (h : Below W.heap.size W W') : JV w v n xs fs W' := by
 obtain ⟨G, hG, ht⟩ := j.t
 exact ⟨j.b.trans (h.mono j.b.size), own_below j.o h, ⟨G, hG, ht.below h⟩, j.l⟩
theorem JV.own (j : JV w v n xs fs W) {G : Nat} (h : v.ownBlock = some G) : w.heap.size <= G /\ G < W.heap.size := by
 rcases j.o.2 with ⟨e, _⟩ | ⟨g, cap', cur, e, hg, hh, _⟩
 ·rw [e] at h; cases h
 rw [e] at h;have : some g = some G := h;simp only [qA] at this;subst this
 exact ⟨hg, lt_of_block hh⟩
theorem JV.isSlice (j : JV w v n xs fs W) : ∃ a c, v = .slice a n c := by
 rcases j.o.2 with ⟨e, h0⟩ | ⟨g, cap', cur, e, _⟩
 ·subst h0; exact ⟨_, _, e⟩
 exact ⟨_, _, e⟩
theorem JV.slice (j : JV w v n xs fs W) (hn : fs.length = n) : ∃ a cap, v = .slice a n cap /\ FormsAt W a fs := by
 obtain ⟨G, hG, ht⟩ := j.t
 rcases j.o.2 with ⟨e, h0⟩ | ⟨g, cap', cur, e, hg, hh, _⟩
 ·subst h0
  exact ⟨none, 0, e, fun i hi => by omega⟩
 have o := j.o;rw [e] at o
 rcases hG with hG | ⟨_, h0⟩
 ·rw [e] at hG;have : some g = some G := hG;simp only [qA] at this;subst this
  exact ⟨_, cap', e, ht.forms hn o⟩
 subst h0
 exact ⟨_, cap', e, fun i hi => by omega⟩
theorem JV.app {B1 B2 ca cc : Nat} {C D : List Int} {K : Int} (j : JV w v n xs fs W) (hown : W'.ownsRow w.heap.size 81 3 (.slice (some ⟨g, 0, none⟩) (n + 1) cap) (n + 1) (xs ++ [.slice (some ⟨B1, 0, none⟩) 3 ca, .slice (some ⟨B2, 0, none⟩) 2 cc, .int .i64 K])) (hgrow : W.grownBy W' v.ownBlock) {H : Nat} (hat : v.ownBlock = some g \/ g = H) (hH : W.heap.size = H)
  (k1 : Ints W (some ⟨B1, 0, none⟩) 3 C) (k2 : Ints W (some ⟨B2, 0, none⟩) 2 D) (n1 : v.ownBlock ≠ some B1) (n2 : v.ownBlock ≠ some B2) (p1 : w.heap.size <= B1) (p2 : w.heap.size <= B2) (hT : fs[n]?.getD ([], [], 0) = (C, D, K)) :
  JV w (.slice (some ⟨g, 0, none⟩) (n + 1) cap) (n + 1) (xs ++ [.slice (some ⟨B1, 0, none⟩) 3 ca, .slice (some ⟨B2, 0, none⟩) 2 cc, .int .i64 K]) fs W' := by
 have hb : Below w.heap.size w W' := j.b.grown hgrow j.b.size (fun z hz => (j.own hz).1);have l1 := k1.blt (by omega) B1 0 rfl;have l2 := k2.blt (by omega) B2 0 rfl;obtain ⟨G, hG, ht⟩ := j.t;refine ⟨hb, hown, ⟨g, Or.inl rfl, ?_⟩, j.l.app p1 p2⟩
 rcases hG with hG | ⟨hG, h0⟩
 ·rw [hG] at hgrow hat n1 n2;refine ht.step j.o.1 hgrow ?_ k1 k2 (fun e => n1 (by rw [e])) (fun e => n2 (by rw [e])) hT
  rcases hat with h | h
  ·simp only [qA] at h; exact Or.inl h.symm
  exact Or.inr (by omega)
 rw [hG] at hgrow hat;have ht' : TermsOk W (W.heap.size + 1) xs fs n := fun j hj => by omega
 refine ht'.step j.o.1 (grown_none hgrow) ?_ k1 k2 (by omega) (by omega) hT
 rcases hat with h | h
 ·cases h
 exact Or.inr (by omega)
def FOff (W : World) (S : Nat -> Prop) (a : Option Addr) (fs : List Frm) : Prop := ∀ W', Touch S W W' -> FormsAt W' a fs
theorem FOff.at (h : FOff W S a fs) : FormsAt W a fs := h W (Touch.refl _ _)
theorem FOff.touch (h : FOff W S a fs) (t : Touch S W W') : FOff W' S a fs := fun W'' t' => h W'' (t.trans t')
theorem FOff.below (h : FOff W S a fs) (b : Below W.heap.size W W') : FOff W' S a fs := h.touch (Touch.of b)
theorem FOff.mono (h : FOff W S a fs) (hs : ∀ k, S' k -> S k) : FOff W S' a fs := fun W' t => h W' (t.mono hs)
theorem FOff.fresh (h : FOff W S a fs) (o : Obj) : FOff (W.alloc o) (fun k => S k \/ k = W.heap.size) a fs := fun W' t => by
 have b : Below W.heap.size W (W.alloc o) := bal;refine h W' ⟨t.os.trans b.os, t.tape.trans b.tape, t.output.trans b.output, Nat.le_trans b.size t.size, fun k hk hn => ?_⟩
 rw [t.block k (Nat.lt_of_lt_of_le hk b.size) (fun e => by
  rcases e with e | e
  ·exact hn e
  omega)]
 exact b.block k hk
theorem JF.foff (j : JF w G cap n xs fs W) (hn : fs.length = n) : FOff W (fun k => k < w.heap.size) (some ⟨G, 0, none⟩) fs := fun W' t => j.off hn (fun k h => h) t
theorem JV.foff (j : JV w v n xs fs W) (hn : fs.length = n) : ∃ a cap, v = .slice a n cap /\ FOff W (fun k => k < w.heap.size) a fs := by
 obtain ⟨a, cap, hv⟩ := j.isSlice;refine ⟨a, cap, hv, fun W' t => ?_⟩;obtain ⟨G, hG, ht⟩ := j.t;have o' := own_off j.o (fun g hg hs => by have := (j.own hg).1; omega) t;have b' : Below w.heap.size W W' -> True := fun _ => trivial;have t' := ht.off j.l (fun k h => h) t
 rcases o'.2 with ⟨e, h0⟩ | ⟨g, cap', cur, e, _⟩
 ·subst h0;intro i hi
  omega
 have o := o';rw [e] at o hv;simp only [Value.slice.injEq, true_and] at hv;obtain ⟨rfl, rfl⟩ := hv
 rcases hG with hG | ⟨hG, _⟩
 ·rw [e] at hG;have : some g = some G := hG;simp only [qA] at this;subst this
  exact t'.forms hn o
 rw [e] at hG; cases hG
theorem own_zero {b : Nat} {e : TypeId} {s : Nat} (h : W.ownsRow b e s v n xs) : W.ownsRow 0 e s v n xs := ⟨h.1, by
 rcases h.2 with h2 | ⟨g, cap, cur, hv, hg, r⟩
 ·exact Or.inl h2
 exact Or.inr ⟨g, cap, cur, hv, Nat.zero_le _, r⟩⟩
def FOwn (W : World) (S : Nat -> Prop) (v : Value) (n : Nat) (fs : List Frm) : Prop := ∃ xs, ∀ W', Touch S W W' -> W'.ownsRow 0 81 3 v n xs /\ ∃ G, (v.ownBlock = some G \/ (v.ownBlock = none /\ n = 0)) /\ TermsOk W' G xs fs n
theorem FOwn.touch (h : FOwn W S v n fs) (t : Touch S W W') : FOwn W' S v n fs := by
 obtain ⟨xs, h⟩ := h
 exact ⟨xs, fun W'' t' => h W'' (t.trans t')⟩
theorem FOwn.below (h : FOwn W S v n fs) (b : Below W.heap.size W W') : FOwn W' S v n fs := h.touch (Touch.of b)
theorem FOwn.mono (h : FOwn W S v n fs) (hs : ∀ k, S' k -> S k) : FOwn W S' v n fs := by
 obtain ⟨xs, h⟩ := h
 exact ⟨xs, fun W' t => h W' (t.mono hs)⟩
theorem FOwn.fresh {T : Nat -> Prop} (h : FOwn W (fun k => S k \/ T k) v n fs) (o : Obj) : FOwn (W.alloc o) (fun k => (S k \/ k = W.heap.size) \/ T k) v n fs := by
 obtain ⟨xs, h⟩ := h;have b : Below W.heap.size W (W.alloc o) := bal;refine ⟨xs, fun W' t => h W' ⟨t.os.trans b.os, t.tape.trans b.tape, t.output.trans b.output, Nat.le_trans b.size t.size, fun k hk hn => ?_⟩⟩
 rw [t.block k (Nat.lt_of_lt_of_le hk b.size) (fun e => by
  rcases e with (e | e) | e
  ·exact hn (Or.inl e)
  ·omega
  exact hn (Or.inr e))]
 exact b.block k hk
theorem FOwn.none : FOwn W S (.slice Option.none 0 0) 0 fs := ⟨[], fun W' t => ⟨World.ownsRow_nil W' 0 _ _, 0, Or.inr ⟨rfl, rfl⟩, fun j hj => by omega⟩⟩
theorem FOwn.above (h : FOwn W S v n fs) : FOwn W (fun k => S k \/ W.heap.size <= k) v n fs := by
 obtain ⟨xs, h⟩ := h
 exact ⟨xs, fun W' t => h W' ⟨t.os, t.tape, t.output, t.size, fun k hk hn => t.block k hk (fun e => by
  rcases e with e | e
  ·exact hn e
  omega)⟩⟩
theorem JF.fown (j : JF w G cap n xs fs W) : FOwn W (fun k => k < w.heap.size \/ W.heap.size <= k) (.slice (some ⟨G, 0, Option.none⟩) n cap) n fs := by
 have hG := j.lt
 exact FOwn.above ⟨xs, fun W' t => ⟨own_zero (own_off j.o (fun g hg hs => by
  have : some G = some g := hg;simp only [qA] at this
  omega) t), G, Or.inl rfl, j.t.off j.l (fun k h => h) t⟩⟩
theorem JV.fown (j : JV w v n xs fs W) : FOwn W (fun k => k < w.heap.size \/ W.heap.size <= k) v n fs := by
 obtain ⟨G, hG, ht⟩ := j.t
 exact FOwn.above ⟨xs, fun W' t => ⟨own_zero (own_off j.o (fun g hg hs => by have := (j.own hg).1; omega) t), G, hG, ht.off j.l (fun k h => h) t⟩⟩
def InB (a : Option Addr) (k : Nat) : Prop := ∃ o s, a = some ⟨k, o, s⟩
def RowOwn (W : World) (S : Nat -> Prop) (ga : Option Addr) (gc : Nat) (aa : Option Addr) (ac : Nat) (ta : Option Addr) (tc : Nat) (r : RowM) : Prop :=
 FOwn W (fun k => S k \/ (InB aa k \/ InB ta k)) (.slice ga r.guards.length gc) r.guards.length r.guards /\ FOwn W (fun k => S k \/ (InB ga k \/ InB ta k)) (.slice aa r.adds.length ac) r.adds.length r.adds /\ FOwn W (fun k => S k \/ (InB ga k \/ InB aa k)) (.slice ta r.tells.length tc) r.tells.length r.tells
def RowX (W : World) (B : Nat) (v : Value) (r : RowM) : Prop :=
 ∃ ga gc aa ac ta tc, v = .agg #[.slice ga r.guards.length gc, .slice aa r.adds.length ac, .slice ta r.tells.length tc, .bool r.stop] /\ FOff W (fun k => k < B) ga r.guards /\ FOff W (fun k => k < B) aa r.adds /\ FOff W (fun k => k < B) ta r.tells
def RowXO (W : World) (B : Nat) (v : Value) (r : RowM) : Prop :=
 ∃ ga gc aa ac ta tc, v = .agg #[.slice ga r.guards.length gc, .slice aa r.adds.length ac, .slice ta r.tells.length tc, .bool r.stop] /\ FOff W (fun k => k < B) ga r.guards /\ FOff W (fun k => k < B) aa r.adds /\ FOff W (fun k => k < B) ta r.tells /\ RowOwn W (fun k => k < B) ga gc aa ac ta tc r
theorem FormsAt.keep (h : FormsAt W a fs) (hb : Below W.heap.size W W') : FormsAt W' a fs := fun i hi => by
 obtain ⟨b, off, e, a', c', ca, cc, c0, c1, c2, iC, iD⟩ := h i hi;refine ⟨b, off, e, a', c', ca, cc, ?_, ?_, ?_, iC.below hb, iD.below hb⟩
 ·rw [hb.cell (p := ⟨b, off + i * 3, none⟩) (block_lt c0)]; exact c0
 ·rw [hb.cell (p := ⟨b, off + i * 3 + 1, none⟩) (block_lt c1)]; exact c1
 rw [hb.cell (p := ⟨b, off + i * 3 + 2, none⟩) (block_lt c2)]; exact c2
theorem Ints.past (h : Ints W a n zs) (hx : ∀ o q, W.cell? ⟨X, o, none⟩ ≠ some (.int .i64 q)) (t : Touch (fun z => z = X) W W') : Ints W' a n zs := by
 refine ⟨h.1, fun i hi => ?_⟩;obtain ⟨b, off, e, hc⟩ := h.2 i hi;refine ⟨b, off, e, ?_⟩;have hb := block_lt hc;have hne : b ≠ X := fun e2 => by subst e2; exact hx _ _ hc
 simp only [World.cell?] at hc ⊢;rw [t.block b hb hne]; exact hc
theorem FormsAt.past (h : FormsAt W a fs) (hx : ∀ o v, W.cell? ⟨X, o, none⟩ = some v -> v = .slice none 0 0 \/ v = .bool false) (t : Touch (fun z => z = X) W W') : FormsAt W' a fs := fun i hi => by
 obtain ⟨b, off, e, a', c', ca, cc, c0, c1, c2, iC, iD⟩ := h i hi;have hi' : ∀ o q, W.cell? ⟨X, o, none⟩ ≠ some (.int .i64 q) := fun o q hq => by rcases hx o _ hq with h | h <;> cases h
 have hne : b ≠ X := fun e2 => by subst e2; rcases hx _ _ c0 with h | h <;> cases h
 have hb := block_lt c0;refine ⟨b, off, e, a', c', ca, cc, ?_, ?_, ?_, iC.past hi' t, iD.past hi' t⟩
 ·simp only [World.cell?] at c0 ⊢; rw [t.block b hb hne]; exact c0
 ·simp only [World.cell?] at c1 ⊢; rw [t.block b hb hne]; exact c1
 simp only [World.cell?] at c2 ⊢; rw [t.block b hb hne]; exact c2
theorem JV.past (j : JV w v n xs fs W) (hX : w.heap.size <= X) (hx : ∀ o q, W.cell? ⟨X, o, none⟩ ≠ some (.int .i64 q)) (ne : v.ownBlock ≠ some X) (t : Touch (fun z => z = X) W W') : JV w v n xs fs W' := by
 obtain ⟨G, hG, ht⟩ := j.t;refine ⟨j.b.trans (t.below j.b.size (fun k hk => by omega)), ⟨j.o.1, ?_⟩, ⟨G, hG, fun i hi => ?_⟩, j.l⟩
 ·rcases j.o.2 with h2 | ⟨g, cap, cur, hv, hg, hh, r⟩
  ·exact Or.inl h2
  refine Or.inr ⟨g, cap, cur, hv, hg, ?_, r⟩;have hne : g ≠ X := fun e => ne (by rw [hv, e]; rfl);rw [t.block g (lt_of_block hh) hne]; exact hh
 obtain ⟨a', c', ca, cc, e0, e1, e2, i1, i2, n1, n2⟩ := ht i hi
 exact ⟨a', c', ca, cc, e0, e1, e2, i1.past hx t, i2.past hx t, n1, n2⟩
theorem Cel.four {x y z u : Value} (h : Cel w B [x, y, z, u] t) : w.cell? ⟨B, 0, none⟩ = some x /\ w.cell? ⟨B, 1, none⟩ = some y /\ w.cell? ⟨B, 2, none⟩ = some z /\ w.cell? ⟨B, 3, none⟩ = some u := ⟨h.cell 0, h.cell 1, h.cell 2, h.cell 3⟩
theorem boxNo {a' a'' : Option Addr} {n' n'' c c' c'' : Nat} {bb : Bool} (h : Cel W X [.slice a n c, .slice a' n' c', .slice a'' n'' c'', .bool bb] t) : ∀ o q, W.cell? ⟨X, o, none⟩ ≠ some (.int .i64 q) := fun o q e => by
 have := h.cell o;rw [e] at this
 match o with
 | 0 => simp at this
 | 1 => simp at this
 | 2 => simp at this
 | 3 => simp at this
 | o + 4 => simp at this
theorem boxNil (h : Cel W X [.slice none 0 0, .slice none 0 0, .slice none 0 0, .bool false] t) : ∀ o v, W.cell? ⟨X, o, none⟩ = some v -> v = .slice none 0 0 \/ v = .bool false := fun o v e => by
 have := h.cell o;rw [e] at this
 match o with
 | 0 => simp at this; exact Or.inl this
 | 1 => simp at this; exact Or.inl this
 | 2 => simp at this; exact Or.inl this
 | 3 => simp at this; exact Or.inr this
 | o + 4 => simp at this
theorem pot_bnd {k : Nat} (hk : k < 3) : bndT 1000000000000000000 (-1) (([0, 0, 0] : List Int).set k 1) := fun i => by
 match k, hk, i with
 | 0, _, 0 => simp
 | 0, _, 1 => simp
 | 0, _, 2 => simp
 | 0, _, i + 3 => simp
 | 1, _, 0 => simp
 | 1, _, 1 => simp
 | 1, _, 2 => simp
 | 1, _, i + 3 => simp
 | 2, _, 0 => simp
 | 2, _, 1 => simp
 | 2, _, 2 => simp
 | 2, _, i + 3 => simp
theorem pot_bnd2 : bndT 1000000000000000000 (-1) ([0, 0] : List Int) := fun i => by
 match i with
 | 0 => simp
 | 1 => simp
 | i + 2 => simp
theorem srowend_any (y : Way) {pa : Option Addr} {cp : Nat} {ga : Option Addr} {ng gc : Nat} {ta : Option Addr} {nt tc : Nat} {w : World} (hp : y.pots.length = 3) (hg : y.guards.length = ng) (ht : y.tells.length = nt)
  (hP : FormsAt w pa y.pots) (hG : FormsAt w ga y.guards) (hT : FormsAt w ta y.tells) (fp : ∀ k, k < 3 -> fitX 10000000 (y.pots[k]?.getD noX)) (fg : ∀ k, k < ng -> fitX 10000000 (y.guards[k]?.getD ([], [], 0))) (ft : ∀ k, k < nt -> fitX 10000000 (y.tells[k]?.getD ([], [], 0))) (hg1 : ng <= 1048576) (ht1 : nt <= 1048576) :
  Calls Tryz.prog 108 #[.slice pa 3 cp, .slice ga ng gc, .slice ta nt tc] w fun e w' => ∃ v, e = .returned v /\ Below w.heap.size w w' /\ RowXO w' w.heap.size v (endW y) := by
 have HPL : Hid (y.pots.length = 3) := hp;have HGL : Hid (y.guards.length = ng) := hg;have HTL : Hid (y.tells.length = nt) := ht;have HP : Hid (FormsAt w pa y.pots) := hP;have HFP : Hid _ := fp;have HFG : Hid _ := fg;have HFT : Hid _ := ft;clear hp hg ht fp fg ft hP;obtain ⟨i0, hi, hz0, hz1, hz2⟩ := info_parts Tryz.infoForm;have B0 : Below w.heap.size w (w.alloc (.cells #[.slice none 0 0, .slice none 0 0, .slice none 0 0, .bool false] 68)) := bal;have r0 := Cel.new w [.slice none 0 0, .slice none 0 0, .slice none 0 0, .bool false] 68
 go_enter Tryz.func108, Tryz.ntmps108
 go_wp2_with fail
 refine (scopy_any y.guards HGL.out (hG.keep B0) HFG.out hg1).mono ?_;rintro e w1 ⟨G1, cp1, xs1, rfl, j1⟩;have B1 := btr B0 j1.b;have r1 := r0.below j1.b;have g1 := j1.foff HGL.out;have o1 := j1.fown;have q1 := j1.lt;rw [qC] at g1 o1 q1;clear r0 B0 j1
 go_wp2_with fail
 refine (scopy_any y.tells HTL.out (hT.keep B1) HFT.out ht1).mono ?_;rintro e w2 ⟨G2, cp2, xs2, rfl, j2⟩;have B2 := btr B1 j2.b;have r2 := r1.below j2.b;have g2 := g1.below j2.b;have o2 := o1.below j2.b;have p2 := j2.fown;have q2 := j2.lt;have s12 := j2.b.size;have t2 := j2.foff HTL.out;have z12 := r1.lt;clear r1 B1 j2 g1 o1
 go_wp2_with fail
 have lX := r2.lt;have x0 := Cel.new w2 [.slice (some ⟨G1, 0, none⟩) ng cp1, .slice none 0 0, .slice (some ⟨G2, 0, none⟩) nt cp2, .bool false] 68;have j0 : JV w2 (.slice none 0 0) 0 [] (endW y).adds (w2.alloc (.cells #[.slice (some ⟨G1, 0, none⟩) ng cp1, .slice none 0 0, .slice (some ⟨G2, 0, none⟩) nt cp2, .bool false] 68)) := (JV.nil w2 _).below (bal)
 go_loopw [8] (fun i wr => ∃ (k : Nat) (v : Value) (xs : List Value), k <= 3 /\ i = .int .i64 k /\ Cel wr w2.heap.size [.slice (some ⟨G1, 0, none⟩) ng cp1, v, .slice (some ⟨G2, 0, none⟩) nt cp2, .bool false] 68 /\ JV w2 v k xs (endW y).adds wr /\ v.ownBlock ≠ some w2.heap.size) (fun i _ => 3 - (intOf i).toNat)
 case atStart => exact ⟨0, _, [], by omega, rfl, x0, j0, by intro h; cases h⟩
 case round =>
  clear x0 j0;obtain ⟨k, v, xs, hk, rfl, xr, j, hne⟩ := hrel
  by_cases hlt : k < 3
  ·obtain ⟨b, off, rfl, a', c', ca, cc, c0, c1, c2, iC, iD⟩ := HP.out k (by rw [HPL.out]; exact hlt);have hfit : fitX 10000000 (y.pots[k]?.getD ([], [], 0)) := HFP.out k hlt;generalize HG : y.pots[k]?.getD ([], [], 0) = f at *
   have HT : Hid ((endW y).adds[k]?.getD ([], [], 0) = lessX f k) := by
    show _ = _
    rw [show (endW y).adds = (List.range 3).map (fun v => lessX (y.pots[v]?.getD noX) v) from rfl, List.getElem?_map, List.getElem?_range hlt]
    show lessX (y.pots[k]?.getD noX) k = _
    rw [show y.pots[k]?.getD noX = f from HG]
   clear HG;obtain ⟨fC, fD, fK⟩ := f;obtain ⟨lC, lD, bC, bD, q1, q2⟩ := hfit;simp only at c2 iC iD lC lD bC bD q1 q2;obtain ⟨va, vc, rfl⟩ := j.isSlice
   have keep : ∀ W : World, Below w.heap.size w W -> (W.cell? ⟨b, off + k * 3, none⟩ = some (.slice a' 3 ca) /\ W.cell? ⟨b, off + k * 3 + 1, none⟩ = some (.slice c' 2 cc) /\ W.cell? ⟨b, off + k * 3 + 2, none⟩ = some (.int .i64 fK)) := fun W hW =>
    ⟨by rw [hW.cell (p := ⟨b, off + k * 3, none⟩) (block_lt c0)]; exact c0, by rw [hW.cell (p := ⟨b, off + k * 3 + 1, none⟩) (block_lt c1)]; exact c1, by rw [hW.cell (p := ⟨b, off + k * 3 + 2, none⟩) (block_lt c2)]; exact c2⟩
   have KP : Hid (∀ W : World, Below w2.heap.size w2 W -> _) := fun W hW => keep W (btr B2 hW);clear keep c0 c1 c2;have xd : Cel wr.drew w2.heap.size [.slice (some ⟨G1, 0, none⟩) ng cp1, .slice va k vc, .slice (some ⟨G2, 0, none⟩) nt cp2, .bool false] 68 := xr;have hSS := And.intro (KP.out _ j.b.drew) (xd.cell 1);simp only [qD, qE] at hSS;have bw : ∀ W, Below wr.heap.size wr W -> Below w.heap.size w W := fun W hW => B2.trans ((j.b.trans (hW.mono j.b.size)).mono B2.size);have lx := xr.lt;have hlt' : (k : Int) < 3 := by omega
   go_upto_region 5 with fail
   refine wp_region_ends (fun w' => w'.cell? ⟨b, off + k * 3, none⟩ = some (.slice a' 3 ca) /\ w'.cell? ⟨b, off + k * 3 + 1, none⟩ = some (.slice c' 2 cc) /\ w'.cell? ⟨b, off + k * 3 + 2, none⟩ = some (.int .i64 fK)) (fun w' => w'.cell? ⟨w2.heap.size, 1, none⟩ = some (.slice va k vc)) 11 (by kernel_rfl) ?_;refine tkl 0 rfl hSS ?_;refine wpAnyE_take1 (i := 1) (v := ?v1) rfl rfl (by kernel_rfl) (by kernel_rfl) (by kernel_rfl) (by decide) (by rfl) (by simp [Region.binds]) (fun _ _ _ h => h) (Or.inl ⟨by rfl, ?hy1⟩) hSS ?_
   case hy1 => (intro wz hSw; (try dsimp only at hSw); go_simp; try (with_reducible rfl))
   refine tkl 2 rfl hSS ?_;refine tkl 3 rfl hSS ?_;refine tkl 4 rfl hSS ?_;refine tkl 5 rfl hSS ?_;refine tkl 6 rfl hSS ?_;refine wo1 7 rfl fun K hK => ?_;go_simp;refine (spot_any _ _).mono ?_;rintro ee w3 ⟨za, zn, zcap, zc, zm, zcap', Z1, Z2, rfl, L1, L2, b3, o1, o2, -, -, -⟩;rw [potC_in (k : Int) k rfl] at L1 o1;rw [potD_in (k : Int)] at L2 o2;obtain rfl : zn = 3 := by rw [<- L1]; simp
   obtain rfl : zm = 2 := by rw [<- L2]; simp
   have z1 := o1.ints;have z2 := o2.ints;rw [L1] at z1;rw [L2] at z2;have b3' := below_of_drew b3;have j3 := j.below b3';have x3 := xr.below b3';have i1 := iC.below (bw _ b3');have i2 := iD.below (bw _ b3');have hS3 := And.intro (KP.out _ j3.b) (x3.cell 1);simp only [qD, qE] at hS3;dsimp only;refine hK.out _ _ ⟨hS3.1, fun _ => hS3.2⟩ ?_;have s3 := b3'.size;clear hK K hSS hS3 j o1 o2 b3 b3' L1 L2 iC iD bw xd xr;refine wo1 8 rfl fun K hK => ?_;go_simp;refine (l1sum_any fC fD _ _ i1 i2 z1 z2 (fun i => by have := bC i; omega) (fun i => by have := bD i; omega) (by omega) (pot_bnd hlt) pot_bnd2 (by omega)).mono ?_;rintro ee w4 ⟨D1, D2, rfl, b4, g1, g3, g4, u1, u2⟩;have e0 : fK + -1 * (0 : Int) = fK := by omega
   rw [e0];have hs3 := j3.b.size;have j4 := j3.below b4;have x4 := x3.below b4;have hS4 := And.intro (KP.out _ j4.b) (x4.cell 1);simp only [qD, qE] at hS4;have m1 : (Value.slice va k vc).ownBlock ≠ some D1 := fun e => by have := (j3.own e).2; omega
   have m2 : (Value.slice va k vc).ownBlock ≠ some D2 := fun e => by have := (j3.own e).2; omega
   have s4 := b4.size;dsimp only;refine hK.out _ _ ⟨hS4.1, fun _ => hS4.2⟩ ?_;clear hK K hS4 b4 z1 z2 i1 i2 j3 x3;refine wo1 9 rfl fun K hK => ?_;go_simp;have A5 : Below w4.heap.size w4 (w4.alloc (.cells #[.slice (some ⟨D1, 0, none⟩) 3 3, .slice (some ⟨D2, 0, none⟩) 2 2, .int .i64 fK] 81)) := bal;have j5 := j4.below A5;have x5 := x4.below A5;have hs5 := j5.b.size;have v1 := u1.below A5;have v2 := u2.below A5;have hS5 := And.intro (KP.out _ j5.b) (x5.cell 1);simp only [qD, qE] at hS5;refine hK.out _ _ ⟨hS5.1, fun _ => hS5.2⟩ ?_;clear hK K hS5 A5 j4 x4 u1 u2;refine wo1 10 rfl fun K hK => ?_;rw [if_pos (by rfl)];refine wp_append_lies _ (.tmp 19) (.tmp 27) 66 rfl w2.heap.size 81 i0 _ 3 56 Tryz.underlying66 hi hz0 hz1 hz2 rfl (by omega) (.slice va k vc) k xs (by rfl) j5.o ⟨w4.heap.size, 0, none⟩ 1 1 [Value.slice (some ⟨D1, 0, none⟩) 3 3, Value.slice (some ⟨D2, 0, none⟩) 2 2, Value.int .i64 fK] (by rfl) (by rfl) (World.news_of_block (cs := #[Value.slice (some ⟨D1, 0, none⟩) 3 3, Value.slice (some ⟨D2, 0, none⟩) 2 2, Value.int .i64 fK]) (t := 81) (fr := (0, 0)) (heap_alloc_new w4 _)) (by simp [Value.oneCell']) (by omega) (by unfold maxLen; omega) (by omega) hs5 (w4.heap.size + 1) (by rw [qC]) ?_;intro g cp6 w6 hown hgrow hat hlt6
   have j6 := j5.app hown hgrow hat (by rw [qC]) (v1.ints' (lin_len lC (by simp))) (v2.ints' (lin_len lD rfl)) m1 m2 (by omega) (by omega) (by rw [HT.out]; show (lin fC _ (-1), lin fD _ (-1), fK + -1 * 0) = _; rw [e0]);have x6 := x5.grew hgrow hne
   have ne6 : some g ≠ some w2.heap.size := fun e => by
    rcases hat with h | h
    ·exact hne (h.trans e)
    simp only [qA] at e; omega
   have hS6 := And.intro (KP.out _ j6.b) (x6.cell 1);simp only [qD, qE] at hS6;refine hK.out _ _ ⟨hS6.1, fun _ => hS6.2⟩ ?_;have f6 := x6.free 1;clear hK K hown hgrow hat j5 x5 v1 v2 m1 m2;refine wo1 11 rfl fun K hK => ?_;go_simp;refine hK.out _ _ ⟨hS6.1, fun h => absurd (show true = false from h) (by decide)⟩ ?_;have T7 : Touch (fun z => z = w2.heap.size) w6 (w6.setCell ⟨w2.heap.size, 1, none⟩ (.slice (some ⟨g, 0, none⟩) (k + 1) cp6)) := Touch.setCell (S := fun z => z = w2.heap.size) (Touch.refl _ _) rfl _;have j7 := j6.past (Nat.le_refl _) (boxNo x6) ne6 T7;have x7 := x6.set 1 (.slice (some ⟨g, 0, none⟩) (k + 1) cp6);have c61 := hS6.2;refine wo1 12 rfl fun K hK => ?_;go_simp;refine hK.out _ _ ⟨KP.out _ j7.b, fun h => absurd (show true = false from h) (by decide)⟩ ?_;refine wod ?_ _;clear j6 x6 T7 hS6 f6 c61
   go_wp2
   go_roundw
   case rel => exact ⟨k + 1, _, _, by omega, by go_num, x7, j7, ne6⟩
   case measure => simp [intOf]; omega
  obtain rfl : k = 3 := by omega
  obtain ⟨aa, ac, rfl, hA⟩ := j.foff rfl;obtain ⟨d0, d1, d2, d3⟩ := xr.four;have r6 := r2.below j.b;obtain ⟨e0, e1, e2, e3⟩ := r6.four;have f0 := r6.free 0;have f1 := r6.free 1;have f2 := r6.free 2;have f3 := r6.free 3;have bb := btr B2 j.b;have gA := g2.below j.b;have oA := o2.below j.b;have pA := p2.below j.b;have vA := j.fown
  have hIA : ∀ k, InB aa k -> w2.heap.size < k := fun k hk => by
   obtain ⟨o, s, e⟩ := hk;have h1 : (Value.slice aa 3 ac).ownBlock = some k := by rw [e]; rfl
   have h2 := (j.own h1).1;have h3 : k ≠ w2.heap.size := fun e2 => hne (by rw [h1, e2])
   omega
  have hIG : ∀ k, InB (some ⟨G1, 0, none⟩) k -> k = G1 := fun k hk => by
   obtain ⟨o, s, e⟩ := hk;simp only [qA, qB] at e
   exact e.1.symm
  have hIT : ∀ k, InB (some ⟨G2, 0, none⟩) k -> k = G2 := fun k hk => by
   obtain ⟨o, s, e⟩ := hk;simp only [qA, qB] at e
   exact e.1.symm
  have tA := t2.below j.b
  go_wp2
  have T6 : Touch (fun z => z = w.heap.size) wr ((((wr.setCell ⟨w.heap.size, 0, none⟩ (.slice (some ⟨G1, 0, none⟩) ng cp1)).setCell ⟨w.heap.size, 1, none⟩ (.slice aa 3 ac)).setCell ⟨w.heap.size, 2, none⟩ (.slice (some ⟨G2, 0, none⟩) nt cp2)).setCell ⟨w.heap.size, 3, none⟩ (.bool false)) :=
   Touch.setCell (Touch.setCell (Touch.setCell (Touch.setCell (S := fun z => z = w.heap.size) (Touch.refl _ _) rfl _) rfl _) rfl _) rfl _
  refine bodyPost_ret (v := .agg #[.slice (some ⟨G1, 0, none⟩) ng cp1, .slice aa 3 ac, .slice (some ⟨G2, 0, none⟩) nt cp2, .bool false]) (by simp [results, Tryz.results108, go_sem, e0, e1, e2, e3]) rfl ?_;refine ⟨_, rfl, ?_, some ⟨G1, 0, none⟩, cp1, aa, ac, some ⟨G2, 0, none⟩, cp2, ?_, (gA.touch (T6.mono (fun k hk => by omega))).mono (fun k hk => by omega), (hA.touch (T6.mono (fun k hk => by omega))).mono (fun k hk => by omega), (tA.touch (T6.mono (fun k hk => by omega))).mono (fun k hk => by omega), ?_⟩
  ·exact bb.trans (T6.below bb.size (fun k hk => by omega))
  ·show _ = Value.agg #[.slice _ y.guards.length _, .slice _ 3 _, .slice _ y.tells.length _, .bool false]
   rw [HGL.out, HTL.out]
  have eG : (endW y).guards.length = ng := HGL.out;have eT : (endW y).tells.length = nt := HTL.out;have eA : (endW y).adds.length = 3 := rfl;refine ⟨?_, ?_, ?_⟩
  ·rw [eG];refine (oA.touch (T6.mono (fun k hk => by omega))).mono (fun k hk => ?_)
   rcases hk with hk | hk | hk
   ·omega
   ·have := hIA k hk; omega
   have := hIT k hk; omega
  ·rw [eA];refine (vA.touch (T6.mono (fun k hk => by omega))).mono (fun k hk => ?_)
   rcases hk with hk | hk | hk
   ·omega
   ·have := hIG k hk; omega
   have := hIT k hk; omega
  rw [eT];refine (pA.touch (T6.mono (fun k hk => by omega))).mono (fun k hk => ?_)
  rcases hk with hk | hk | hk
  ·omega
  ·have := hIG k hk; omega
  have := hIA k hk; omega
theorem goW_ne {f : Nat} : ∀ (i : Nat) (y : Way), 0 < (goW ls f i y).length := by
 induction f with
 | zero => intro i y; simp [goW]
 | succ f ih =>
  intro i y;rw [goW]
  split
  ·split
   ·rw [qG]; have := ih (i + 1) (y.guard (intoX (ls[i]?.getD noLV).f y.pots)); omega
   split
   ·exact ih _ _
   split
   ·exact ih _ _
   simp
  simp
theorem goW_len (f : Nat) : ∀ (i : Nat) (y : Way), (goW ls f i y).length <= 2 ^ f := by
 induction f with
 | zero => intro i y; simp [goW]
 | succ f ih =>
  intro i y;have hp : 1 <= 2 ^ f := Nat.one_le_two_pow;have h2 : 2 ^ (f + 1) = 2 ^ f + 2 ^ f := by rw [Nat.pow_succ]; omega
  rw [goW]
  split
  ·split
   ·rw [qG];have h3 := ih (i + 1) (y.guard (intoX (ls[i]?.getD noLV).f y.pots));have h4 := ih (i + 1 + (ls[i]?.getD noLV).skip.toNat) (y.guard (minusX (intoX (ls[i]?.getD noLV).f y.pots)))
    omega
   split
   ·have := ih (i + 1) (y.add (ls[i]?.getD noLV).pot.toNat (intoX (ls[i]?.getD noLV).f y.pots)); omega
   split
   ·have := ih (i + 1) (y.tell (intoX (ls[i]?.getD noLV).f y.pots)); omega
   simp; omega
  simp; omega
theorem goW_128 {f : Nat} {y : Way} (hf : f <= 7) : (goW ls f i y).length <= 128 :=
 Nat.le_trans (goW_len f i y) (Nat.le_trans (Nat.pow_le_pow_right (by omega) hf) (by decide))
theorem FOff.grown (h : FOff W (fun k => k < B \/ k = G) a fs) (hg : W.grownBy W' (some G)) (hat : g = G \/ W.heap.size <= g) : FOff W' (fun k => k < B \/ k = g) a fs := fun W'' t => by
 refine h W'' ⟨t.os.trans hg.os, t.tape.trans hg.tape, t.output.trans hg.output, Nat.le_trans hg.size t.size, fun k hk hn => ?_⟩;have hk1 : ¬ k < B := fun e => hn (Or.inl e);have hk2 : k ≠ G := fun e => hn (Or.inr e);rw [t.block k (Nat.lt_of_lt_of_le hk hg.size) (fun e => by omega)]
 exact hg.block k hk (fun e => by simp only [qA] at e; omega)
theorem FOwn.grown {T : Nat -> Prop} (h : FOwn W (fun k => (k < B \/ k = G) \/ T k) v n fs) (hg : W.grownBy W' (some G)) (hat : g = G \/ W.heap.size <= g) : FOwn W' (fun k => (k < B \/ k = g) \/ T k) v n fs := by
 obtain ⟨xs, h⟩ := h;refine ⟨xs, fun W'' t => h W'' ⟨t.os.trans hg.os, t.tape.trans hg.tape, t.output.trans hg.output, Nat.le_trans hg.size t.size, fun k hk hn => ?_⟩⟩;have hk1 : ¬ k < B := fun e => hn (Or.inl (Or.inl e));have hk2 : k ≠ G := fun e => hn (Or.inl (Or.inr e));have hk3 : ¬ T k := fun e => hn (Or.inr e)
 rw [t.block k (Nat.lt_of_lt_of_le hk hg.size) (fun e => by
  rcases e with (e | e) | e
  ·exact hk1 e
  ·omega
  exact hk3 e)]
 exact hg.block k hk (fun e => by simp only [qA] at e; omega)
def noR : RowM := ⟨[], [], [], false⟩
def RowsOwn (W : World) (S : Nat -> Prop) (xs : List Value) (rs : List RowM) : Prop :=
 ∀ j, j < rs.length -> ∃ ga gc aa ac ta tc, xs[j * 4]? = some (.slice ga (rs[j]?.getD noR).guards.length gc) /\ xs[j * 4 + 1]? = some (.slice aa (rs[j]?.getD noR).adds.length ac) /\ xs[j * 4 + 2]? = some (.slice ta (rs[j]?.getD noR).tells.length tc) /\ xs[j * 4 + 3]? = some (.bool (rs[j]?.getD noR).stop) /\ RowOwn W S ga gc aa ac ta tc (rs[j]?.getD noR)
theorem RowsOwn.map (h : RowsOwn W S xs rs) (hf : ∀ (T : Nat -> Prop) v n fs, FOwn W (fun k => S k \/ T k) v n fs -> FOwn W' (fun k => S' k \/ T k) v n fs) : RowsOwn W' S' xs rs := fun j hj => by
 obtain ⟨ga, gc, aa, ac, ta, tc, e0, e1, e2, e3, f0, f1, f2⟩ := h j hj
 exact ⟨ga, gc, aa, ac, ta, tc, e0, e1, e2, e3, hf _ _ _ _ f0, hf _ _ _ _ f1, hf _ _ _ _ f2⟩
theorem RowsOwn.join (h1 : RowsOwn W S xs rs) (h2 : RowsOwn W S ys ss) (hl : xs.length = rs.length * 4) : RowsOwn W S (xs ++ ys) (rs ++ ss) := fun j hj => by
 rw [qG] at hj
 by_cases hjr : j < rs.length
 ·rw [qI (l₁ := rs) hjr, qI (by omega), qI (by omega), qI (by omega), qI (by omega)]
  exact h1 j hjr
 rw [qH (l₁ := rs) (by omega), qH (by omega), qH (by omega), qH (by omega), qH (by omega), hl];have := h2 (j - rs.length) (by omega);rw [show j * 4 - rs.length * 4 = (j - rs.length) * 4 by omega, show j * 4 + 1 - rs.length * 4 = (j - rs.length) * 4 + 1 by omega, show j * 4 + 2 - rs.length * 4 = (j - rs.length) * 4 + 2 by omega, show j * 4 + 3 - rs.length * 4 = (j - rs.length) * 4 + 3 by omega]
 exact this
def RowsOk (W : World) (S : Nat -> Prop) (xs : List Value) (rs : List RowM) : Prop :=
 ∀ j, j < rs.length -> ∃ ga gc aa ac ta tc, xs[j * 4]? = some (.slice ga (rs[j]?.getD noR).guards.length gc) /\ xs[j * 4 + 1]? = some (.slice aa (rs[j]?.getD noR).adds.length ac) /\ xs[j * 4 + 2]? = some (.slice ta (rs[j]?.getD noR).tells.length tc) /\ xs[j * 4 + 3]? = some (.bool (rs[j]?.getD noR).stop) /\
  FOff W S ga (rs[j]?.getD noR).guards /\ FOff W S aa (rs[j]?.getD noR).adds /\ FOff W S ta (rs[j]?.getD noR).tells
theorem RowsOk.map (h : RowsOk W S xs rs) (hf : ∀ a fs, FOff W S a fs -> FOff W' S' a fs) : RowsOk W' S' xs rs := fun j hj => by
 obtain ⟨ga, gc, aa, ac, ta, tc, e0, e1, e2, e3, f0, f1, f2⟩ := h j hj
 exact ⟨ga, gc, aa, ac, ta, tc, e0, e1, e2, e3, hf _ _ f0, hf _ _ f1, hf _ _ f2⟩
theorem RowsOk.join (h1 : RowsOk W S xs rs) (h2 : RowsOk W S ys ss) (hl : xs.length = rs.length * 4) : RowsOk W S (xs ++ ys) (rs ++ ss) := fun j hj => by
 rw [qG] at hj
 by_cases hjr : j < rs.length
 ·rw [qI (l₁ := rs) hjr, qI (by omega), qI (by omega), qI (by omega), qI (by omega)]
  exact h1 j hjr
 rw [qH (l₁ := rs) (by omega), qH (by omega), qH (by omega), qH (by omega), qH (by omega), hl];have := h2 (j - rs.length) (by omega);rw [show j * 4 - rs.length * 4 = (j - rs.length) * 4 by omega, show j * 4 + 1 - rs.length * 4 = (j - rs.length) * 4 + 1 by omega, show j * 4 + 2 - rs.length * 4 = (j - rs.length) * 4 + 2 by omega, show j * 4 + 3 - rs.length * 4 = (j - rs.length) * 4 + 3 by omega]
 exact this
structure JR (w : World) (G cap : Nat) (xs : List Value) (rs : List RowM) (W : World) : Prop where
 b : Below w.heap.size w W
 o : W.ownsRow w.heap.size 68 4 (.slice (some ⟨G, 0, none⟩) rs.length cap) rs.length xs
 r : RowsOk W (fun k => k < w.heap.size \/ k = G) xs rs
 u : RowsOwn W (fun k => k < w.heap.size \/ k = G) xs rs
theorem JR.below (j : JR w G cap xs rs W) (h : Below W.heap.size W W') : JR w G cap xs rs W' := ⟨j.b.trans (h.mono j.b.size), own_below j.o h, j.r.map (fun _ _ f => f.below h), j.u.map (fun _ _ _ _ f => f.below h)⟩
theorem JR.lt (j : JR w G cap xs rs W) : w.heap.size <= G /\ G < W.heap.size := by
 rcases j.o.2 with ⟨h, _⟩ | ⟨g, cap', cur, h, hg, hh, _⟩
 ·cases h
 simp only [Value.slice.injEq, qA, qB, and_true, true_and] at h;obtain ⟨rfl, _⟩ := h
 exact ⟨hg, lt_of_block hh⟩
theorem JR.join {w1 : World} {G2 cap2 cp n1 n2 : Nat} (j : JR w G cap xs rs W) (j2 : JR w1 G2 cap2 ys ss W) (hb : w.heap.size <= w1.heap.size) (hG : G < w1.heap.size) (hn1 : rs.length = n1) (hn2 : ss.length = n2)
  (hown : W'.ownsRow w.heap.size 68 4 (.slice (some ⟨g, 0, none⟩) (n1 + n2) cp) (n1 + n2) (xs ++ ys)) (hg : W.grownBy W' (some G)) {H : Nat} (hat : some G = some g \/ g = H) (hH : W.heap.size = H) : JR w g cp (xs ++ ys) (rs ++ ss) W' := by
 subst hn1 hn2
 have hat' : g = G \/ W.heap.size <= g := by
  rcases hat with h | h
  ·simp only [qA] at h; exact Or.inl h.symm
  exact Or.inr (by omega)
 have r2 : RowsOk W (fun k => k < w.heap.size \/ k = G) ys ss := j2.r.map (fun _ _ f => f.mono (fun k hk => by omega))
 have u2 : RowsOwn W (fun k => k < w.heap.size \/ k = G) ys ss := j2.u.map (fun _ _ _ _ f => f.mono (fun k hk => by
  rcases hk with hk | hk
  ·exact Or.inl (by omega)
  exact Or.inr hk))
 refine ⟨j.b.grown hg j.b.size (fun z hz => by simp only [qA] at hz; have := j.lt; omega), by rw [qG]; exact hown, ?_, ?_⟩
 ·exact (j.r.join r2 j.o.1).map (fun _ _ f => f.grown hg hat')
 exact (j.u.join u2 j.o.1).map (fun _ _ _ _ f => f.grown hg hat')
theorem allB_ofW {M : Int} (h : bnd M zs) : allB M zs = true := by
 unfold allB;rw [List.all_eq_true];intro z hz;obtain ⟨i, hi, rfl⟩ := List.getElem_of_mem hz;have := h i;rw [List.getElem?_eq_getElem hi] at this;simp only [Option.getD_some] at this
 exact inB_iff.2 this
theorem fit_ok {f : Frm} (h : fitX 10000000 f) : formB 3 2 f.1 f.2.1 f.2.2 = true := by
 simp only [formB, okN, Bool.and_eq_true, decide_eq_true_eq]
 exact ⟨⟨⟨rfl, allB_ofW h.bc⟩, rfl, allB_ofW h.bd⟩, inB_iff.2 ⟨h.k1, h.k2⟩⟩
theorem FormsAt.fv {P : List Frm} (h : FormsAt w a P) (hl : P.length = 3) : ∃ fs : List FV, fs.length = 3 /\ FormsG w a fs /\ ∀ k, k < 3 -> (fs[k]?.getD noFV).n = 3 /\ (fs[k]?.getD noFV).m = 2 /\ (fs[k]?.getD noFV).C = (P[k]?.getD noX).1 /\ (fs[k]?.getD noFV).D = (P[k]?.getD noX).2.1 /\ (fs[k]?.getD noFV).K = (P[k]?.getD noX).2.2 := by
 obtain ⟨b, off, e, a0, c0, p0, q0, x0, x1, x2, i0, j0⟩ := h 0 (by omega);obtain ⟨b1, off1, e1, a1, c1, p1, q1, y0, y1, y2, i1, j1⟩ := h 1 (by omega);obtain ⟨b2, off2, e2, a2, c2, p2, q2, z0, z1, z2, i2, j2⟩ := h 2 (by omega);refine ⟨[⟨a0, 3, p0, c0, 2, q0, (P[0]?.getD noX).2.2, (P[0]?.getD noX).1, (P[0]?.getD noX).2.1⟩, ⟨a1, 3, p1, c1, 2, q1, (P[1]?.getD noX).2.2, (P[1]?.getD noX).1, (P[1]?.getD noX).2.1⟩, ⟨a2, 3, p2, c2, 2, q2, (P[2]?.getD noX).2.2, (P[2]?.getD noX).1, (P[2]?.getD noX).2.1⟩], rfl, fun i hi => ?_, fun k hk => ?_⟩
 ·match i, hi with
  | 0, _ => exact ⟨b, off, e, x0, x1, x2, ⟨i0, j0, by show (3 : Nat) <= _; omega, by show (2 : Nat) <= _; omega⟩⟩
  | 1, _ => exact ⟨b1, off1, e1, y0, y1, y2, ⟨i1, j1, by show (3 : Nat) <= _; omega, by show (2 : Nat) <= _; omega⟩⟩
  | 2, _ => exact ⟨b2, off2, e2, z0, z1, z2, ⟨i2, j2, by show (3 : Nat) <= _; omega, by show (2 : Nat) <= _; omega⟩⟩
 match k, hk with
 | 0, _ => exact ⟨rfl, rfl, rfl, rfl, rfl⟩
 | 1, _ => exact ⟨rfl, rfl, rfl, rfl, rfl⟩
 | 2, _ => exact ⟨rfl, rfl, rfl, rfl, rfl⟩
theorem into_eq {g : FV} {P : List Frm} {fs : List FV} (hP : P.length = 3) (h : ∀ k, k < 3 -> (fs[k]?.getD noFV).C = (P[k]?.getD noX).1 /\ (fs[k]?.getD noFV).D = (P[k]?.getD noX).2.1 /\ (fs[k]?.getD noFV).K = (P[k]?.getD noX).2.2) : intoC g.C fs 3 = (intoX g P).1 /\ intoD g.C g.D fs 3 = (intoX g P).2.1 /\ intoK g.C g.K fs 3 = (intoX g P).2.2 := by
 obtain ⟨x0, x1, x2⟩ := h 0 (by omega);obtain ⟨y0, y1, y2⟩ := h 1 (by omega);obtain ⟨z0, z1, z2⟩ := h 2 (by omega);have t0 := toFV_at (P := P) (k := 0) (by omega);have t1 := toFV_at (P := P) (k := 1) (by omega);have t2 := toFV_at (P := P) (k := 2) (by omega);simp only [intoX, intoC, intoD, intoK, x0, x1, x2, y0, y1, y2, z0, z1, z2, t0, t1, t2, toFV]
 exact ⟨trivial, trivial, trivial⟩
theorem into_done {y : Way} (hy : WayOk i y) (h6 : i <= 6) (g : FV) (hs : smallB g.n g.m g.C g.D g.K = true) (w : World) (hA : g.At w) (pa : Option Addr) (cp : Nat) (hP : FormsAt w pa y.pots) {fn : Nat}
  (call : ∀ fs : List FV, fs.length = 3 -> FormsG w pa fs -> Calls Tryz.prog fn #[formV g.a g.n g.cap g.c g.m g.cap' g.K, .slice pa 3 cp] w fun e w' => Res w w' e (keepL (intoOk g.n g.m g.C g.D g.K 3 fs) (intoC g.C fs 3)) (keepL (intoOk g.n g.m g.C g.D g.K 3 fs) (intoD g.C g.D fs 3)) (keepK (intoOk g.n g.m g.C g.D g.K 3 fs) (intoK g.C g.K fs 3))) :
  Calls Tryz.prog fn #[formV g.a g.n g.cap g.c g.m g.cap' g.K, .slice pa 3 cp] w fun e w' => ∃ B1 B2 c1 c2, e = .returned (formV (some ⟨B1, 0, none⟩) 3 c1 (some ⟨B2, 0, none⟩) 2 c2 (intoX g y.pots).2.2) /\ Below w.heap.size w w' /\ w.heap.size <= B1 /\ B1 ≠ B2 /\ w.heap.size <= B2 /\ Blk w' B1 (intoX g y.pots).1 /\ Blk w' B2 (intoX g y.pots).2.1 := by
 obtain ⟨fs, hl, hG, hv⟩ := hP.fv hy.pl;have hw6 := wb_six h6;obtain ⟨q1, q2, q3⟩ := into_eq (g := g) hy.pl (fun k hk => ⟨(hv k hk).2.2.1, (hv k hk).2.2.2.1, (hv k hk).2.2.2.2⟩);obtain ⟨f1, f2, f3⟩ := hy.into h6 hs hA.D.1
 have hok : fs.all FV.ok = true := by
  rw [List.all_eq_true];intro x hx;obtain ⟨k, hk, rfl⟩ := List.getElem_of_mem hx;obtain ⟨e1, e2, e3, e4, e5⟩ := hv k (by omega);rw [List.getElem?_eq_getElem hk] at e1 e2 e3 e4 e5;simp only [Option.getD_some] at e1 e2 e3 e4 e5;have hf := fit_ok ((hy.pf k (by omega)).mono (show wb (min i 6) <= 10000000 by have := wb_six (n := min i 6) (by omega); omega));unfold FV.ok;rw [e1, e2, e3, e4, e5]; exact hf
 have hio : intoOk g.n g.m g.C g.D g.K 3 fs = true := by
  unfold intoOk;rw [small_ok hs, hok, q1, q2, q3, fit_ok f2]; rfl
 refine (call fs hl hG).mono ?_;rintro e w' ⟨a, n, cap, c, m, cap', B1, B2, rfl, L1, L2, b, o1, o2, g1, g2, g3⟩;rw [hio] at L1 L2 o1 o2 ⊢;simp only [keepL, keepK, if_true] at L1 L2 o1 o2 ⊢;rw [q1] at L1 o1;rw [q2] at L2 o2;rw [q3];have hc := f2.c;have hd := f2.d;obtain rfl : n = 3 := by omega
 obtain rfl : m = 2 := by omega
 rcases o1 with h | ⟨rfl, k1⟩
 ·rw [h] at hc; cases hc
 rcases o2 with h | ⟨rfl, k2⟩
 ·rw [h] at hd; cases hd
 exact ⟨B1, B2, cap, cap', rfl, b, g1 (by omega), g3 (by omega) (by omega), g2 (by omega), k1, k2⟩
theorem sintoW_any {y : Way} (hy : WayOk i y) (h6 : i <= 6) (g : FV) (hs : smallB g.n g.m g.C g.D g.K = true) {w : World} (hA : g.At w) {pa : Option Addr} {cp : Nat} (hP : FormsAt w pa y.pots) :
  Calls Tryz.prog 105 #[formV g.a g.n g.cap g.c g.m g.cap' g.K, .slice pa 3 cp] w fun e w' => ∃ B1 B2 c1 c2, e = .returned (formV (some ⟨B1, 0, none⟩) 3 c1 (some ⟨B2, 0, none⟩) 2 c2 (intoX g y.pots).2.2) /\ Below w.heap.size w w' /\ w.heap.size <= B1 /\ B1 ≠ B2 /\ w.heap.size <= B2 /\ Blk w' B1 (intoX g y.pots).1 /\ Blk w' B2 (intoX g y.pots).2.1 :=
 into_done hy h6 g hs w hA pa cp hP (fun fs hl hG => sinto_any g.C g.D fs hA.C hA.D hA.hn hA.hm hl hG (by omega))
theorem iintoW_any {y : Way} (hy : WayOk i y) (h6 : i <= 6) (g : FV) (hs : smallB g.n g.m g.C g.D g.K = true) {w : World} (hA : g.At w) {pa : Option Addr} {cp : Nat} (hP : FormsAt w pa y.pots) :
  Calls Tryz.prog 122 #[formV g.a g.n g.cap g.c g.m g.cap' g.K, .slice pa 3 cp] w fun e w' => ∃ B1 B2 c1 c2, e = .returned (formV (some ⟨B1, 0, none⟩) 3 c1 (some ⟨B2, 0, none⟩) 2 c2 (intoX g y.pots).2.2) /\ Below w.heap.size w w' /\ w.heap.size <= B1 /\ B1 ≠ B2 /\ w.heap.size <= B2 /\ Blk w' B1 (intoX g y.pots).1 /\ Blk w' B2 (intoX g y.pots).2.1 :=
 into_done hy h6 g hs w hA pa cp hP (fun fs hl hG => iinto_any g.C g.D fs hA.C hA.D hA.hn hA.hm hl hG (by omega))
theorem Ints.by (h : Ints W a n zs) (t : Touch (fun x => x = G) W W') (hne : ∀ b o, a = some ⟨b, o, none⟩ -> b ≠ G) : Ints W' a n zs := by
 refine ⟨h.1, fun i hi => ?_⟩;obtain ⟨b, off, e, hc⟩ := h.2 i hi;refine ⟨b, off, e, ?_⟩;rw [World.cell?_of_block (t.block b (block_lt hc) (hne b off e))]
 exact hc
theorem JF.put {base : World} {cp : Nat} (j : JF base G cp 3 xs fs W) (hn : fs.length = 3) {p : Nat} (hp : p < 3) {B1 B2 ca cc : Nat} {C D : List Int} {K : Int} (k1 : Blk W B1 C) (l1 : C.length = 3) (k2 : Blk W B2 D) (l2 : D.length = 2) (n1 : B1 ≠ G) (n2 : B2 ≠ G) :
  FormsAt (((W.setCell ⟨G, p * 3, none⟩ (.slice (some ⟨B1, 0, none⟩) 3 ca)).setCell ⟨G, p * 3 + 1, none⟩ (.slice (some ⟨B2, 0, none⟩) 2 cc)).setCell ⟨G, p * 3 + 2, none⟩ (.int .i64 K)) (some ⟨G, 0, none⟩) (fs.set p (C, D, K)) := by
 have hT := j.t;have hx := j.o.1
 rcases j.o.2 with ⟨h, _⟩ | ⟨g, cap', cur, h, hg, hh, hl, _, hcs, ht⟩
 ·cases h
 simp only [Value.slice.injEq, qA, qB, and_true, true_and] at h;obtain ⟨rfl, rfl⟩ := h;have cel : Cel W G cur.toList 81 := by unfold Cel; simpa using hh
 have hlen : 9 <= cur.toList.length := by
  have := congrArg List.length ht;rw [List.length_take, hx] at this
  omega
 have hat : ∀ i, i < 9 -> cur.toList[i]? = xs[i]? := fun i hi => by
  rw [<- ht, List.getElem?_take, if_pos (by omega)]
 have c3 := ((cel.set (p * 3) (.slice (some ⟨B1, 0, none⟩) 3 ca)).set (p * 3 + 1) (.slice (some ⟨B2, 0, none⟩) 2 cc)).set (p * 3 + 2) (.int .i64 K);have tt : Touch (fun x => x = G) W (((W.setCell ⟨G, p * 3, none⟩ (.slice (some ⟨B1, 0, none⟩) 3 ca)).setCell ⟨G, p * 3 + 1, none⟩ (.slice (some ⟨B2, 0, none⟩) 2 cc)).setCell ⟨G, p * 3 + 2, none⟩ (.int .i64 K)) := (((Touch.refl (fun x => x = G) W).setCell rfl _).setCell rfl _).setCell rfl _;have m1 := (k1.ints' l1).by tt (fun b o e => by simp only [qA, qB, and_true] at e; omega);have m2 := (k2.ints' l2).by tt (fun b o e => by simp only [qA, qB, and_true] at e; omega);intro i hi;rw [List.length_set, hn] at hi
 by_cases e : p = i
 ·subst e;rw [qJ (by omega)];refine ⟨G, 0, rfl, _, _, ca, cc, ?_, ?_, ?_, m1, m2⟩
  ·rw [Nat.zero_add, c3.cell, qF (by omega), qF (by omega), qJ (by omega)]
  ·rw [Nat.zero_add, c3.cell, qF (by omega), qJ (by rw [List.length_set]; omega)]
  rw [Nat.zero_add, c3.cell, qJ (by rw [List.length_set, List.length_set]; omega)]; rfl
 rw [qF e];obtain ⟨a', c', x, y, e0, e1, e2, i1, i2, q1, q2⟩ := hT i hi;refine ⟨G, 0, rfl, a', c', x, y, ?_, ?_, ?_, i1.by tt q1, i2.by tt q2⟩
 ·rw [Nat.zero_add, c3.cell, qF (by omega), qF (by omega), qF (by omega), hat _ (by omega)]; exact e0
 ·rw [Nat.zero_add, c3.cell, qF (by omega), qF (by omega), qF (by omega), hat _ (by omega)]; exact e1
 rw [Nat.zero_add, c3.cell, qF (by omega), qF (by omega), qF (by omega), hat _ (by omega)]; exact e2
end Go.Proofs.YtdaiaohlkdolmaaGreat
