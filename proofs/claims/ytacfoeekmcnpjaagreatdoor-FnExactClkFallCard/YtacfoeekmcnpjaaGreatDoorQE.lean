/-
  Lemmas that the claim's last text rests on.
-/
import Derived.Test.YtacfoeekmcnpjaaGreatDoorQD
namespace Go.Proofs.YtacfoeekmcnpjaaGreatDoor
open Go.RowKit Go.Deep Go.ChangeShapes Go.WideShapes Go.ChangeAt Go.Joins
open List renaming set_cons_zero → qA, set_cons_succ → qB, getElem?_eq_getElem → qC, getElem?_cons_zero → qD, getElem?_cons_succ → qE, getElem?_set_ne → qF, length_append → qG, getElem?_append_right → qH, getElem?_append_left → qI, getElem?_set_self → qJ, length_cons → qK, length_nil → qL
open Nat renaming le_refl → qM, zero_le → qN
set_option linter.unusedVariables false
set_option maxRecDepth 100000
set_option maxHeartbeats 25600000
variable {B G N X cap cap' i k n o : Nat} {K : Int} {S : Nat -> Prop} {W W' w : World} {a ad : Option Addr} {fs : List Frm} {gs : List GV} {ls : List LV} {rs : List RowM} {t : TypeId} {v : Value} {vs xs : List Value} {zs : List Int}
theorem grown_none (h : W.grownBy W' none) {G : Nat} : W.grownBy W' (some G) :=
 ⟨h.os, h.tape, h.output, h.size, fun k hk _ => h.block k hk (by simp)⟩
theorem Cel.grew {row : Option Nat} (h : Cel W B vs t) (hg : W.grownBy W' row) (hne : row ≠ some B) : Cel W' B vs t := by
 have hl := h.lt
 unfold Cel at *
 rw [hg.block B hl (fun e => hne e.symm)]; exact h
structure JV (w : World) (v : Value) (n : Nat) (xs : List Value) (fs : List Frm) (W : World) : Prop where
 b : Below w.heap.size w W
 o : W.ownsRow w.heap.size 151 3 v n xs
 t : ∃ G, (v.ownBlock = some G \/ (v.ownBlock = none /\ n = 0)) /\ TermsOk W G xs fs n
 l : Lo w.heap.size xs
theorem JV.nil (w : World) (fs : List Frm) : JV w (.slice none 0 0) 0 [] fs w := ⟨Below.refl _ _, World.ownsRow_nil w _ _ _, ⟨0, Or.inr ⟨rfl, rfl⟩, fun j hj => by omega⟩, Lo.nil _⟩
theorem JV.below (j : JV w v n xs fs W) (h : Below W.heap.size W W') : JV w v n xs fs W' := by
 obtain ⟨G, hG, ht⟩ := j.t
 exact ⟨j.b.trans (h.mono j.b.size), own_below j.o h, ⟨G, hG, ht.below h⟩, j.l⟩
theorem JV.own (j : JV w v n xs fs W) {G : Nat} (h : v.ownBlock = some G) : w.heap.size <= G /\ G < W.heap.size := by
 rcases j.o.2 with ⟨e, _⟩ | ⟨g, cap', cur, e, hg, hh, _⟩
 ·rw [e] at h; cases h
 ·rw [e] at h
  have : some g = some G := h
  simp only [Option.some.injEq] at this
  subst this
  exact ⟨hg, lt_of_block hh⟩
theorem JV.isSlice (j : JV w v n xs fs W) : ∃ a c, v = .slice a n c := by
 rcases j.o.2 with ⟨e, h0⟩ | ⟨g, cap', cur, e, _⟩
 ·subst h0; exact ⟨_, _, e⟩
 ·exact ⟨_, _, e⟩
theorem JV.slice (j : JV w v n xs fs W) (hn : fs.length = n) : ∃ a cap, v = .slice a n cap /\ FormsAt W a fs := by
 obtain ⟨G, hG, ht⟩ := j.t
 rcases j.o.2 with ⟨e, h0⟩ | ⟨g, cap', cur, e, hg, hh, _⟩
 ·subst h0
  exact ⟨none, 0, e, fun i hi => by omega⟩
 ·have o := j.o
  rw [e] at o
  rcases hG with hG | ⟨_, h0⟩
  ·rw [e] at hG
   have : some g = some G := hG
   simp only [Option.some.injEq] at this
   subst this
   exact ⟨_, cap', e, ht.forms hn o⟩
  ·subst h0
   exact ⟨_, cap', e, fun i hi => by omega⟩
theorem JV.app {g B1 B2 ca cc : Nat} {C D : List Int} (j : JV w v n xs fs W) (hown : W'.ownsRow w.heap.size 151 3 (.slice (some ⟨g, 0, none⟩) (n + 1) cap) (n + 1) (xs ++ [.slice (some ⟨B1, 0, none⟩) 3 ca, .slice (some ⟨B2, 0, none⟩) 2 cc, .int .i64 K])) (hgrow : W.grownBy W' v.ownBlock) {H : Nat} (hat : v.ownBlock = some g \/ g = H) (hH : W.heap.size = H)
  (k1 : Ints W (some ⟨B1, 0, none⟩) 3 C) (k2 : Ints W (some ⟨B2, 0, none⟩) 2 D) (n1 : v.ownBlock ≠ some B1) (n2 : v.ownBlock ≠ some B2) (p1 : w.heap.size <= B1) (p2 : w.heap.size <= B2) (hT : fs[n]?.getD ([], [], 0) = (C, D, K)) :
  JV w (.slice (some ⟨g, 0, none⟩) (n + 1) cap) (n + 1) (xs ++ [.slice (some ⟨B1, 0, none⟩) 3 ca, .slice (some ⟨B2, 0, none⟩) 2 cc, .int .i64 K]) fs W' := by
 have hb : Below w.heap.size w W' := j.b.grown hgrow j.b.size (fun z hz => (j.own hz).1)
 have l1 := k1.blt (by omega) B1 0 rfl
 have l2 := k2.blt (by omega) B2 0 rfl
 obtain ⟨G, hG, ht⟩ := j.t
 refine ⟨hb, hown, ⟨g, Or.inl rfl, ?_⟩, j.l.app p1 p2⟩
 rcases hG with hG | ⟨hG, h0⟩
 ·rw [hG] at hgrow hat n1 n2
  refine ht.step j.o.1 hgrow ?_ k1 k2 (fun e => n1 (by rw [e])) (fun e => n2 (by rw [e])) hT
  rcases hat with h | h
  ·simp only [Option.some.injEq] at h; exact Or.inl h.symm
  ·exact Or.inr (by omega)
 ·rw [hG] at hgrow hat
  have ht' : TermsOk W (W.heap.size + 1) xs fs n := fun j hj => by omega
  refine ht'.step j.o.1 (grown_none hgrow) ?_ k1 k2 (by omega) (by omega) hT
  rcases hat with h | h
  ·cases h
  ·exact Or.inr (by omega)
def FOff (W : World) (S : Nat -> Prop) (a : Option Addr) (fs : List Frm) : Prop := ∀ W', Touch S W W' -> FormsAt W' a fs
theorem FOff.at (h : FOff W S a fs) : FormsAt W a fs := h W (Touch.refl _ _)
theorem FOff.touch (h : FOff W S a fs) (t : Touch S W W') : FOff W' S a fs := fun W'' t' => h W'' (t.trans t')
theorem FOff.below (h : FOff W S a fs) (b : Below W.heap.size W W') : FOff W' S a fs := h.touch (Touch.of b)
theorem FOff.mono {S' : Nat -> Prop} (h : FOff W S a fs) (hs : ∀ k, S' k -> S k) : FOff W S' a fs := fun W' t => h W' (t.mono hs)
theorem FOff.fresh (h : FOff W S a fs) (o : Obj) : FOff (W.alloc o) (fun k => S k \/ k = W.heap.size) a fs := fun W' t => by
 have b : Below W.heap.size W (W.alloc o) := bal
 refine h W' ⟨t.os.trans b.os, t.tape.trans b.tape, t.output.trans b.output, Nat.le_trans b.size t.size, fun k hk hn => ?_⟩
 rw [t.block k (Nat.lt_of_lt_of_le hk b.size) (fun e => by
  rcases e with e | e
  ·exact hn e
  ·omega)]
 exact b.block k hk
theorem JF.foff (j : JF w G cap n xs fs W) (hn : fs.length = n) : FOff W (fun k => k < w.heap.size) (some ⟨G, 0, none⟩) fs := fun W' t => j.off hn (fun k h => h) t
theorem JV.foff (j : JV w v n xs fs W) (hn : fs.length = n) : ∃ a cap, v = .slice a n cap /\ FOff W (fun k => k < w.heap.size) a fs := by
 obtain ⟨a, cap, hv⟩ := j.isSlice
 refine ⟨a, cap, hv, fun W' t => ?_⟩
 obtain ⟨G, hG, ht⟩ := j.t
 have o' := own_off j.o (fun g hg hs => by have := (j.own hg).1; omega) t
 have b' : Below w.heap.size W W' -> True := fun _ => trivial
 have t' := ht.off j.l (fun k h => h) t
 rcases o'.2 with ⟨e, h0⟩ | ⟨g, cap', cur, e, _⟩
 ·subst h0
  intro i hi
  omega
 ·have o := o'
  rw [e] at o hv
  simp only [Value.slice.injEq, true_and] at hv
  obtain ⟨rfl, rfl⟩ := hv
  rcases hG with hG | ⟨hG, _⟩
  ·rw [e] at hG
   have : some g = some G := hG
   simp only [Option.some.injEq] at this
   subst this
   exact t'.forms hn o
  ·rw [e] at hG; cases hG
def RowX (W : World) (B : Nat) (v : Value) (r : RowM) : Prop :=
 ∃ ga gc aa ac ta tc, v = .agg #[.slice ga r.guards.length gc, .slice aa r.adds.length ac, .slice ta r.tells.length tc, .bool r.stop] /\ FOff W (fun k => k < B) ga r.guards /\ FOff W (fun k => k < B) aa r.adds /\ FOff W (fun k => k < B) ta r.tells
theorem FormsAt.keep (h : FormsAt W a fs) (hb : Below W.heap.size W W') : FormsAt W' a fs := fun i hi => by
 obtain ⟨b, off, e, a', c', ca, cc, c0, c1, c2, iC, iD⟩ := h i hi
 refine ⟨b, off, e, a', c', ca, cc, ?_, ?_, ?_, iC.below hb, iD.below hb⟩
 ·rw [hb.cell (p := ⟨b, off + i * 3, none⟩) (block_lt c0)]; exact c0
 ·rw [hb.cell (p := ⟨b, off + i * 3 + 1, none⟩) (block_lt c1)]; exact c1
 ·rw [hb.cell (p := ⟨b, off + i * 3 + 2, none⟩) (block_lt c2)]; exact c2
theorem Ints.past (h : Ints W a n zs) (hx : ∀ o q, W.cell? ⟨X, o, none⟩ ≠ some (.int .i64 q)) (t : Touch (fun z => z = X) W W') : Ints W' a n zs := by
 refine ⟨h.1, fun i hi => ?_⟩
 obtain ⟨b, off, e, hc⟩ := h.2 i hi
 refine ⟨b, off, e, ?_⟩
 have hb := block_lt hc
 have hne : b ≠ X := fun e2 => by subst e2; exact hx _ _ hc
 simp only [World.cell?] at hc ⊢
 rw [t.block b hb hne]; exact hc
theorem FormsAt.past (h : FormsAt W a fs) (hx : ∀ o v, W.cell? ⟨X, o, none⟩ = some v -> v = .slice none 0 0 \/ v = .bool false) (t : Touch (fun z => z = X) W W') : FormsAt W' a fs := fun i hi => by
 obtain ⟨b, off, e, a', c', ca, cc, c0, c1, c2, iC, iD⟩ := h i hi
 have hi' : ∀ o q, W.cell? ⟨X, o, none⟩ ≠ some (.int .i64 q) := fun o q hq => by rcases hx o _ hq with h | h <;> cases h
 have hne : b ≠ X := fun e2 => by subst e2; rcases hx _ _ c0 with h | h <;> cases h
 have hb := block_lt c0
 refine ⟨b, off, e, a', c', ca, cc, ?_, ?_, ?_, iC.past hi' t, iD.past hi' t⟩
 ·simp only [World.cell?] at c0 ⊢; rw [t.block b hb hne]; exact c0
 ·simp only [World.cell?] at c1 ⊢; rw [t.block b hb hne]; exact c1
 ·simp only [World.cell?] at c2 ⊢; rw [t.block b hb hne]; exact c2
theorem JV.past (j : JV w v n xs fs W) (hX : w.heap.size <= X) (hx : ∀ o q, W.cell? ⟨X, o, none⟩ ≠ some (.int .i64 q)) (ne : v.ownBlock ≠ some X) (t : Touch (fun z => z = X) W W') : JV w v n xs fs W' := by
 obtain ⟨G, hG, ht⟩ := j.t
 refine ⟨j.b.trans (t.below j.b.size (fun k hk => by omega)), ⟨j.o.1, ?_⟩, ⟨G, hG, fun i hi => ?_⟩, j.l⟩
 ·rcases j.o.2 with h2 | ⟨g, cap, cur, hv, hg, hh, r⟩
  ·exact Or.inl h2
  ·refine Or.inr ⟨g, cap, cur, hv, hg, ?_, r⟩
   have hne : g ≠ X := fun e => ne (by rw [hv, e]; rfl)
   rw [t.block g (lt_of_block hh) hne]; exact hh
 ·obtain ⟨a', c', ca, cc, e0, e1, e2, i1, i2, n1, n2⟩ := ht i hi
  exact ⟨a', c', ca, cc, e0, e1, e2, i1.past hx t, i2.past hx t, n1, n2⟩
theorem Cel.four {x y z u : Value} (h : Cel w B [x, y, z, u] t) : w.cell? ⟨B, 0, none⟩ = some x /\ w.cell? ⟨B, 1, none⟩ = some y /\ w.cell? ⟨B, 2, none⟩ = some z /\ w.cell? ⟨B, 3, none⟩ = some u := ⟨h.cell 0, h.cell 1, h.cell 2, h.cell 3⟩
theorem boxNo {a' a'' : Option Addr} {n' n'' c c' c'' : Nat} {bb : Bool} (h : Cel W X [.slice a n c, .slice a' n' c', .slice a'' n'' c'', .bool bb] t) : ∀ o q, W.cell? ⟨X, o, none⟩ ≠ some (.int .i64 q) := fun o q e => by
 have := h.cell o
 rw [e] at this
 match o with
 | 0 => simp at this
 | 1 => simp at this
 | 2 => simp at this
 | 3 => simp at this
 | o + 4 => simp at this
theorem boxNil (h : Cel W X [.slice none 0 0, .slice none 0 0, .slice none 0 0, .bool false] t) : ∀ o v, W.cell? ⟨X, o, none⟩ = some v -> v = .slice none 0 0 \/ v = .bool false := fun o v e => by
 have := h.cell o
 rw [e] at this
 match o with
 | 0 => simp at this; exact Or.inl this
 | 1 => simp at this; exact Or.inl this
 | 2 => simp at this; exact Or.inl this
 | 3 => simp at this; exact Or.inr this
 | o + 4 => simp at this
theorem pot_bnd (hk : k < 3) : bndT 1000000000000000000 (-1) (([0, 0, 0] : List Int).set k 1) := fun i => by
 match k, hk, i with
 | 0, _, 0 => simp
 | 0, _, 1 => simp
 | 0, _, 2 => simp
 | 0, _, i + 3 => simp
 | 1, _, 0 => simp
 | 1, _, 1 => simp
 | 1, _, 2 => simp
 | 1, _, i + 3 => simp
 | 2, _, 0 => simp
 | 2, _, 1 => simp
 | 2, _, 2 => simp
 | 2, _, i + 3 => simp
theorem pot_bnd2 : bndT 1000000000000000000 (-1) ([0, 0] : List Int) := fun i => by
 match i with
 | 0 => simp
 | 1 => simp
 | i + 2 => simp
theorem srowend_any (y : Way) {pa : Option Addr} {cp : Nat} {ga : Option Addr} {ng gc : Nat} {ta : Option Addr} {nt tc : Nat} {w : World} (hp : y.pots.length = 3) (hg : y.guards.length = ng) (ht : y.tells.length = nt)
  (hP : FormsAt w pa y.pots) (hG : FormsAt w ga y.guards) (hT : FormsAt w ta y.tells) (fp : ∀ k, k < 3 -> fitX 10000000 (y.pots[k]?.getD noX)) (fg : ∀ k, k < ng -> fitX 10000000 (y.guards[k]?.getD ([], [], 0))) (ft : ∀ k, k < nt -> fitX 10000000 (y.tells[k]?.getD ([], [], 0))) (hg1 : ng <= 1048576) (ht1 : nt <= 1048576) :
  Calls Tryz.prog 230 #[.slice pa 3 cp, .slice ga ng gc, .slice ta nt tc] w fun e w' => ∃ v, e = .returned v /\ Below w.heap.size w w' /\ RowX w' w.heap.size v (endW y) := by
 have HPL : Hid (y.pots.length = 3) := hp
 have HGL : Hid (y.guards.length = ng) := hg
 have HTL : Hid (y.tells.length = nt) := ht
 have HP : Hid (FormsAt w pa y.pots) := hP
 have HFP : Hid _ := fp
 have HFG : Hid _ := fg
 have HFT : Hid _ := ft
 clear hp hg ht fp fg ft hP
 obtain ⟨i0, hi, hz0, hz1, hz2⟩ := info_parts Tryz.infoForm
 have B0 : Below w.heap.size w (w.alloc (.cells #[.slice none 0 0, .slice none 0 0, .slice none 0 0, .bool false] 159)) := bal
 have r0 := Cel.new w [.slice none 0 0, .slice none 0 0, .slice none 0 0, .bool false] 159
 go_enter Tryz.func230, Tryz.ntmps230
 go_wp2_with fail
 refine (scopy_any y.guards HGL.out (hG.keep B0) HFG.out hg1).mono ?_
 rintro e w1 ⟨G1, cp1, xs1, rfl, j1⟩
 have B1 := btr B0 j1.b
 have r1 := r0.below j1.b
 have g1 := j1.foff HGL.out
 rw [World.size_alloc] at g1
 clear r0 B0 j1
 go_wp2_with fail
 refine (scopy_any y.tells HTL.out (hT.keep B1) HFT.out ht1).mono ?_
 rintro e w2 ⟨G2, cp2, xs2, rfl, j2⟩
 have B2 := btr B1 j2.b
 have r2 := r1.below j2.b
 have g2 := g1.below j2.b
 have t2 := j2.foff HTL.out
 have z12 := r1.lt
 clear r1 B1 j2 g1
 go_wp2_with fail
 have lX := r2.lt
 have x0 := Cel.new w2 [.slice (some ⟨G1, 0, none⟩) ng cp1, .slice none 0 0, .slice (some ⟨G2, 0, none⟩) nt cp2, .bool false] 159
 have j0 : JV w2 (.slice none 0 0) 0 [] (endW y).adds (w2.alloc (.cells #[.slice (some ⟨G1, 0, none⟩) ng cp1, .slice none 0 0, .slice (some ⟨G2, 0, none⟩) nt cp2, .bool false] 159)) := (JV.nil w2 _).below (bal)
 go_loopw [8] (fun i wr => ∃ (k : Nat) (v : Value) (xs : List Value), k <= 3 /\ i = .int .i64 k /\ Cel wr w2.heap.size [.slice (some ⟨G1, 0, none⟩) ng cp1, v, .slice (some ⟨G2, 0, none⟩) nt cp2, .bool false] 159 /\ JV w2 v k xs (endW y).adds wr /\ v.ownBlock ≠ some w2.heap.size) (fun i _ => 3 - (intOf i).toNat)
 case atStart => exact ⟨0, _, [], by omega, rfl, x0, j0, by intro h; cases h⟩
 case round =>
  clear x0 j0
  obtain ⟨k, v, xs, hk, rfl, xr, j, hne⟩ := hrel
  by_cases hlt : k < 3
  ·obtain ⟨b, off, rfl, a', c', ca, cc, c0, c1, c2, iC, iD⟩ := HP.out k (by rw [HPL.out]; exact hlt)
   have hfit : fitX 10000000 (y.pots[k]?.getD ([], [], 0)) := HFP.out k hlt
   generalize HG : y.pots[k]?.getD ([], [], 0) = f at *
   have HT : Hid ((endW y).adds[k]?.getD ([], [], 0) = lessX f k) := by
    show _ = _
    rw [show (endW y).adds = (List.range 3).map (fun v => lessX (y.pots[v]?.getD noX) v) from rfl, List.getElem?_map, List.getElem?_range hlt]
    show lessX (y.pots[k]?.getD noX) k = _
    rw [show y.pots[k]?.getD noX = f from HG]
   clear HG
   obtain ⟨fC, fD, fK⟩ := f
   obtain ⟨lC, lD, bC, bD, q1, q2⟩ := hfit
   simp only at c2 iC iD lC lD bC bD q1 q2
   obtain ⟨va, vc, rfl⟩ := j.isSlice
   have keep : ∀ W : World, Below w.heap.size w W -> (W.cell? ⟨b, off + k * 3, none⟩ = some (.slice a' 3 ca) /\ W.cell? ⟨b, off + k * 3 + 1, none⟩ = some (.slice c' 2 cc) /\ W.cell? ⟨b, off + k * 3 + 2, none⟩ = some (.int .i64 fK)) := fun W hW =>
    ⟨by rw [hW.cell (p := ⟨b, off + k * 3, none⟩) (block_lt c0)]; exact c0, by rw [hW.cell (p := ⟨b, off + k * 3 + 1, none⟩) (block_lt c1)]; exact c1, by rw [hW.cell (p := ⟨b, off + k * 3 + 2, none⟩) (block_lt c2)]; exact c2⟩
   have KP : Hid (∀ W : World, Below w2.heap.size w2 W -> _) := fun W hW => keep W (btr B2 hW)
   clear keep c0 c1 c2
   have xd : Cel wr.drew w2.heap.size [.slice (some ⟨G1, 0, none⟩) ng cp1, .slice va k vc, .slice (some ⟨G2, 0, none⟩) nt cp2, .bool false] 159 := xr
   have hSS := And.intro (KP.out _ j.b.drew) (xd.cell 1)
   simp only [qD, qE] at hSS
   have bw : ∀ W, Below wr.heap.size wr W -> Below w.heap.size w W := fun W hW => B2.trans ((j.b.trans (hW.mono j.b.size)).mono B2.size)
   have lx := xr.lt
   have hlt' : (k : Int) < 3 := by omega
   go_upto_region 5 with fail
   refine wp_region_ends (fun w' => w'.cell? ⟨b, off + k * 3, none⟩ = some (.slice a' 3 ca) /\ w'.cell? ⟨b, off + k * 3 + 1, none⟩ = some (.slice c' 2 cc) /\ w'.cell? ⟨b, off + k * 3 + 2, none⟩ = some (.int .i64 fK)) (fun w' => w'.cell? ⟨w2.heap.size, 1, none⟩ = some (.slice va k vc)) 11 (by kernel_rfl) ?_
   refine tkl 0 rfl hSS ?_
   refine wpAnyE_take1 (i := 1) (v := ?v1) rfl rfl (by kernel_rfl) (by kernel_rfl) (by kernel_rfl) (by decide) (by rfl) (by simp [Region.binds]) (fun _ _ _ h => h) (Or.inl ⟨by rfl, ?hy1⟩) hSS ?_
   case hy1 => (intro wz hSw; (try dsimp only at hSw); go_simp; try (with_reducible rfl))
   refine tkl 2 rfl hSS ?_
   refine tkl 3 rfl hSS ?_
   refine tkl 4 rfl hSS ?_
   refine tkl 5 rfl hSS ?_
   refine tkl 6 rfl hSS ?_
   refine wo1 7 rfl fun K hK => ?_
   go_simp
   refine (spot_any).mono ?_
   rintro ee w3 ⟨za, zn, zcap, zc, zm, zcap', Z1, Z2, rfl, L1, L2, b3, o1, o2, -, -, -⟩
   rw [potC_in (k : Int) k rfl (by omega)] at L1 o1
   rw [potD_in (k : Int) (by omega) (by omega)] at L2 o2
   obtain rfl : zn = 3 := by rw [<- L1]; simp
   obtain rfl : zm = 2 := by rw [<- L2]; simp
   have z1 := o1.ints
   have z2 := o2.ints
   rw [L1] at z1
   rw [L2] at z2
   have b3' := below_of_drew b3
   have j3 := j.below b3'
   have x3 := xr.below b3'
   have i1 := iC.below (bw _ b3')
   have i2 := iD.below (bw _ b3')
   have hS3 := And.intro (KP.out _ j3.b) (x3.cell 1)
   simp only [qD, qE] at hS3
   dsimp only
   refine hK.out _ _ ⟨hS3.1, fun _ => hS3.2⟩ ?_
   have s3 := b3'.size
   clear hK K hSS hS3 j o1 o2 b3 b3' L1 L2 iC iD bw xd xr
   refine wo1 8 rfl fun K hK => ?_
   go_simp
   refine (l1sum_any fC fD _ _ i1 i2 z1 z2 (fun i => by have := bC i; omega) (fun i => by have := bD i; omega) (by omega) (pot_bnd hlt) pot_bnd2 (by omega)).mono ?_
   rintro ee w4 ⟨D1, D2, rfl, b4, g1, g3, g4, u1, u2⟩
   have e0 : fK + -1 * (0 : Int) = fK := by omega
   rw [e0]
   have hs3 := j3.b.size
   have j4 := j3.below b4
   have x4 := x3.below b4
   have hS4 := And.intro (KP.out _ j4.b) (x4.cell 1)
   simp only [qD, qE] at hS4
   have m1 : (Value.slice va k vc).ownBlock ≠ some D1 := fun e => by have := (j3.own e).2; omega
   have m2 : (Value.slice va k vc).ownBlock ≠ some D2 := fun e => by have := (j3.own e).2; omega
   have s4 := b4.size
   dsimp only
   refine hK.out _ _ ⟨hS4.1, fun _ => hS4.2⟩ ?_
   clear hK K hS4 b4 z1 z2 i1 i2 j3 x3
   refine wo1 9 rfl fun K hK => ?_
   go_simp
   have A5 : Below w4.heap.size w4 (w4.alloc (.cells #[.slice (some ⟨D1, 0, none⟩) 3 3, .slice (some ⟨D2, 0, none⟩) 2 2, .int .i64 fK] 151)) := bal
   have j5 := j4.below A5
   have x5 := x4.below A5
   have hs5 := j5.b.size
   have v1 := u1.below A5
   have v2 := u2.below A5
   have hS5 := And.intro (KP.out _ j5.b) (x5.cell 1)
   simp only [qD, qE] at hS5
   refine hK.out _ _ ⟨hS5.1, fun _ => hS5.2⟩ ?_
   clear hK K hS5 A5 j4 x4 u1 u2
   refine wo1 10 rfl fun K hK => ?_
   rw [if_pos (by rfl)]
   refine wp_append_lies _ (.tmp 19) (.tmp 27) 157 rfl w2.heap.size 151 i0 _ 3 56 Tryz.underlying157 hi hz0 hz1 hz2 rfl (by omega) (.slice va k vc) k xs (by rfl) j5.o ⟨w4.heap.size, 0, none⟩ 1 1 [Value.slice (some ⟨D1, 0, none⟩) 3 3, Value.slice (some ⟨D2, 0, none⟩) 2 2, Value.int .i64 fK] (by rfl) (by rfl) (World.news_of_block (cs := #[Value.slice (some ⟨D1, 0, none⟩) 3 3, Value.slice (some ⟨D2, 0, none⟩) 2 2, Value.int .i64 fK]) (t := 151) (fr := (0, 0)) (heap_alloc_new w4 _)) (by simp [Value.oneCell']) (by omega) (by unfold maxLen; omega) (by omega) hs5 (w4.heap.size + 1) (by rw [World.size_alloc]) ?_
   intro g cp6 w6 hown hgrow hat hlt6
   have j6 := j5.app hown hgrow hat (by rw [World.size_alloc]) (v1.ints' (lin_len lC (by simp))) (v2.ints' (lin_len lD rfl)) m1 m2 (by omega) (by omega) (by rw [HT.out]; show (lin fC _ (-1), lin fD _ (-1), fK + -1 * 0) = _; rw [e0])
   have x6 := x5.grew hgrow hne
   have ne6 : some g ≠ some w2.heap.size := fun e => by
    rcases hat with h | h
    ·exact hne (h.trans e)
    ·simp only [Option.some.injEq] at e; omega
   have hS6 := And.intro (KP.out _ j6.b) (x6.cell 1)
   simp only [qD, qE] at hS6
   refine hK.out _ _ ⟨hS6.1, fun _ => hS6.2⟩ ?_
   have f6 := x6.free 1
   clear hK K hown hgrow hat j5 x5 v1 v2 m1 m2
   refine wo1 11 rfl fun K hK => ?_
   go_simp
   refine hK.out _ _ ⟨hS6.1, fun h => absurd (show true = false from h) (by decide)⟩ ?_
   have T7 : Touch (fun z => z = w2.heap.size) w6 (w6.setCell ⟨w2.heap.size, 1, none⟩ (.slice (some ⟨g, 0, none⟩) (k + 1) cp6)) := Touch.setCell (S := fun z => z = w2.heap.size) (Touch.refl _ _) rfl _
   have j7 := j6.past (qM _) (boxNo x6) ne6 T7
   have x7 := x6.set 1 (.slice (some ⟨g, 0, none⟩) (k + 1) cp6)
   have c61 := hS6.2
   refine wo1 12 rfl fun K hK => ?_
   go_simp
   refine hK.out _ _ ⟨KP.out _ j7.b, fun h => absurd (show true = false from h) (by decide)⟩ ?_
   refine wod ?_ _
   clear j6 x6 T7 hS6 f6 c61
   go_wp2
   go_roundw
   case rel => exact ⟨k + 1, _, _, by omega, by go_num, x7, j7, ne6⟩
   case measure => simp [intOf]; omega
  ·obtain rfl : k = 3 := by omega
   obtain ⟨aa, ac, rfl, hA⟩ := j.foff rfl
   obtain ⟨d0, d1, d2, d3⟩ := xr.four
   have r6 := r2.below j.b
   obtain ⟨e0, e1, e2, e3⟩ := r6.four
   have f0 := r6.free 0
   have f1 := r6.free 1
   have f2 := r6.free 2
   have f3 := r6.free 3
   have bb := btr B2 j.b
   have gA := g2.below j.b
   have tA := t2.below j.b
   go_wp2
   have T6 : Touch (fun z => z = w.heap.size) wr ((((wr.setCell ⟨w.heap.size, 0, none⟩ (.slice (some ⟨G1, 0, none⟩) ng cp1)).setCell ⟨w.heap.size, 1, none⟩ (.slice aa 3 ac)).setCell ⟨w.heap.size, 2, none⟩ (.slice (some ⟨G2, 0, none⟩) nt cp2)).setCell ⟨w.heap.size, 3, none⟩ (.bool false)) :=
    Touch.setCell (Touch.setCell (Touch.setCell (Touch.setCell (S := fun z => z = w.heap.size) (Touch.refl _ _) rfl _) rfl _) rfl _) rfl _
   refine bodyPost_ret (v := .agg #[.slice (some ⟨G1, 0, none⟩) ng cp1, .slice aa 3 ac, .slice (some ⟨G2, 0, none⟩) nt cp2, .bool false]) (by simp [results, Tryz.results230, go_sem, e0, e1, e2, e3]) rfl ?_
   refine ⟨_, rfl, ?_, some ⟨G1, 0, none⟩, cp1, aa, ac, some ⟨G2, 0, none⟩, cp2, ?_, (gA.touch (T6.mono (fun k hk => by omega))).mono (fun k hk => by omega), (hA.touch (T6.mono (fun k hk => by omega))).mono (fun k hk => by omega), (tA.touch (T6.mono (fun k hk => by omega))).mono (fun k hk => by omega)⟩
   ·exact bb.trans (T6.below bb.size (fun k hk => by omega))
   ·show _ = Value.agg #[.slice _ y.guards.length _, .slice _ 3 _, .slice _ y.tells.length _, .bool false]
    rw [HGL.out, HTL.out]
theorem goW_ne {f : Nat} : ∀ (i : Nat) (y : Way), 0 < (goW ls f i y).length := by
 induction f with
 | zero => intro i y; simp [goW]
 | succ f ih =>
  intro i y
  rw [goW]
  split
  ·split
   ·rw [qG]; have := ih (i + 1) (y.guard (intoX (ls[i]?.getD noLV).f y.pots)); omega
   ·split
    ·exact ih _ _
    ·split
     ·exact ih _ _
     ·simp
  ·simp
theorem goW_len (f : Nat) : ∀ (i : Nat) (y : Way), (goW ls f i y).length <= 2 ^ f := by
 induction f with
 | zero => intro i y; simp [goW]
 | succ f ih =>
  intro i y
  have hp : 1 <= 2 ^ f := Nat.one_le_two_pow
  have h2 : 2 ^ (f + 1) = 2 ^ f + 2 ^ f := by rw [Nat.pow_succ]; omega
  rw [goW]
  split
  ·split
   ·rw [qG]
    have h3 := ih (i + 1) (y.guard (intoX (ls[i]?.getD noLV).f y.pots))
    have h4 := ih (i + 1 + (ls[i]?.getD noLV).skip.toNat) (y.guard (minusX (intoX (ls[i]?.getD noLV).f y.pots)))
    omega
   ·split
    ·have := ih (i + 1) (y.add (ls[i]?.getD noLV).pot.toNat (intoX (ls[i]?.getD noLV).f y.pots)); omega
    ·split
     ·have := ih (i + 1) (y.tell (intoX (ls[i]?.getD noLV).f y.pots)); omega
     ·simp; omega
  ·simp; omega
theorem goW_128 {f : Nat} {y : Way} (hf : f <= 7) : (goW ls f i y).length <= 128 :=
 Nat.le_trans (goW_len f i y) (Nat.le_trans (Nat.pow_le_pow_right (by omega) hf) (by decide))
theorem FOff.grown {g : Nat} (h : FOff W (fun k => k < B \/ k = G) a fs) (hg : W.grownBy W' (some G)) (hat : g = G \/ W.heap.size <= g) : FOff W' (fun k => k < B \/ k = g) a fs := fun W'' t => by
 refine h W'' ⟨t.os.trans hg.os, t.tape.trans hg.tape, t.output.trans hg.output, Nat.le_trans hg.size t.size, fun k hk hn => ?_⟩
 have hk1 : ¬ k < B := fun e => hn (Or.inl e)
 have hk2 : k ≠ G := fun e => hn (Or.inr e)
 rw [t.block k (Nat.lt_of_lt_of_le hk hg.size) (fun e => by omega)]
 exact hg.block k hk (fun e => by simp only [Option.some.injEq] at e; omega)
def noR : RowM := ⟨[], [], [], false⟩
def RowsOk (W : World) (S : Nat -> Prop) (xs : List Value) (rs : List RowM) : Prop :=
 ∀ j, j < rs.length -> ∃ ga gc aa ac ta tc, xs[j * 4]? = some (.slice ga (rs[j]?.getD noR).guards.length gc) /\ xs[j * 4 + 1]? = some (.slice aa (rs[j]?.getD noR).adds.length ac) /\ xs[j * 4 + 2]? = some (.slice ta (rs[j]?.getD noR).tells.length tc) /\ xs[j * 4 + 3]? = some (.bool (rs[j]?.getD noR).stop) /\
  FOff W S ga (rs[j]?.getD noR).guards /\ FOff W S aa (rs[j]?.getD noR).adds /\ FOff W S ta (rs[j]?.getD noR).tells
theorem RowsOk.map {S' : Nat -> Prop} (h : RowsOk W S xs rs) (hf : ∀ a fs, FOff W S a fs -> FOff W' S' a fs) : RowsOk W' S' xs rs := fun j hj => by
 obtain ⟨ga, gc, aa, ac, ta, tc, e0, e1, e2, e3, f0, f1, f2⟩ := h j hj
 exact ⟨ga, gc, aa, ac, ta, tc, e0, e1, e2, e3, hf _ _ f0, hf _ _ f1, hf _ _ f2⟩
theorem RowsOk.join {ys : List Value} {ss : List RowM} (h1 : RowsOk W S xs rs) (h2 : RowsOk W S ys ss) (hl : xs.length = rs.length * 4) : RowsOk W S (xs ++ ys) (rs ++ ss) := fun j hj => by
 rw [qG] at hj
 by_cases hjr : j < rs.length
 ·rw [qI (l₁ := rs) hjr, qI (by omega), qI (by omega), qI (by omega), qI (by omega)]
  exact h1 j hjr
 ·rw [qH (l₁ := rs) (by omega), qH (by omega), qH (by omega), qH (by omega), qH (by omega), hl]
  have := h2 (j - rs.length) (by omega)
  rw [show j * 4 - rs.length * 4 = (j - rs.length) * 4 by omega, show j * 4 + 1 - rs.length * 4 = (j - rs.length) * 4 + 1 by omega, show j * 4 + 2 - rs.length * 4 = (j - rs.length) * 4 + 2 by omega, show j * 4 + 3 - rs.length * 4 = (j - rs.length) * 4 + 3 by omega]
  exact this
structure JR (w : World) (G cap : Nat) (xs : List Value) (rs : List RowM) (W : World) : Prop where
 b : Below w.heap.size w W
 o : W.ownsRow w.heap.size 159 4 (.slice (some ⟨G, 0, none⟩) rs.length cap) rs.length xs
 r : RowsOk W (fun k => k < w.heap.size \/ k = G) xs rs
theorem JR.below (j : JR w G cap xs rs W) (h : Below W.heap.size W W') : JR w G cap xs rs W' := ⟨j.b.trans (h.mono j.b.size), own_below j.o h, j.r.map (fun _ _ f => f.below h)⟩
theorem JR.lt (j : JR w G cap xs rs W) : w.heap.size <= G /\ G < W.heap.size := by
 rcases j.o.2 with ⟨h, _⟩ | ⟨g, cap', cur, h, hg, hh, _⟩
 ·cases h
 ·simp only [Value.slice.injEq, Option.some.injEq, Addr.mk.injEq, and_true, true_and] at h
  obtain ⟨rfl, _⟩ := h
  exact ⟨hg, lt_of_block hh⟩
theorem JR.join {w1 : World} {G2 cap2 g cp n1 n2 : Nat} {ys : List Value} {ss : List RowM} (j : JR w G cap xs rs W) (j2 : JR w1 G2 cap2 ys ss W) (hb : w.heap.size <= w1.heap.size) (hG : G < w1.heap.size) (hn1 : rs.length = n1) (hn2 : ss.length = n2)
  (hown : W'.ownsRow w.heap.size 159 4 (.slice (some ⟨g, 0, none⟩) (n1 + n2) cp) (n1 + n2) (xs ++ ys)) (hg : W.grownBy W' (some G)) {H : Nat} (hat : some G = some g \/ g = H) (hH : W.heap.size = H) : JR w g cp (xs ++ ys) (rs ++ ss) W' := by
 subst hn1 hn2
 have hat' : g = G \/ W.heap.size <= g := by
  rcases hat with h | h
  ·simp only [Option.some.injEq] at h; exact Or.inl h.symm
  ·exact Or.inr (by omega)
 have r2 : RowsOk W (fun k => k < w.heap.size \/ k = G) ys ss := j2.r.map (fun _ _ f => f.mono (fun k hk => by omega))
 refine ⟨j.b.grown hg j.b.size (fun z hz => by simp only [Option.some.injEq] at hz; have := j.lt; omega), by rw [qG]; exact hown, ?_⟩
 exact (j.r.join r2 j.o.1).map (fun _ _ f => f.grown hg hat')
theorem allB_of {M : Int} (h : bnd M zs) : allB M zs = true := by
 unfold allB
 rw [List.all_eq_true]
 intro z hz
 obtain ⟨i, hi, rfl⟩ := List.getElem_of_mem hz
 have := h i
 rw [qC hi] at this
 simp only [Option.getD_some] at this
 exact inB_iff.2 this
theorem fit_ok {f : Frm} (h : fitX 10000000 f) : formB 3 2 f.1 f.2.1 f.2.2 = true := by
 simp only [formB, okN, Bool.and_eq_true, decide_eq_true_eq]
 exact ⟨⟨⟨rfl, allB_of h.bc⟩, rfl, allB_of h.bd⟩, inB_iff.2 ⟨h.k1, h.k2⟩⟩
theorem FormsAt.fv {P : List Frm} (h : FormsAt w a P) (hl : P.length = 3) : ∃ fs : List FV, fs.length = 3 /\ FormsG w a fs /\ ∀ k, k < 3 -> (fs[k]?.getD noFV).n = 3 /\ (fs[k]?.getD noFV).m = 2 /\ (fs[k]?.getD noFV).C = (P[k]?.getD noX).1 /\ (fs[k]?.getD noFV).D = (P[k]?.getD noX).2.1 /\ (fs[k]?.getD noFV).K = (P[k]?.getD noX).2.2 := by
 obtain ⟨b, off, e, a0, c0, p0, q0, x0, x1, x2, i0, j0⟩ := h 0 (by omega)
 obtain ⟨b1, off1, e1, a1, c1, p1, q1, y0, y1, y2, i1, j1⟩ := h 1 (by omega)
 obtain ⟨b2, off2, e2, a2, c2, p2, q2, z0, z1, z2, i2, j2⟩ := h 2 (by omega)
 refine ⟨[⟨a0, 3, p0, c0, 2, q0, (P[0]?.getD noX).2.2, (P[0]?.getD noX).1, (P[0]?.getD noX).2.1⟩, ⟨a1, 3, p1, c1, 2, q1, (P[1]?.getD noX).2.2, (P[1]?.getD noX).1, (P[1]?.getD noX).2.1⟩, ⟨a2, 3, p2, c2, 2, q2, (P[2]?.getD noX).2.2, (P[2]?.getD noX).1, (P[2]?.getD noX).2.1⟩], rfl, fun i hi => ?_, fun k hk => ?_⟩
 ·match i, hi with
  | 0, _ => exact ⟨b, off, e, x0, x1, x2, ⟨i0, j0, by show (3 : Nat) <= _; omega, by show (2 : Nat) <= _; omega⟩⟩
  | 1, _ => exact ⟨b1, off1, e1, y0, y1, y2, ⟨i1, j1, by show (3 : Nat) <= _; omega, by show (2 : Nat) <= _; omega⟩⟩
  | 2, _ => exact ⟨b2, off2, e2, z0, z1, z2, ⟨i2, j2, by show (3 : Nat) <= _; omega, by show (2 : Nat) <= _; omega⟩⟩
 ·match k, hk with
  | 0, _ => exact ⟨rfl, rfl, rfl, rfl, rfl⟩
  | 1, _ => exact ⟨rfl, rfl, rfl, rfl, rfl⟩
  | 2, _ => exact ⟨rfl, rfl, rfl, rfl, rfl⟩
theorem into_eq {g : FV} {P : List Frm} {fs : List FV} (hP : P.length = 3) (h : ∀ k, k < 3 -> (fs[k]?.getD noFV).C = (P[k]?.getD noX).1 /\ (fs[k]?.getD noFV).D = (P[k]?.getD noX).2.1 /\ (fs[k]?.getD noFV).K = (P[k]?.getD noX).2.2) : intoC g.C fs 3 = (intoX g P).1 /\ intoD g.C g.D fs 3 = (intoX g P).2.1 /\ intoK g.C g.K fs 3 = (intoX g P).2.2 := by
 obtain ⟨x0, x1, x2⟩ := h 0 (by omega)
 obtain ⟨y0, y1, y2⟩ := h 1 (by omega)
 obtain ⟨z0, z1, z2⟩ := h 2 (by omega)
 have t0 := toFV_at (P := P) (k := 0) (by omega)
 have t1 := toFV_at (P := P) (k := 1) (by omega)
 have t2 := toFV_at (P := P) (k := 2) (by omega)
 simp only [intoX, intoC, intoD, intoK, x0, x1, x2, y0, y1, y2, z0, z1, z2, t0, t1, t2, toFV]
 exact ⟨trivial, trivial, trivial⟩
theorem into_done {y : Way} (hy : WayOk i y) (h6 : i <= 6) (g : FV) (hs : smallB g.n g.m g.C g.D g.K = true) (w : World) (hA : g.At w) (pa : Option Addr) (cp : Nat) (hP : FormsAt w pa y.pots) {fn : Nat}
  (call : ∀ fs : List FV, fs.length = 3 -> FormsG w pa fs -> Calls Tryz.prog fn #[formV g.a g.n g.cap g.c g.m g.cap' g.K, .slice pa 3 cp] w fun e w' => Res w w' e (keepL (intoOk g.n g.m g.C g.D g.K 3 fs) (intoC g.C fs 3)) (keepL (intoOk g.n g.m g.C g.D g.K 3 fs) (intoD g.C g.D fs 3)) (keepK (intoOk g.n g.m g.C g.D g.K 3 fs) (intoK g.C g.K fs 3))) :
  Calls Tryz.prog fn #[formV g.a g.n g.cap g.c g.m g.cap' g.K, .slice pa 3 cp] w fun e w' => ∃ B1 B2 c1 c2, e = .returned (formV (some ⟨B1, 0, none⟩) 3 c1 (some ⟨B2, 0, none⟩) 2 c2 (intoX g y.pots).2.2) /\ Below w.heap.size w w' /\ w.heap.size <= B1 /\ B1 ≠ B2 /\ w.heap.size <= B2 /\ Blk w' B1 (intoX g y.pots).1 /\ Blk w' B2 (intoX g y.pots).2.1 := by
 obtain ⟨fs, hl, hG, hv⟩ := hP.fv hy.pl
 have hw6 := wb_six h6
 obtain ⟨q1, q2, q3⟩ := into_eq (g := g) hy.pl (fun k hk => ⟨(hv k hk).2.2.1, (hv k hk).2.2.2.1, (hv k hk).2.2.2.2⟩)
 obtain ⟨f1, f2, f3⟩ := hy.into h6 hs hA.D.1
 have hok : fs.all FV.ok = true := by
  rw [List.all_eq_true]
  intro x hx
  obtain ⟨k, hk, rfl⟩ := List.getElem_of_mem hx
  obtain ⟨e1, e2, e3, e4, e5⟩ := hv k (by omega)
  rw [qC hk] at e1 e2 e3 e4 e5
  simp only [Option.getD_some] at e1 e2 e3 e4 e5
  have hf := fit_ok ((hy.pf k (by omega)).mono (show wb (min i 6) <= 10000000 by have := wb_six (n := min i 6) (by omega); omega))
  unfold FV.ok
  rw [e1, e2, e3, e4, e5]; exact hf
 have hio : intoOk g.n g.m g.C g.D g.K 3 fs = true := by
  unfold intoOk
  rw [small_ok hs, hok, q1, q2, q3, fit_ok f2]; rfl
 refine (call fs hl hG).mono ?_
 rintro e w' ⟨a, n, cap, c, m, cap', B1, B2, rfl, L1, L2, b, o1, o2, g1, g2, g3⟩
 rw [hio] at L1 L2 o1 o2 ⊢
 simp only [keepL, keepK, if_true] at L1 L2 o1 o2 ⊢
 rw [q1] at L1 o1
 rw [q2] at L2 o2
 rw [q3]
 have hc := f2.c
 have hd := f2.d
 obtain rfl : n = 3 := by omega
 obtain rfl : m = 2 := by omega
 rcases o1 with h | ⟨rfl, k1⟩
 ·rw [h] at hc; cases hc
 rcases o2 with h | ⟨rfl, k2⟩
 ·rw [h] at hd; cases hd
 exact ⟨B1, B2, cap, cap', rfl, b, g1 (by omega), g3 (by omega) (by omega), g2 (by omega), k1, k2⟩
theorem sintoW_any {y : Way} (hy : WayOk i y) (h6 : i <= 6) (g : FV) (hs : smallB g.n g.m g.C g.D g.K = true) {w : World} (hA : g.At w) {pa : Option Addr} {cp : Nat} (hP : FormsAt w pa y.pots) :
  Calls Tryz.prog 227 #[formV g.a g.n g.cap g.c g.m g.cap' g.K, .slice pa 3 cp] w fun e w' => ∃ B1 B2 c1 c2, e = .returned (formV (some ⟨B1, 0, none⟩) 3 c1 (some ⟨B2, 0, none⟩) 2 c2 (intoX g y.pots).2.2) /\ Below w.heap.size w w' /\ w.heap.size <= B1 /\ B1 ≠ B2 /\ w.heap.size <= B2 /\ Blk w' B1 (intoX g y.pots).1 /\ Blk w' B2 (intoX g y.pots).2.1 :=
 into_done hy h6 g hs w hA pa cp hP (fun fs hl hG => sinto_any g.C g.D fs hA.C hA.D hA.hn hA.hm hl hG (by omega))
theorem iintoW_any {y : Way} (hy : WayOk i y) (h6 : i <= 6) (g : FV) (hs : smallB g.n g.m g.C g.D g.K = true) {w : World} (hA : g.At w) {pa : Option Addr} {cp : Nat} (hP : FormsAt w pa y.pots) :
  Calls Tryz.prog 294 #[formV g.a g.n g.cap g.c g.m g.cap' g.K, .slice pa 3 cp] w fun e w' => ∃ B1 B2 c1 c2, e = .returned (formV (some ⟨B1, 0, none⟩) 3 c1 (some ⟨B2, 0, none⟩) 2 c2 (intoX g y.pots).2.2) /\ Below w.heap.size w w' /\ w.heap.size <= B1 /\ B1 ≠ B2 /\ w.heap.size <= B2 /\ Blk w' B1 (intoX g y.pots).1 /\ Blk w' B2 (intoX g y.pots).2.1 :=
 into_done hy h6 g hs w hA pa cp hP (fun fs hl hG => iinto_any g.C g.D fs hA.C hA.D hA.hn hA.hm hl hG (by omega))
theorem ilack_any {c : Option Addr} (C D : List Int) {w : World} (hC : Ints w a 3 C) (hD : Ints w c 2 D) (bC : bnd 10000000 C) (bD : bnd 10000000 D) (bK1 : -10000000 <= K) (bK2 : K <= 10000000) (hfit : fitX 10000000 (minusX (C, D, K))) :
  Calls Tryz.prog 296 #[formV a 3 cap c 2 cap' K] w fun e w' => ∃ B1 B2, e = .returned (formV (some ⟨B1, 0, none⟩) 3 3 (some ⟨B2, 0, none⟩) 2 2 (-K - 1)) /\ Below w.heap.size w w' /\ w.heap.size <= B1 /\ B1 ≠ B2 /\ w.heap.size <= B2 /\ Blk w' B1 (mulL (-1) C) /\ Blk w' B2 (mulL (-1) D) := by
 have hok : formB 3 2 (mulL (-1) C) (mulL (-1) D) (-K - 1) = true := by
  have := fit_ok hfit
  simp only [minusX] at this
  rw [show -1 * K - 1 = -K - 1 by omega] at this
  exact this
 have HOK : Hid _ := hok
 have lC : (mulL (-1) C).length = 3 := by rw [mulL_len]; exact hC.1
 have lD : (mulL (-1) D).length = 2 := by rw [mulL_len]; exact hD.1
 clear hok hfit
 have A2 : Below w.heap.size w ((w.alloc (.cells #[.slice a 3 cap, .slice c 2 cap', .int .i64 K] 151)).alloc (.cells #[.slice none 0 0, .slice none 0 0, .int .i64 0] 151)) := (bal).alloc (by simp) _
 have rr := Cel.new (w.alloc (.cells #[.slice a 3 cap, .slice c 2 cap', .int .i64 K] 151)) [.slice none 0 0, .slice none 0 0, .int .i64 0] 151
 rw [World.size_alloc] at rr
 go_enter Tryz.func296, Tryz.ntmps296
 go_wp2_with fail
 refine (times_any C D (hC.below A2) (hD.below A2) (tim_bnd bC (by omega) (by omega)) (tim_bnd bD (by omega) (by omega)) (tim_num bK1 bK2 (by omega) (by omega))).mono ?_
 rintro e w3 ⟨B1, B2, rfl, b3, y1, y2, y3, k1, k2⟩
 rw [show (-1 : Int) * K = -K by omega]
 rw [World.size_alloc, World.size_alloc] at y1 y3
 have B3 := btr A2 b3
 have r3 := rr.below b3
 have l1 := k1.lt
 have l2 := k2.lt
 have lr := r3.lt
 clear A2 b3 rr
 have hw : IntKind.i64.wrap (-K - 1) = -K - 1 := wrap_id (by omega) (by omega)
 have A4 : Below w3.heap.size w3 (w3.alloc (.cells #[.slice (some ⟨B1, 0, none⟩) 3 3, .slice (some ⟨B2, 0, none⟩) 2 2, .int .i64 (-K - 1)] 151)) := bal
 have m1 := k1.below A4
 have m2 := k2.below A4
 have r4 := r3.below A4
 have B4 := btr B3 A4
 clear k1 k2 r3 A4 B3
 go_wp2_with fail
 refine (orN_yes (mulL (-1) C) (mulL (-1) D) (m1.ints' lC) (m2.ints' lD) (by omega) (by omega) HOK.out).mono ?_
 rintro e w5 ⟨rfl, b5⟩
 have n1 := m1.below b5
 have n2 := m2.below b5
 have r5 := r4.below b5
 have B5 := btr B4 b5
 obtain ⟨e0, e1, e2, e3, e4, e5⟩ := r5.trio
 have r6 := ((r5.set 0 (.slice (some ⟨B1, 0, none⟩) 3 3)).set 1 (.slice (some ⟨B2, 0, none⟩) 2 2)).set 2 (.int .i64 (-K - 1))
 simp only [qA, qB] at r6
 obtain ⟨h0, h1, h2, h3, h4, h5⟩ := r6.trio
 clear m1 m2 r4 B4 b5
 go_wp2
 refine bodyPost_ret (v := formV (some ⟨B1, 0, none⟩) 3 3 (some ⟨B2, 0, none⟩) 2 2 (-K - 1)) (by simp [results, Tryz.results296, go_sem, h0, h1, h2]) rfl ?_
 refine ⟨B1, B2, rfl, ?_, by omega, y2, by omega, ?_, ?_⟩
 ·exact ((B5.setCell (by simp only []; omega) _).setCell (by simp only []; omega) _).setCell (by simp only []; omega) _
 ·exact ((n1.so).so).so
 ·exact ((n2.so).so).so
theorem way0_get (hk : k < 3) : way0.pots[k]?.getD ([], [], 0) = (([0, 0, 0] : List Int).set k 1, [0, 0], 0) := by
 match k, hk with
 | 0, _ => rfl
 | 1, _ => rfl
 | 2, _ => rfl
theorem ipots_any : Calls Tryz.prog 256 #[] w fun e w' => ∃ v xs, e = .returned v /\ JV w v 3 xs way0.pots w' := by
 obtain ⟨zi, hi, hz0, hz1, hz2⟩ := info_parts Tryz.infoForm
 go_enter Tryz.func256, Tryz.ntmps256
 go_wp2_with fail
 go_loopw [1, 2, 3] (fun r _ i wr => ∃ (k : Nat) (xs : List Value), k <= 3 /\ i = .int .i64 k /\ JV w r k xs way0.pots wr) (fun _ _ i _ => 3 - (intOf i).toNat)
 case atStart => exact ⟨0, [], by omega, rfl, JV.nil w _⟩
 case round =>
  obtain ⟨k, xs, hk, rfl, j⟩ := hrel
  by_cases hlt : k < 3
  ·obtain ⟨va, vc, rfl⟩ := j.isSlice
   have hlt' : (k : Int) < 3 := by omega
   have HT : Hid _ := way0_get hlt
   go_wp2_with fail
   refine (ipot_any).mono ?_
   rintro ee w3 ⟨a0, n0, x0, c0, m0, y0, Z1, Z2, rfl, L1, L2, b3, o1, o2, g1, g2, g3⟩
   rw [potC_in (k : Int) k rfl (by omega)] at L1 o1
   rw [potD_in (k : Int) (by omega) (by omega)] at L2 o2
   obtain rfl : n0 = 3 := by rw [<- L1]; simp
   obtain rfl : m0 = 2 := by rw [<- L2]; simp
   rcases o1 with h | ⟨rfl, k1⟩
   ·rw [h] at L1; cases L1
   rcases o2 with h | ⟨rfl, k2⟩
   ·cases h
   have z1 := g1 (by omega)
   have z2 := g2 (by omega)
   clear g1 g2 g3
   have j3 := j.below b3
   have sz := j.b.size
   have sz3 := b3.size
   have A : Below w3.heap.size w3 (w3.alloc (.cells #[.slice (some ⟨Z1, 0, none⟩) 3 x0, .slice (some ⟨Z2, 0, none⟩) 2 y0, .int .i64 0] 151)) := bal
   have j4 := j3.below A
   have k1' := k1.below A
   have k2' := k2.below A
   have n1 : (Value.slice va k vc).ownBlock ≠ some Z1 := fun e => by have := (j.own e).2; omega
   have n2 : (Value.slice va k vc).ownBlock ≠ some Z2 := fun e => by have := (j.own e).2; omega
   have l3 : (([0, 0, 0] : List Int).set k 1).length = 3 := by simp
   clear j j3
   go_wp2_with (at_builtin; go_must (refine wpList_append_lies _ rfl (.tmp 6) (.tmp 9) 157 rfl w.heap.size 151 zi _ 3 56 Tryz.underlying157 hi hz0 hz1 hz2 rfl (by decide) (.slice va k vc) k xs rfl j4.o ⟨w3.heap.size, 0, none⟩ 1 1 [.slice (some ⟨Z1, 0, none⟩) 3 x0, .slice (some ⟨Z2, 0, none⟩) 2 y0, .int .i64 0] rfl rfl (World.news_of_block (cs := #[.slice (some ⟨Z1, 0, none⟩) 3 x0, .slice (some ⟨Z2, 0, none⟩) 2 y0, .int .i64 0]) (t := 151) (fr := (0, 0)) (heap_alloc_new w3 _)) (by simp [Value.oneCell']) (by omega) (by unfold maxLen; omega) (by omega) (by rw [World.size_alloc]; omega) _ rfl ?_); intro g cp w4 hown hgrow hat hlt1)
   have j5 := j4.app hown hgrow hat rfl (k1'.ints' l3) (k2'.ints' rfl) n1 n2 (by omega) (by omega) HT.out
   clear hown hgrow hat j4 k1 k2 k1' k2'
   go_wp2
   go_roundw
   case rel => exact ⟨k + 1, _, by omega, by go_num, j5⟩
   case measure => simp [intOf]; omega
  ·obtain rfl : k = 3 := by omega
   go_wp2
   go_ret
   exact ⟨_, xs, rfl, j⟩
theorem Ints.by (h : Ints W a n zs) (t : Touch (fun x => x = G) W W') (hne : ∀ b o, a = some ⟨b, o, none⟩ -> b ≠ G) : Ints W' a n zs := by
 refine ⟨h.1, fun i hi => ?_⟩
 obtain ⟨b, off, e, hc⟩ := h.2 i hi
 refine ⟨b, off, e, ?_⟩
 rw [World.cell?_of_block (t.block b (block_lt hc) (hne b off e))]
 exact hc
theorem JF.put {base : World} {cp : Nat} (j : JF base G cp 3 xs fs W) (hn : fs.length = 3) {p : Nat} (hp : p < 3) {B1 B2 ca cc : Nat} {C D : List Int} {K : Int} (k1 : Blk W B1 C) (l1 : C.length = 3) (k2 : Blk W B2 D) (l2 : D.length = 2) (n1 : B1 ≠ G) (n2 : B2 ≠ G) :
  FormsAt (((W.setCell ⟨G, p * 3, none⟩ (.slice (some ⟨B1, 0, none⟩) 3 ca)).setCell ⟨G, p * 3 + 1, none⟩ (.slice (some ⟨B2, 0, none⟩) 2 cc)).setCell ⟨G, p * 3 + 2, none⟩ (.int .i64 K)) (some ⟨G, 0, none⟩) (fs.set p (C, D, K)) := by
 have hT := j.t
 have hx := j.o.1
 rcases j.o.2 with ⟨h, _⟩ | ⟨g, cap', cur, h, hg, hh, hl, _, hcs, ht⟩
 ·cases h
 simp only [Value.slice.injEq, Option.some.injEq, Addr.mk.injEq, and_true, true_and] at h
 obtain ⟨rfl, rfl⟩ := h
 have cel : Cel W G cur.toList 151 := by unfold Cel; simpa using hh
 have hlen : 9 <= cur.toList.length := by
  have := congrArg List.length ht
  rw [List.length_take, hx] at this
  omega
 have hat : ∀ i, i < 9 -> cur.toList[i]? = xs[i]? := fun i hi => by
  rw [<- ht, List.getElem?_take, if_pos (by omega)]
 have c3 := ((cel.set (p * 3) (.slice (some ⟨B1, 0, none⟩) 3 ca)).set (p * 3 + 1) (.slice (some ⟨B2, 0, none⟩) 2 cc)).set (p * 3 + 2) (.int .i64 K)
 have tt : Touch (fun x => x = G) W (((W.setCell ⟨G, p * 3, none⟩ (.slice (some ⟨B1, 0, none⟩) 3 ca)).setCell ⟨G, p * 3 + 1, none⟩ (.slice (some ⟨B2, 0, none⟩) 2 cc)).setCell ⟨G, p * 3 + 2, none⟩ (.int .i64 K)) := (((Touch.refl (fun x => x = G) W).setCell rfl _).setCell rfl _).setCell rfl _
 have m1 := (k1.ints' l1).by tt (fun b o e => by simp only [Option.some.injEq, Addr.mk.injEq, and_true] at e; omega)
 have m2 := (k2.ints' l2).by tt (fun b o e => by simp only [Option.some.injEq, Addr.mk.injEq, and_true] at e; omega)
 intro i hi
 rw [List.length_set, hn] at hi
 by_cases e : p = i
 ·subst e
  rw [qJ (by omega)]
  refine ⟨G, 0, rfl, _, _, ca, cc, ?_, ?_, ?_, m1, m2⟩
  ·rw [Nat.zero_add, c3.cell, qF (by omega), qF (by omega), qJ (by omega)]
  ·rw [Nat.zero_add, c3.cell, qF (by omega), qJ (by rw [List.length_set]; omega)]
  ·rw [Nat.zero_add, c3.cell, qJ (by rw [List.length_set, List.length_set]; omega)]; rfl
 ·rw [qF e]
  obtain ⟨a', c', x, y, e0, e1, e2, i1, i2, q1, q2⟩ := hT i hi
  refine ⟨G, 0, rfl, a', c', x, y, ?_, ?_, ?_, i1.by tt q1, i2.by tt q2⟩
  ·rw [Nat.zero_add, c3.cell, qF (by omega), qF (by omega), qF (by omega), hat _ (by omega)]; exact e0
  ·rw [Nat.zero_add, c3.cell, qF (by omega), qF (by omega), qF (by omega), hat _ (by omega)]; exact e1
  ·rw [Nat.zero_add, c3.cell, qF (by omega), qF (by omega), qF (by omega), hat _ (by omega)]; exact e2
theorem icopied_any {c : Option Addr} (C D : List Int) {w : World} (hC : Ints w a 3 C) (hD : Ints w c 2 D) :
  Calls Tryz.prog 349 #[formV a 3 cap c 2 cap' K] w fun e w' => ∃ B1 B2 c1 c2, e = .returned (formV (some ⟨B1, 0, none⟩) 3 c1 (some ⟨B2, 0, none⟩) 2 c2 K) /\ Below w.heap.size w w' /\ w.heap.size <= B1 /\ B1 ≠ B2 /\ w.heap.size <= B2 /\ Ints w' (some ⟨B1, 0, none⟩) 3 C /\ Ints w' (some ⟨B2, 0, none⟩) 2 D := by
 have H1 : TimesH w a cap c cap' K ((w.alloc (Obj.cells #[Value.slice a 3 cap, Value.slice c 2 cap', Value.int IntKind.i64 K] 151)).alloc (Obj.cells #[Value.slice none 0 0, Value.slice none 0 0, Value.int IntKind.i64 0] 151)) :=
  ⟨(Cel.new w _ _).alloc _, by have := Cel.new (w.alloc (Obj.cells #[Value.slice a 3 cap, Value.slice c 2 cap', Value.int IntKind.i64 K] 151)) [.slice none 0 0, .slice none 0 0, .int .i64 0] 151; rw [World.size_alloc] at this; exact this, (bal).alloc (by simp) _⟩
 go_enter Tryz.func349, Tryz.ntmps349
 go_upto_region 1 with fail
 obtain ⟨W0, hW0⟩ : ∃ w2, w2 = (w.alloc (Obj.cells #[Value.slice a 3 cap, Value.slice c 2 cap', Value.int IntKind.i64 K] 151)).alloc (Obj.cells #[Value.slice none 0 0, Value.slice none 0 0, Value.int IntKind.i64 0] 151) := ⟨_, rfl⟩
 rw [<- hW0] at H1 ⊢
 clear hW0
 have KP : Hid (∀ W, Below W0.heap.size W0 W -> TimesH w a cap c cap' K W) := fun W hW => H1.below hW
 have lr := H1.r.lt
 have c0 : Below W0.heap.size W0 W0.drew := (Below.refl _ _).drew
 have hSS : (W0.drew.cell? ⟨w.heap.size, 0, none⟩ = some (.slice a 3 cap) /\ W0.drew.cell? ⟨w.heap.size, 1, none⟩ = some (.slice c 2 cap') /\ W0.drew.cell? ⟨w.heap.size, 2, none⟩ = some (.int .i64 K)) /\ True := ⟨(KP.out _ c0).cells, trivial⟩
 have hb0 := H1.b
 clear H1
 refine wp_region_ends (fun w' => w'.cell? ⟨w.heap.size, 0, none⟩ = some (.slice a 3 cap) /\ w'.cell? ⟨w.heap.size, 1, none⟩ = some (.slice c 2 cap') /\ w'.cell? ⟨w.heap.size, 2, none⟩ = some (.int .i64 K)) (fun _ => True) 9 (by kernel_rfl) ?_
 refine tkl 0 rfl hSS ?_
 refine tkl 1 rfl hSS ?_
 refine tkl 3 rfl hSS ?_
 refine tkl 4 rfl hSS ?_
 refine tkl 6 rfl hSS ?_
 refine tkl 7 rfl hSS ?_
 clear hSS
 have sb0 := hb0.size
 refine wpAnyE_one (i := 2) (by kernel_rfl) rfl (fun K' hK => ?_)
 go_simp
 refine (clone_any _ _ C _ ((hC.below hb0).below c0) (by omega) (by omega)).mono ?_
 rintro ee w1 ⟨v1, rfl, j1⟩
 have e1 := below_of_drew j1.b
 obtain ⟨a1, p1, B1, rfl, o1, g1⟩ := j1.ownx hC.1
 have i1 := o1.ints
 obtain ⟨rfl, -, -⟩ := o1.pos (by omega)
 have y1 : W0.heap.size <= B1 := g1 (by omega)
 have l1 := o1.lt (by omega)
 clear j1 o1 g1
 (try dsimp only)
 refine kk0 hK ((KP.out _ e1).cells) ?_
 clear hK K'
 refine wpAnyE_one (i := 5) (by kernel_rfl) rfl (fun K' hK => ?_)
 go_simp
 refine (clone_any _ _ D _ ((hD.below hb0).below e1) (by omega) (by omega)).mono ?_
 rintro ee w2 ⟨v2, rfl, j2⟩
 have e2 := e1.trans (j2.b.mono e1.size)
 have i1' := i1.below j2.b
 obtain ⟨a2, p2, B2, rfl, o2, g2⟩ := j2.ownx hD.1
 have i2 := o2.ints
 obtain ⟨rfl, -, -⟩ := o2.pos (by omega)
 have y2 : w1.heap.size <= B2 := g2 (by omega)
 have l2 := o2.lt (by omega)
 have s1 := e1.size
 have s2 := j2.b.size
 clear j2 o2 g2 i1
 (try dsimp only)
 refine kk0 hK ((KP.out _ e2).cells) ?_
 clear hK K'
 refine wpAnyE_one (i := 8) (by kernel_rfl) rfl (fun K' hK => ?_)
 go_simp
 refine kk0 hK ((KP.out _ e2).cells) ?_
 clear hK K'
 have HY := KP.out _ e2
 obtain ⟨r0, r1, r2, r3, r4, r5⟩ := HY.room
 obtain ⟨s0', s1', s2', -, -, -⟩ := HY.r.trio
 have T : Touch (fun z => z = w.heap.size + 1) w2 (((w2.setCell ⟨w.heap.size + 1, 0, none⟩ (.slice (some ⟨B1, 0, none⟩) 3 p1)).setCell ⟨w.heap.size + 1, 1, none⟩ (.slice (some ⟨B2, 0, none⟩) 2 p2)).setCell ⟨w.heap.size + 1, 2, none⟩ (.int .i64 K)) := (((Touch.refl (fun z => z = w.heap.size + 1) w2).setCell rfl _).setCell rfl _).setCell rfl _
 have r6 := ((HY.r.set 0 (.slice (some ⟨B1, 0, none⟩) 3 p1)).set 1 (.slice (some ⟨B2, 0, none⟩) 2 p2)).set 2 (.int .i64 K)
 simp only [qA, qB] at r6
 have p6 := HY.p.touch T (fun h => by have := h; omega)
 obtain ⟨h0, h1, h2, -, -, -⟩ := r6.trio
 obtain ⟨x0, x1, x2, -, -, -⟩ := p6.trio
 refine wpAnyE_one (i := 9) (by kernel_rfl) rfl (fun K' hK => ?_)
 go_simp
 refine hK.out _ _ ⟨⟨x0, x1, x2⟩, fun h => absurd (show true = false from h) (by decide)⟩ ?_
 clear hK K'
 refine wod ?_ _
 have q1 := i1'.by T (fun b o e => by simp only [Option.some.injEq, Addr.mk.injEq, and_true] at e; omega)
 have q2 := i2.by T (fun b o e => by simp only [Option.some.injEq, Addr.mk.injEq, and_true] at e; omega)
 have BB := (hb0.trans (e2.mono hb0.size)).trans (T.below (by omega) (fun z hz => by omega))
 clear HY r0 r1 r2 r3 r4 r5 s0' s1' s2' r6 p6 x0 x1 x2 T i1' i2
 go_wp2
 refine bodyPost_ret (v := formV (some ⟨B1, 0, none⟩) 3 p1 (some ⟨B2, 0, none⟩) 2 p2 K) (by simp [results, Tryz.results349, go_sem, h0, h1, h2]) rfl ?_
 exact ⟨B1, B2, p1, p2, rfl, BB, by omega, by omega, by omega, q1, q2⟩
theorem Tryz.copiedForm (v : Value) (w : World) : (Go.method 545 151 v "loop.example/concord/impl.copied").run Tryz.prog w = .ok (349, v) w := by kernel_rfl
theorem icopiesBy_any (fs : List Frm) {w : World} (hN : fs.length = N) (hF : FormsAt w ad fs) (hfit : ∀ k, k < N -> fitX 10000000 (fs[k]?.getD ([], [], 0))) (hN1 : N <= 1048576) :
  Calls Tryz.prog 304 #[.slice ad N cap, .func (.methodOf 151 "loop.example/concord/impl.copied") #[] #[]] w fun e w' => ∃ v xs, e = .returned v /\ JV w v N xs fs w' := by
 have HN : Hid (fs.length = N) := hN
 have HFT : Hid _ := hfit
 have HF : Hid (FormsAt w ad fs) := hF
 clear hN hfit hF
 obtain ⟨zi, hi, hz0, hz1, hz2⟩ := info_parts Tryz.infoForm
 have hm := Tryz.copiedForm
 go_enter Tryz.func304, Tryz.ntmps304
 go_wp2_with fail
 go_loopw [5, 7, 10] (fun r _ i wr => ∃ (k : Nat) (xs : List Value), k <= N /\ i = .int .i64 k /\ JV w r k xs fs wr) (fun _ _ i _ => N - (intOf i).toNat)
 case atStart => exact ⟨0, [], qN _, rfl, JV.nil w _⟩
 case round =>
  obtain ⟨k, xs, hk, rfl, j⟩ := hrel
  by_cases hlt : k < N
  ·obtain ⟨va, vc, rfl⟩ := j.isSlice
   have hlt' : (k : Int) < N := by omega
   obtain ⟨b, off, rfl, a', c', ca, cc, c0, c1, c2, iC, iD⟩ := (HF.out.keep j.b) k (by rw [HN.out]; exact hlt)
   have hfit := HFT.out k hlt
   generalize HG : fs[k]?.getD ([], [], 0) = f at *
   have HT : Hid (fs[k]?.getD ([], [], 0) = f) := HG
   clear HG
   obtain ⟨fC, fD, fK⟩ := f
   have lC : fC.length = 3 := hfit.c
   have lD : fD.length = 2 := hfit.d
   simp only at c2 iC iD
   clear hfit
   have A1 : Below wr.heap.size wr (wr.alloc (.cells #[.slice a' 3 ca, .slice c' 2 cc, .int .i64 fK] 151)) := bal
   go_wp2_with fail
   refine (icopied_any fC fD (iC.below A1) (iD.below A1)).mono ?_
   rintro ee w3 ⟨Z1, Z2, x0, y0, rfl, b3, z1, z2, z3, k1, k2⟩
   rw [World.size_alloc] at z1 z3
   have b3' := A1.trans (b3.mono A1.size)
   have j3 := j.below b3'
   have sz := j.b.size
   have sz3 := b3'.size
   have A : Below w3.heap.size w3 (w3.alloc (.cells #[.slice (some ⟨Z1, 0, none⟩) 3 x0, .slice (some ⟨Z2, 0, none⟩) 2 y0, .int .i64 fK] 151)) := bal
   have j4 := j3.below A
   have k1' := k1.below A
   have k2' := k2.below A
   have n1 : (Value.slice va k vc).ownBlock ≠ some Z1 := fun e => by have := (j.own e).2; omega
   have n2 : (Value.slice va k vc).ownBlock ≠ some Z2 := fun e => by have := (j.own e).2; omega
   clear j j3 c0 c1 c2 iC iD A1 b3 b3'
   go_wp2_with (at_builtin; go_must (refine wpList_append_lies _ rfl (.tmp 14) (.tmp 18) 157 rfl w.heap.size 151 zi _ 3 56 Tryz.underlying157 hi hz0 hz1 hz2 rfl (by decide) (.slice va k vc) k xs rfl j4.o ⟨w3.heap.size, 0, none⟩ 1 1 [.slice (some ⟨Z1, 0, none⟩) 3 x0, .slice (some ⟨Z2, 0, none⟩) 2 y0, .int .i64 fK] rfl rfl (World.news_of_block (cs := #[.slice (some ⟨Z1, 0, none⟩) 3 x0, .slice (some ⟨Z2, 0, none⟩) 2 y0, .int .i64 fK]) (t := 151) (fr := (0, 0)) (heap_alloc_new w3 _)) (by simp [Value.oneCell']) (by omega) (by unfold maxLen; omega) (by omega) (by rw [World.size_alloc]; omega) _ rfl ?_); intro g cp w4 hown hgrow hat hlt1)
   have j5 := j4.app hown hgrow hat rfl k1' k2' n1 n2 (by omega) (by omega) HT.out
   clear hown hgrow hat j4 k1 k2 k1' k2'
   go_wp2
   go_roundw
   case rel => exact ⟨k + 1, _, by omega, by go_num, j5⟩
   case measure => simp [intOf]; omega
  ·obtain rfl : k = N := by omega
   go_wp2
   go_ret
   exact ⟨_, xs, rfl, j⟩
theorem icopies_any (fs : List Frm) {w : World} (hN : fs.length = N) (hF : FormsAt w ad fs) (hfit : ∀ k, k < N -> fitX 10000000 (fs[k]?.getD ([], [], 0))) (hN1 : N <= 1048576) :
  Calls Tryz.prog 292 #[.slice ad N cap] w fun e w' => ∃ v xs, e = .returned v /\ JV w v N xs fs w' := by
 go_enter Tryz.func292, Tryz.ntmps292
 go_wp2_with fail
 refine (icopiesBy_any fs hN hF hfit hN1).mono ?_
 rintro e w1 ⟨v, xs, rfl, j⟩
 go_wp2
 go_ret
 exact ⟨v, xs, rfl, j⟩
abbrev gtkV (h : Bool) (a : Option Addr) (n cap : Nat) (a' : Option Addr) (n' cap' : Nat) : Value := .agg #[.bool h, .slice a n cap, .slice a' n' cap']
theorem icopGot_any {h : Bool} {P : Nat} (zs : List Int) {Q m cap' : Nat} (ys : List Int) {w : World} (hP : Blk w P zs) (hl : zs.length = n) (hn : n <= 1048576) (hQ : Blk w Q ys) (hl' : ys.length = m) (hm : m <= 1048576) :
  Calls Tryz.prog 353 #[gtkV h (some ⟨P, 0, none⟩) n cap (some ⟨Q, 0, none⟩) m cap'] w fun e w' => ∃ a1 c1 B1 a2 c2 B2, e = .returned (gtkV h a1 n c1 a2 m c2) /\ Below w.heap.size w w' /\ OwnX w' a1 B1 n zs /\ OwnX w' a2 B2 m ys /\ (0 < n -> w.heap.size <= B1) /\ (0 < m -> w.heap.size <= B2) /\ (0 < n -> 0 < m -> B1 ≠ B2) := by
 have p0 := (Cel.new w [.bool h, .slice (some ⟨P, 0, none⟩) n cap, .slice (some ⟨Q, 0, none⟩) m cap'] 222).alloc (.cells #[.bool false, .slice none 0 0, .slice none 0 0] 222)
 have r0 := Cel.new (w.alloc (.cells #[.bool h, .slice (some ⟨P, 0, none⟩) n cap, .slice (some ⟨Q, 0, none⟩) m cap'] 222)) [.bool false, .slice none 0 0, .slice none 0 0] 222
 rw [World.size_alloc] at r0
 have B0 := ((Below.refl w.heap.size w).alloc (qM _) (.cells #[.bool h, .slice (some ⟨P, 0, none⟩) n cap, .slice (some ⟨Q, 0, none⟩) m cap'] 222)).alloc (by simp) (.cells #[.bool false, .slice none 0 0, .slice none 0 0] 222)
 have HL : Hid _ := hl
 have HL' : Hid _ := hl'
 clear hl hl'
 go_enter Tryz.func353, Tryz.ntmps353
 go_upto_region 1 with fail
 obtain ⟨W0, hW0⟩ : ∃ W, W = (w.alloc (.cells #[.bool h, .slice (some ⟨P, 0, none⟩) n cap, .slice (some ⟨Q, 0, none⟩) m cap'] 222)).alloc (.cells #[.bool false, .slice none 0 0, .slice none 0 0] 222) := ⟨_, rfl⟩
 rw [<- hW0] at p0 r0 B0 ⊢
 clear hW0
 have KP : Hid (∀ W, Below W0.heap.size W0 W -> W.cell? ⟨w.heap.size, 0, none⟩ = some (.bool h) /\ W.cell? ⟨w.heap.size, 1, none⟩ = some (.slice (some ⟨P, 0, none⟩) n cap) /\ W.cell? ⟨w.heap.size, 2, none⟩ = some (.slice (some ⟨Q, 0, none⟩) m cap')) := fun W hW => ⟨(p0.below hW).cell 0, (p0.below hW).cell 1, (p0.below hW).cell 2⟩
 have c0 : Below W0.heap.size W0 W0.drew := (Below.refl _ _).drew
 have hSS : (W0.drew.cell? ⟨w.heap.size, 0, none⟩ = some (.bool h) /\ W0.drew.cell? ⟨w.heap.size, 1, none⟩ = some (.slice (some ⟨P, 0, none⟩) n cap) /\ W0.drew.cell? ⟨w.heap.size, 2, none⟩ = some (.slice (some ⟨Q, 0, none⟩) m cap')) /\ True := ⟨KP.out _ c0, trivial⟩
 have s0 := r0.lt
 refine wp_region_ends (fun w' => w'.cell? ⟨w.heap.size, 0, none⟩ = some (.bool h) /\ w'.cell? ⟨w.heap.size, 1, none⟩ = some (.slice (some ⟨P, 0, none⟩) n cap) /\ w'.cell? ⟨w.heap.size, 2, none⟩ = some (.slice (some ⟨Q, 0, none⟩) m cap')) (fun _ => True) 9 (by kernel_rfl) ?_
 refine tkl 0 rfl hSS ?_
 refine tkl 1 rfl hSS ?_
 refine tkl 2 rfl hSS ?_
 refine tkl 3 rfl hSS ?_
 refine tkl 5 rfl hSS ?_
 refine tkl 6 rfl hSS ?_
 clear hSS
 refine wpAnyE_one (i := 4) (by kernel_rfl) rfl (fun K' hK => ?_)
 go_simp
 refine (cloneN_any zs ((hP.below B0).below c0) HL.out hn).mono ?_
 rintro ee w1 ⟨a1, c1, B1, rfl, bd1, o1, g1⟩
 have b1 := below_of_drew bd1
 have g1' : 0 < n -> W0.heap.size <= B1 := g1
 (try dsimp only)
 refine kk0 hK (KP.out _ b1) ?_
 clear hK K' g1 bd1
 refine wpAnyE_one (i := 7) (by kernel_rfl) rfl (fun K' hK => ?_)
 go_simp
 refine (cloneN_any ys ((hQ.below B0).below b1) HL'.out hm).mono ?_
 rintro ee w2 ⟨a2, c2, B2, rfl, bd2, o2, g2⟩
 have b2 := b1.trans (bd2.mono b1.size)
 have o1' := o1.below bd2
 have hne : 0 < n -> 0 < m -> B1 ≠ B2 := fun h1 h2 => by have := o1.lt h1; have := g2 h2; omega
 have s1 := b1.size
 have g2' : 0 < m -> W0.heap.size <= B2 := fun h2 => by have := g2 h2; omega
 (try dsimp only)
 refine kk0 hK (KP.out _ b2) ?_
 clear hK K' o1 bd2 g2
 refine wpAnyE_one (i := 8) (by kernel_rfl) rfl (fun K' hK => ?_)
 go_simp
 refine kk0 hK (KP.out _ b2) ?_
 clear hK K'
 have r2 := r0.below b2
 have z0 := r2.free 0
 have z1 := r2.free 1
 have z2 := r2.free 2
 have y0 := r2.cell 0
 have y1 := r2.cell 1
 have y2 := r2.cell 2
 simp only [qD, qE] at y0 y1 y2
 have T : Touch (fun z => z = w.heap.size + 1) w2 (((w2.setCell ⟨w.heap.size + 1, 0, none⟩ (.bool h)).setCell ⟨w.heap.size + 1, 1, none⟩ (.slice a1 n c1)).setCell ⟨w.heap.size + 1, 2, none⟩ (.slice a2 m c2)) := (((Touch.refl (fun z => z = w.heap.size + 1) w2).setCell rfl _).setCell rfl _).setCell rfl _
 have r6 := ((r2.set 0 (.bool h)).set 1 (.slice a1 n c1)).set 2 (.slice a2 m c2)
 simp only [qA, qB] at r6
 have p6 := (p0.below b2).touch T (fun h => by have : w.heap.size = w.heap.size + 1 := h; omega)
 have h0 := r6.cell 0
 have h1 := r6.cell 1
 have h2 := r6.cell 2
 have x0 := p6.cell 0
 have x1 := p6.cell 1
 have x2 := p6.cell 2
 simp only [qD, qE] at h0 h1 h2 x0 x1 x2
 refine wpAnyE_one (i := 9) (by kernel_rfl) rfl (fun K' hK => ?_)
 go_simp
 refine hK.out _ _ ⟨⟨x0, x1, x2⟩, fun h => absurd (show true = false from h) (by decide)⟩ ?_
 clear hK K'
 refine wod ?_ _
 have q1 := o1'.touch T (fun h0 e => by have e : B1 = w.heap.size + 1 := e; have := g1' h0; omega)
 have q2 := o2.touch T (fun h0 e => by have e : B2 = w.heap.size + 1 := e; have := g2' h0; omega)
 have BB := (B0.trans (b2.mono B0.size)).trans (T.below (by have := b2.size; omega) (fun z hz => by omega))
 clear r2 z0 z1 z2 y0 y1 y2 r6 p6 x0 x1 x2 T o1' o2
 go_wp2
 refine bodyPost_ret (v := gtkV h a1 n c1 a2 m c2) (by simp [results, Tryz.results353, go_sem, h0, h1, h2]) rfl ?_
 exact ⟨a1, c1, B1, a2, c2, B2, rfl, BB, q1, q2, fun h => by have := g1' h; omega, fun h => by have := g2' h; omega, hne⟩
def GSM (w : World) (ad : Option Addr) (fs : List GV) : Prop :=
 ∀ i, i < fs.length -> ∃ b off, ad = some ⟨b, off, none⟩ /\ (∀ r, r < 3 -> w.cell? ⟨b, off + i * 3 + r, none⟩ = (fs[i]?.getD noG).cs[r]?) /\ GM w (fs[i]?.getD noG)
theorem GSM.below {w' : World} {fs : List GV} (h : GSM w ad fs) (hb : Below w.heap.size w w') : GSM w' ad fs := fun i hi => by
 obtain ⟨b, off, e, hc, hr⟩ := h i hi
 have hl : b < w.heap.size := block_lt (v := ((fs[i]?.getD noG).cs[0]?).getD (.bool false)) ((hc 0 (by omega)).trans rfl)
 exact ⟨b, off, e, fun r hr => by rw [hb.cell (p := ⟨b, off + i * 3 + r, none⟩) hl]; exact hc r hr, hr.below hb⟩
def GSG (w : World) (ad : Option Addr) (fs : List GV) : Prop :=
 ∀ i, i < fs.length -> ∃ b off, ad = some ⟨b, off, none⟩ /\ (∀ r, r < 3 -> w.cell? ⟨b, off + i * 3 + r, none⟩ = (fs[i]?.getD noG).cs[r]?) /\ GG w (fs[i]?.getD noG)
theorem GSG.below {w' : World} {fs : List GV} (h : GSG w ad fs) (hb : Below w.heap.size w w') : GSG w' ad fs := fun i hi => by
 obtain ⟨b, off, e, hc, hr⟩ := h i hi
 have hl : b < w.heap.size := block_lt (v := ((fs[i]?.getD noG).cs[0]?).getD (.bool false)) ((hc 0 (by omega)).trans rfl)
 exact ⟨b, off, e, fun r hr => by rw [hb.cell (p := ⟨b, off + i * 3 + r, none⟩) hl]; exact hc r hr, hr.below hb⟩
theorem GSM.g {fs : List GV} (h : GSM w ad fs) (hs : ∀ i, i < fs.length -> GZ (fs[i]?.getD noG)) : GSG w ad fs := fun i hi => by
 obtain ⟨b, off, e, hc, hr⟩ := h i hi
 exact ⟨b, off, e, hc, hr.g (hs i hi)⟩
theorem cellsG {b : Nat} {f : GV} (h : ∀ r, r < 3 -> w.cell? ⟨b, o + r, none⟩ = f.cs[r]?) : w.cell? ⟨b, o, none⟩ = some (.bool f.h) /\ w.cell? ⟨b, o + 1, none⟩ = some (f.t.v) /\ w.cell? ⟨b, o + 2, none⟩ = some (f.u.v) := ⟨h 0 (by omega), h 1 (by omega), h 2 (by omega)⟩
theorem open_GS {H : Type} {enc : TypeId × Value -> H} {fuel : Nat} {y : DataW H × List MemPlace}
  (hf : DataW.trod enc Tryz.prog W 0 (fun _ => true) true fuel 29 [v] = some y) :
  ∃ ad N cap fs, v = .slice ad N cap /\ fs.length = N /\ GSM W ad fs /\ N <= maxLen := by
 obtain ⟨ad, N, cap, fs, hv, hl, hN, hall⟩ := open_sliceC noG GV.cs (fun f => GM W f) (c := 3) (by omega) Tryz.underlying29 (by kernel_rfl) (fun _ => rfl) (fun fuel cs x hx => open_GC hx) hf
 exact ⟨ad, N, cap, fs, hv, hl, hall, hN⟩
theorem szGS_any (fs : List GV) {l : Int} {w : World} (hN : fs.length = N) (hF : GSM w ad fs) (hN1 : N <= maxLen) (h0 : 0 <= l) (hl : l <= 1048576) :
  Calls Tryz.prog 79 #[.slice ad N cap, .int .i64 l] w fun e w' => ∃ r, e = .returned (.int .i64 r) /\ -1 <= r /\ r <= 1048576 /\ (0 <= r -> N <= 1048576 /\ ∀ i, i < fs.length -> GZ (fs[i]?.getD noG)) /\ Below w.heap.size w w' := by
 have HN : Hid (fs.length = N) := hN
 clear hN
 unfold maxLen at hN1
 by_cases h : l < N
 ·go_enter Tryz.func79, Tryz.ntmps79
  go_wp2
  go_ret
  exact ⟨-1, rfl, by omega, by omega, fun h => by omega, Below.refl _ _⟩
 ·have hN2 : N <= 1048576 := by omega
  have h' : (N : Int) <= l := by omega
  go_enter Tryz.func79, Tryz.ntmps79
  go_wp2_with fail
  go_loopw [1, 5] (fun lv i wr => ∃ k : Nat, k <= N /\ i = .int .i64 k /\ ∃ x : Int, lv = .int .i64 x /\ 0 <= x /\ x <= 1048576 /\ Below w.heap.size w wr /\ ∀ i, i < k -> GZ (fs[i]?.getD noG)) (fun _ i _ => N - (intOf i).toNat)
  case atStart => exact ⟨0, qN _, rfl, _, rfl, by omega, by omega, Below.refl _ _, fun i hi => by omega⟩
  case round =>
   obtain ⟨k, hk, rfl, x, rfl, hx0, hx1, hb, hall⟩ := hrel
   have HA : Hid _ := hall
   clear hall
   by_cases hlt : k < N
   ·obtain ⟨b, off, rfl, hc, hr⟩ := (hF.below hb) k (by rw [HN.out]; exact hlt)
    generalize HG : fs[k]?.getD noG = g at *
    have HG' : Hid (fs[k]?.getD noG = g) := HG
    clear HG hF
    obtain ⟨e0, e1, e2⟩ := cellsG hc
    obtain ⟨gh, ⟨gta, gtn, gtc, gtx⟩, ⟨gua, gun, guc, gux⟩⟩ := g
    have e0' : wr.cell? ⟨b, off + k * 3, none⟩ = some (.bool gh) := e0
    have e1' : wr.cell? ⟨b, off + k * 3 + 1, none⟩ = some (.slice gta gtn gtc) := e1
    have e2' : wr.cell? ⟨b, off + k * 3 + 2, none⟩ = some (.slice gua gun guc) := e2
    clear e0 e1 e2 hc
    go_wp2_with fail
    refine (szG_ex gtx gux hr hx0 hx1).mono ?_
    rintro e w1 ⟨r, rfl, r0, r1, r2, b1⟩
    by_cases hz : r < 0
    ·go_wp2
     go_ret
     exact ⟨-1, rfl, by omega, by omega, fun h => by omega, btr hb b1⟩
    ·have hz0 : 0 <= r := by omega
     have HA2 : Hid (∀ i, i < k + 1 -> GZ (fs[i]?.getD noG)) := fun i hi => by
      by_cases hik : i < k
      ·exact HA.out i hik
      ·obtain rfl : i = k := by omega
       rw [HG'.out]; exact r2 hz0
     clear r2
     go_wp2
     go_roundw
     case rel => exact ⟨k + 1, by omega, by go_num, _, rfl, hz0, r1, btr hb b1, HA2.out⟩
     case measure => simp [intOf]; omega
   ·obtain rfl : k = N := by omega
    go_wp2
    go_ret
    exact ⟨x, rfl, by omega, by omega, fun _ => ⟨hN2, fun i hi => HA.out i (by rw [<- HN.out]; exact hi)⟩, hb⟩
def putG (vs : List Value) (o : Nat) (x0 x1 x2 : Value) : List Value := (((vs.set o x0).set (o + 1) x1).set (o + 2) x2)
theorem putG_len (vs : List Value) (o : Nat) (x0 x1 x2 : Value) : (putG vs o x0 x1 x2).length = vs.length := by simp [putG]
theorem putG_ne {x0 x1 x2 : Value} {j : Nat} (h : j < o \/ o + 3 <= j) : (putG vs o x0 x1 x2)[j]? = vs[j]? := by
 unfold putG
 rw [qF (by omega), qF (by omega), qF (by omega)]
theorem putG_at {x0 x1 x2 : Value} (h : o + 3 <= vs.length) (r : Nat) (hr : r < 3) : (putG vs o x0 x1 x2)[o + r]? = [x0, x1, x2][r]? := by
 have hcase : r = 0 \/ r = 1 \/ r = 2 := by omega
 unfold putG
 rcases hcase with rfl | rfl | rfl
 ·simp only [Nat.add_zero]
  rw [qF (by omega), qF (by omega), qJ (by omega)]; rfl
 ·rw [qF (by omega), qJ (by simp; omega)]; rfl
 ·rw [qJ (by simp; omega)]; rfl
structure MG (W : World) (B N : Nat) (gs : List GV) : Prop where
 c : ∃ vs : List Value, Cel W B vs 222 /\ vs.length = N * 3 /\ ∀ i, i < gs.length -> ∀ r, r < 3 -> vs[i * 3 + r]? = (gs[i]?.getD noG).cs[r]?
 l : ∀ i, i < gs.length -> GK W (B + 1) (gs[i]?.getD noG)
theorem MG.lt (h : MG W B N gs) : B < W.heap.size := by
 obtain ⟨vs, h1, _⟩ := h.c
 exact h1.lt
theorem MG.below (h : MG W B N gs) (b : Below W.heap.size W W') : MG W' B N gs := by
 obtain ⟨vs, h1, h2, h3⟩ := h.c
 exact ⟨⟨vs, h1.below b, h2, h3⟩, fun i hi => (h.l i hi).below b⟩
theorem MG.g (h : MG W B N gs) : GSG W (some ⟨B, 0, none⟩) gs := fun i hi => by
 obtain ⟨vs, h1, h2, h3⟩ := h.c
 exact ⟨B, 0, rfl, fun r hr => by rw [Nat.zero_add, h1.cell, h3 i hi r hr], (h.l i hi).g⟩
theorem MG.touch (h : MG W B N gs) (t : Touch S W W') (hs : ∀ k, S k -> k < B) : MG W' B N gs := by
 obtain ⟨vs, h1, h2, h3⟩ := h.c
 exact ⟨⟨vs, h1.touch t (fun hh => by have := hs _ hh; omega), h2, h3⟩, fun i hi => (h.l i hi).touch t (fun k hk => by have := hs _ hk; omega)⟩
theorem MG.setLow (h : MG W B N gs) {X : Nat} (hX : X < B) (i : Nat) (v : Value) : MG (W.setCell ⟨X, i, none⟩ v) B N gs := h.touch (S := fun x => x = X) (Touch.setCell (S := fun x => x = X) (Touch.refl _ _) rfl _) (fun k hk => by omega)
theorem MG.step {W1 : World} {gh : Bool} {Pt : Option Addr} {gtn : Nat} {Qt : List Int} {Pu : Option Addr} {gun : Nat} {Qu : List Int} (h : MG W B N gs) (hk : gs.length = k) (hkN : k < N) (b : Below W.heap.size W W1) (hs : GK W1 W.heap.size ⟨gh, ⟨Pt, gtn, gtn, Qt⟩, ⟨Pu, gun, gun, Qu⟩⟩) :
  MG (((W1.setCell ⟨B, k * 3, none⟩ (.bool gh)).setCell ⟨B, k * 3 + 1, none⟩ (.slice Pt gtn gtn)).setCell ⟨B, k * 3 + 2, none⟩ (.slice Pu gun gun)) B N (gs ++ [⟨gh, ⟨Pt, gtn, gtn, Qt⟩, ⟨Pu, gun, gun, Qu⟩⟩]) := by
 have hB := h.lt
 obtain ⟨vs, h1, h2, h3⟩ := (h.below b).c
 have T : Touch (fun x => x = B) W1 (((W1.setCell ⟨B, k * 3, none⟩ (.bool gh)).setCell ⟨B, k * 3 + 1, none⟩ (.slice Pt gtn gtn)).setCell ⟨B, k * 3 + 2, none⟩ (.slice Pu gun gun)) := (((Touch.refl (fun x => x = B) W1).setCell rfl _).setCell rfl _).setCell rfl _
 refine ⟨⟨putG vs (k * 3) (.bool gh) (.slice Pt gtn gtn) (.slice Pu gun gun), (((h1).set _ _).set _ _).set _ _, by rw [putG_len]; exact h2, fun i hi r hr => ?_⟩, fun i hi => ?_⟩
 ·rw [qG, hk] at hi
  simp only [qK, qL] at hi
  by_cases e : i = k
  ·subst e
   rw [putG_at (by rw [h2]; omega) r hr, qH (by omega), hk]
   simp [GV.cs, IV.v]
  ·rw [putG_ne (by omega), qI (by omega)]
   exact h3 i (by omega) r hr
 ·rw [qG, hk] at hi
  simp only [qK, qL] at hi
  by_cases e : i = k
  ·subst e
   rw [qH (by omega), hk]
   simp only [Nat.sub_self, qD, Option.getD_some]
   exact (hs.mono (by omega)).touch T (fun x hx => by omega)
  ·rw [qI (by omega)]
   exact ((h.l i (by omega)).below b).touch T (fun x hx => by omega)
def copiesGS (fs gs : List GV) : Prop := ∀ i, i < gs.length -> copiesG (fs[i]?.getD noG) (gs[i]?.getD noG)
theorem Tryz.infoClkGot : (Tryz.prog.info? 222).map (fun i => (i.zero, i.size, i.bytes)) = some (some (.agg #[.bool false, .slice none 0 0, .slice none 0 0]), 3, 56) := by kernel_rfl
theorem toGS_any (fs : List GV) {w : World} (hN : fs.length = N) (hF : GSG w ad fs) (hN1 : N <= 1048576) :
  Calls Tryz.prog 86 #[.slice ad N cap] w fun e w' => ∃ gs, e = .returned (.slice (some ⟨w.heap.size, 0, none⟩) N N) /\ gs.length = N /\ copiesGS fs gs /\ Below w.heap.size w w' /\ MG w' w.heap.size N gs := by
 have HN : Hid (fs.length = N) := hN
 clear hN
 obtain ⟨i0, hi, hz0, hz1, hz2⟩ := info_parts Tryz.infoClkGot
 go_enter Tryz.func86, Tryz.ntmps86
 go_wp2_with (at_make; refine wpList_make_full _ rfl (.tmp 6) (.tmp 6) 45 rfl w.heap.size 222 i0 (.agg #[.bool false, .slice none 0 0, .slice none 0 0]) 3 Tryz.underlying45 hi hz0 hz1 .i64 .i64 _ _ N rfl rfl rfl rfl (by rw [hz2]; omega) (by unfold maxLen; omega) (qM _) ?_; intro w1 hown hgrow)
 have hb1 : Below w.heap.size w w1 := (Below.refl _ _).grown hgrow (qM _) (by simp)
 have m0 : MG w1 w.heap.size N [] := by
  rcases hown.2 with ⟨h', _⟩ | ⟨g', cap', cur, h', _, hg, _, _, hcs, htake⟩
  ·simp at h'
  ·simp only [Value.slice.injEq, Option.some.injEq, Addr.mk.injEq, and_true, true_and] at h'
   obtain ⟨rfl, rfl⟩ := h'
   exact ⟨⟨cur.toList, by unfold Cel; rw [hg], by simpa using hcs, fun i hi => by simp at hi⟩, fun i hi => by simp at hi⟩
 clear hown hgrow hi hz0 hz1 hz2
 go_loopw [4] (fun i wr => ∃ k : Nat, k <= N /\ i = .int .i64 k /\ Below w.heap.size w wr /\ ∃ gs, gs.length = k /\ copiesGS fs gs /\ MG wr w.heap.size N gs) (fun i _ => N - (intOf i).toNat)
 case atStart => exact ⟨0, qN _, rfl, hb1, [], rfl, fun i hi => by simp at hi, m0⟩
 case round =>
  clear hb1 m0
  obtain ⟨k, hk, rfl, hb, ts, hts, hcp, hm⟩ := hrel
  have HTS : Hid (ts.length = k) := hts
  have HCP : Hid (copiesGS fs ts) := hcp
  clear hts hcp
  by_cases hlt : k < N
  ·obtain ⟨b, off, rfl, hc, hr⟩ := (hF.below hb) k (by rw [HN.out]; exact hlt)
   generalize HG : fs[k]?.getD noG = g at *
   have HG' : Hid (fs[k]?.getD noG = g) := HG
   clear HG hF
   obtain ⟨e0, e1, e2⟩ := cellsG hc
   obtain ⟨gh, ⟨gta, gtn, gtc, gtx⟩, ⟨gua, gun, guc, gux⟩⟩ := g
   have e0' : wr.cell? ⟨b, off + k * 3, none⟩ = some (.bool gh) := e0
   have e1' : wr.cell? ⟨b, off + k * 3 + 1, none⟩ = some (.slice gta gtn gtc) := e1
   have e2' : wr.cell? ⟨b, off + k * 3 + 2, none⟩ = some (.slice gua gun guc) := e2
   clear e0 e1 e2 hc
   go_wp2_with fail
   refine (toG_ex gtx gux hr).mono ?_
   rintro ee w2 ⟨Pt, Qt, Pu, Qu, rfl, b2, hK, hcp2⟩
   have ms := hm.step HTS.out hlt b2 hK
   obtain ⟨vs, v1, v2, v3⟩ := (hm.below b2).c
   have hx : ∀ r, r < 3 -> ∃ x, w2.cell? ⟨w.heap.size, k * 3 + r, none⟩ = some x := fun r hr => ⟨_, (v1.cell (k * 3 + r)).trans (qC (by rw [v2]; omega))⟩
   obtain ⟨x0, y0⟩ := hx 0 (by omega)
   obtain ⟨x1, y1⟩ := hx 1 (by omega)
   obtain ⟨x2, y2⟩ := hx 2 (by omega)
   simp only [Nat.add_zero] at y0
   have f0 := v1.free (k * 3)
   have f1 := v1.free (k * 3 + 1)
   have f2 := v1.free (k * 3 + 2)
   have hb2 := btr hb b2
   have RB := (((hb2.setCell (p := ⟨w.heap.size, k * 3, none⟩) (qM _) (.bool gh)).setCell (p := ⟨w.heap.size, k * 3 + 1, none⟩) (qM _) (.slice Pt gtn gtn)).setCell (p := ⟨w.heap.size, k * 3 + 2, none⟩) (qM _) (.slice Pu gun gun))
   have CP : copiesGS fs (ts ++ [⟨gh, ⟨Pt, gtn, gtn, Qt⟩, ⟨Pu, gun, gun, Qu⟩⟩]) := fun i hi => by
    rw [qG, HTS.out] at hi
    simp only [qK, qL] at hi
    by_cases e : i = k
    ·subst e
     rw [qH (by rw [HTS.out]; exact qM _), HTS.out, HG'.out]
     simpa using hcp2
    ·rw [qI (by rw [HTS.out]; omega)]
     exact HCP.out i (by rw [HTS.out]; omega)
   have HCP2 : Hid _ := CP
   clear hm b2 hb hb2 v1 v2 v3 hx CP hr hcp2 hK
   go_wp2
   go_roundw
   case rel => exact ⟨k + 1, by omega, by go_num, RB, _, by rw [qG, HTS.out]; rfl, HCP2.out, ms⟩
   case measure => simp [intOf]; omega
  ·obtain rfl : k = N := by omega
   go_wp2
   go_ret
   exact ⟨ts, rfl, HTS.out, HCP.out, hb, hm⟩
theorem eqGS_same {ae : Option Addr} (fs gs : List GV) {w : World} (hN : fs.length = N) (hM : gs.length = N) (hF : GSG w ad fs) (hG : GSG w ae gs) (hN1 : N <= 1048576)
  (hsame : ∀ i, i < N -> sameG (fs[i]?.getD noG) (gs[i]?.getD noG)) :
  Calls Tryz.prog 91 #[.slice ad N cap, .slice ae N cap'] w fun e w' => e = .returned (.bool true) /\ Below w.heap.size w w' := by
 have HN : Hid (fs.length = N) := hN
 have HM : Hid (gs.length = N) := hM
 have HS : Hid _ := hsame
 clear hN hM hsame
 go_enter Tryz.func91, Tryz.ntmps91
 go_wp2_with fail
 go_loopw [5] (fun i wr => ∃ k : Nat, k <= N /\ i = .int .i64 k /\ Below w.heap.size w wr) (fun i _ => N - (intOf i).toNat)
 case atStart => exact ⟨0, qN _, rfl, Below.refl _ _⟩
 case round =>
  obtain ⟨k, hk, rfl, hb⟩ := hrel
  by_cases hlt : k < N
  ·obtain ⟨b, off, rfl, hc, hr⟩ := (hF.below hb) k (by rw [HN.out]; exact hlt)
   obtain ⟨b', off', rfl, hc', hr'⟩ := (hG.below hb) k (by rw [HM.out]; exact hlt)
   have hs := HS.out k hlt
   generalize HG1 : fs[k]?.getD noG = fe at *
   generalize HG2 : gs[k]?.getD noG = g at *
   clear HG1 HG2 hF hG
   obtain ⟨e0, e1, e2⟩ := cellsG hc
   obtain ⟨feh, ⟨feta, fetn, fetc, fetx⟩, ⟨feua, feun, feuc, feux⟩⟩ := fe
   have e0' : wr.cell? ⟨b, off + k * 3, none⟩ = some (.bool feh) := e0
   have e1' : wr.cell? ⟨b, off + k * 3 + 1, none⟩ = some (.slice feta fetn fetc) := e1
   have e2' : wr.cell? ⟨b, off + k * 3 + 2, none⟩ = some (.slice feua feun feuc) := e2
   clear e0 e1 e2 hc
   obtain ⟨d0, d1, d2⟩ := cellsG hc'
   obtain ⟨gh, ⟨gta, gtn, gtc, gtx⟩, ⟨gua, gun, guc, gux⟩⟩ := g
   have d0' : wr.cell? ⟨b', off' + k * 3, none⟩ = some (.bool gh) := d0
   have d1' : wr.cell? ⟨b', off' + k * 3 + 1, none⟩ = some (.slice gta gtn gtc) := d1
   have d2' : wr.cell? ⟨b', off' + k * 3 + 2, none⟩ = some (.slice gua gun guc) := d2
   clear d0 d1 d2 hc'
   have hlt' : (k : Int) < (N : Int) := by omega
   go_wp2_with fail
   go_region_with (first | (go_at_call 174; refine (eqG_ex fetx feux gtx gux (by exact hr.below (Below.refl _ _).drew) (by exact hr'.below (Below.refl _ _).drew) hs).mono ?_; rintro ee w1 ⟨rfl, b1⟩))
   all_goals
    have b1' := below_of_drew b1
    go_wp2
    go_roundw
    case rel => exact ⟨k + 1, by omega, by go_num, btr hb b1'⟩
    case measure => simp [intOf]; omega
  ·go_wp2
   go_ret
   exact ⟨rfl, hb⟩
structure GL (W : World) (a : Option Addr) (G n : Nat) (f : Nat -> GV) (bs ds : Nat -> Nat) : Prop where
 g : 0 < n -> a = some ⟨G, 0, none⟩ /\ ∃ cur : List Value, Cel W G cur 222 /\ ∀ j, j < n -> ∀ r, r < 3 -> cur[j * 3 + r]? = (f j).cs[r]?
 l : ∀ j, j < n -> OwnX W (f j).t.a (bs j) (f j).t.n (f j).t.x /\ (0 < (f j).t.n -> bs j ≠ G) /\ (f j).t.n <= 1048576
 u : ∀ j, j < n -> OwnX W (f j).u.a (ds j) (f j).u.n (f j).u.x /\ (0 < (f j).u.n -> ds j ≠ G) /\ (f j).u.n <= 1048576
 d : ∀ i j, i < n -> j < n -> i ≠ j -> 0 < (f i).t.n -> 0 < (f j).t.n -> bs i ≠ bs j
 e : ∀ i j, i < n -> j < n -> i ≠ j -> 0 < (f i).u.n -> 0 < (f j).u.n -> ds i ≠ ds j
 m : ∀ i j, i < n -> j < n -> 0 < (f i).t.n -> 0 < (f j).u.n -> bs i ≠ ds j
section
variable {W W' : World} {a : Option Addr} {G n : Nat} {f : Nat -> GV} {bs ds : Nat -> Nat}
theorem GL.zero (W : World) (a : Option Addr) (G : Nat) (f : Nat -> GV) (bs ds : Nat -> Nat) : GL W a G 0 f bs ds := ⟨fun h => by omega, fun j hj => by omega, fun j hj => by omega, fun i j hi => by omega, fun i j hi => by omega, fun i j hi => by omega⟩
theorem GL.lt (h : GL W a G n f bs ds) (hn : 0 < n) : G < W.heap.size := by
 obtain ⟨_, cur, hc, _⟩ := h.g hn
 exact hc.lt
theorem GL.touch (h : GL W a G n f bs ds) (t : Touch S W W') (hG : 0 < n -> ¬ S G) (hb : ∀ j, j < n -> 0 < (f j).t.n -> ¬ S (bs j)) (hd : ∀ j, j < n -> 0 < (f j).u.n -> ¬ S (ds j)) : GL W' a G n f bs ds :=
 ⟨fun hn => by
  obtain ⟨e, cur, hc, hv⟩ := h.g hn
  exact ⟨e, cur, hc.touch t (hG hn), hv⟩, fun j hj => by
  obtain ⟨h1, h2, h3⟩ := h.l j hj
  exact ⟨h1.touch t (hb j hj), h2, h3⟩, fun j hj => by
  obtain ⟨h1, h2, h3⟩ := h.u j hj
  exact ⟨h1.touch t (hd j hj), h2, h3⟩, h.d, h.e, h.m⟩
theorem GL.ext {g : Nat -> GV} (h : GL W a G n f bs ds) (e : ∀ i, i < n -> f i = g i) : GL W a G n g bs ds :=
 ⟨fun hn => by
  obtain ⟨e1, cur, hc, hv⟩ := h.g hn
  exact ⟨e1, cur, hc, fun j hj r hr => by rw [<- e j hj]; exact hv j hj r hr⟩, fun j hj => by rw [<- e j hj]; exact h.l j hj, fun j hj => by rw [<- e j hj]; exact h.u j hj, fun i j hi hj hne h1 h2 => h.d i j hi hj hne (by rw [e i hi]; exact h1) (by rw [e j hj]; exact h2), fun i j hi hj hne h1 h2 => h.e i j hi hj hne (by rw [e i hi]; exact h1) (by rw [e j hj]; exact h2), fun i j hi hj h1 h2 => h.m i j hi hj (by rw [e i hi]; exact h1) (by rw [e j hj]; exact h2)⟩
theorem GL.sg {fs : List GV} (h : GL W a G n (fun i => fs[i]?.getD noG) bs ds) (hn : fs.length = n) : GSG W a fs := fun i hi => by
 obtain ⟨e1, cur, hc, hv⟩ := h.g (by omega)
 obtain ⟨o, _, z⟩ := h.l i (by omega)
 obtain ⟨o', _, z'⟩ := h.u i (by omega)
 exact ⟨G, 0, e1, fun r hr => by rw [Nat.zero_add, hc.cell]; exact hv i (by omega) r hr, ⟨o.ints, z⟩, ⟨o'.ints, z'⟩, trivial⟩
theorem GL.at (h : GL W a G n f bs ds) {k : Nat} (hk : k < n) : a = some ⟨G, 0, none⟩ /\ (∀ r, r < 3 -> W.cell? ⟨G, k * 3 + r, none⟩ = (f k).cs[r]?) /\ ∀ i, W.frozen? ⟨G, i, none⟩ = false := by
 obtain ⟨e1, cur, hc, hv⟩ := h.g (by omega)
 exact ⟨e1, fun r hr => (hc.cell _).trans (hv k hk r hr), fun i => hc.free i⟩
theorem GL.upd {s : GV} (h : GL W a G n f bs ds) (hk : k < n) (st : s.t.n = (f k).t.n) (su : s.u.n = (f k).u.n)
  (hg : 0 < n -> ∃ cur : List Value, Cel W' G cur 222 /\ (∀ r, r < 3 -> cur[k * 3 + r]? = s.cs[r]?) /\ ∀ j, j < n -> j ≠ k -> ∀ r, r < 3 -> cur[j * 3 + r]? = (f j).cs[r]?)
  (ht : OwnX W' s.t.a (bs k) s.t.n s.t.x) (hu : OwnX W' s.u.a (ds k) s.u.n s.u.x)
  (hl : ∀ j, j < n -> j ≠ k -> OwnX W' (f j).t.a (bs j) (f j).t.n (f j).t.x /\ OwnX W' (f j).u.a (ds j) (f j).u.n (f j).u.x) :
  GL W' a G n (fun i => if i = k then s else f i) bs ds := by
 have et : ∀ i, (if i = k then s else f i).t.n = (f i).t.n := fun i => by
  by_cases e : i = k
  ·subst e; rw [if_pos rfl]; exact st
  ·rw [if_neg e]
 have eu : ∀ i, (if i = k then s else f i).u.n = (f i).u.n := fun i => by
  by_cases e : i = k
  ·subst e; rw [if_pos rfl]; exact su
  ·rw [if_neg e]
 refine ⟨fun hn => ?_, fun j hj => ?_, fun j hj => ?_, fun i j hi hj hne h1 h2 => ?_, fun i j hi hj hne h1 h2 => ?_, fun i j hi hj h1 h2 => ?_⟩
 ·obtain ⟨cur, hc, h1, h2⟩ := hg hn
  refine ⟨(h.g hn).1, cur, hc, fun j hj r hr => ?_⟩
  (try dsimp only)
  by_cases e : j = k
  ·subst e; rw [if_pos rfl]; exact h1 r hr
  ·rw [if_neg e]; exact h2 j hj e r hr
 ·have h0 := h.l j hj
  (try dsimp only)
  by_cases e : j = k
  ·subst e; rw [if_pos rfl]; exact ⟨ht, fun h1 => h0.2.1 (by omega), by omega⟩
  ·rw [if_neg e]; exact ⟨(hl j hj e).1, h0.2⟩
 ·have h0 := h.u j hj
  (try dsimp only)
  by_cases e : j = k
  ·subst e; rw [if_pos rfl]; exact ⟨hu, fun h1 => h0.2.1 (by omega), by omega⟩
  ·rw [if_neg e]; exact ⟨(hl j hj e).2, h0.2⟩
 ·(try dsimp only at h1 h2)
  rw [et] at h1 h2
  exact h.d i j hi hj hne h1 h2
 ·(try dsimp only at h1 h2)
  rw [eu] at h1 h2
  exact h.e i j hi hj hne h1 h2
 ·(try dsimp only at h1 h2)
  rw [et] at h1
  rw [eu] at h2
  exact h.m i j hi hj h1 h2
theorem GL.put (h : GL W a G n f bs ds) {k : Nat} (hk : k < n) (y : Bool) : GL (W.setCell ⟨G, k * 3, none⟩ (.bool y)) a G n (fun i => if i = k then ⟨y, (f k).t, (f k).u⟩ else f i) bs ds := by
 obtain ⟨e1, cur, hc, hv⟩ := h.g (by omega)
 have T : Touch (fun x => x = G) W (W.setCell ⟨G, k * 3, none⟩ (.bool y)) := (Touch.refl (fun x => x = G) W).setCell rfl _
 have hlen : k * 3 + 2 < cur.length := by
  have h2 := hv k hk 2 (by omega)
  have e : (f k).cs[2]? = some (f k).u.v := rfl
  rw [e] at h2
  exact (List.getElem?_eq_some_iff.1 h2).1
 refine h.upd hk rfl rfl (fun _ => ⟨_, hc.set (k * 3) _, fun r hr => ?_, fun j hj hne r hr => ?_⟩) ((h.l k hk).1.touch T (fun h0 e => (h.l k hk).2.1 h0 e)) ((h.u k hk).1.touch T (fun h0 e => (h.u k hk).2.1 h0 e)) (fun j hj _ => ⟨(h.l j hj).1.touch T (fun h0 e => (h.l j hj).2.1 h0 e), (h.u j hj).1.touch T (fun h0 e => (h.u j hj).2.1 h0 e)⟩)
 ·have hcase : r = 0 \/ r = 1 \/ r = 2 := by omega
  rcases hcase with rfl | rfl | rfl
  ·simp only [Nat.add_zero]
   rw [qJ (by omega)]; rfl
  ·rw [qF (by omega)]; exact hv k hk 1 (by omega)
  ·rw [qF (by omega)]; exact hv k hk 2 (by omega)
 ·have hr' : j * 3 + r < k * 3 \/ k * 3 + 3 <= j * 3 + r := by
   rcases Nat.lt_or_gt_of_ne hne with h | h
   ·left; omega
   ·right; omega
  rw [qF (by omega)]
  exact hv j hj r hr
theorem GL.putT (h : GL W a G n f bs ds) {k : Nat} (hk : k < n) {X : List Int} (t : Touch (fun x => x = bs k /\ 0 < (f k).t.n) W W') (o : OwnX W' (f k).t.a (bs k) (f k).t.n X) : GL W' a G n (fun i => if i = k then ⟨(f k).h, ⟨(f k).t.a, (f k).t.n, (f k).t.cap, X⟩, (f k).u⟩ else f i) bs ds := by
 obtain ⟨e1, cur, hc, hv⟩ := h.g (by omega)
 refine h.upd hk rfl rfl (fun _ => ⟨cur, hc.touch t (fun hh => (h.l k hk).2.1 hh.2 hh.1.symm), fun r hr => hv k hk r hr, fun j hj _ r hr => hv j hj r hr⟩) o ((h.u k hk).1.touch t (fun h0 hh => h.m k k hk hk hh.2 h0 hh.1.symm)) (fun j hj hne => ⟨(h.l j hj).1.touch t (fun h0 hh => h.d j k hj hk hne h0 hh.2 hh.1), (h.u j hj).1.touch t (fun h0 hh => h.m k j hk hj hh.2 h0 hh.1.symm)⟩)
theorem GL.putU (h : GL W a G n f bs ds) {k : Nat} (hk : k < n) {X : List Int} (t : Touch (fun x => x = ds k /\ 0 < (f k).u.n) W W') (o : OwnX W' (f k).u.a (ds k) (f k).u.n X) : GL W' a G n (fun i => if i = k then ⟨(f k).h, (f k).t, ⟨(f k).u.a, (f k).u.n, (f k).u.cap, X⟩⟩ else f i) bs ds := by
 obtain ⟨e1, cur, hc, hv⟩ := h.g (by omega)
 refine h.upd hk rfl rfl (fun _ => ⟨cur, hc.touch t (fun hh => (h.u k hk).2.1 hh.2 hh.1.symm), fun r hr => hv k hk r hr, fun j hj _ r hr => hv j hj r hr⟩) ((h.l k hk).1.touch t (fun h0 hh => h.m k k hk hk h0 hh.2 hh.1)) o (fun j hj hne => ⟨(h.l j hj).1.touch t (fun h0 hh => h.m j k hj hk h0 hh.2 hh.1), (h.u j hj).1.touch t (fun h0 hh => h.e j k hj hk hne h0 hh.2 hh.1)⟩)
end
def thrG (k : Int) : Bool := k % 3 == 0
def offG (f : Nat -> GV) : Nat -> Nat
 | 0 => 0
 | j + 1 => offG f j + (1 + (f j).t.n + (f j).u.n)
def mkG (k0 : Int) (f : Nat -> GV) (i : Nat) : GV := ⟨thrG (k0 + offG f i), ⟨(f i).t.a, (f i).t.n, (f i).t.cap, ramp (k0 + offG f i + 1) (f i).t.n⟩, ⟨(f i).u.a, (f i).u.n, (f i).u.cap, ramp (k0 + offG f i + 1 + (f i).t.n) (f i).u.n⟩⟩
theorem offG_mono (f : Nat -> GV) {i j : Nat} (h : i <= j) : offG f i <= offG f j := by
 induction h with
 | refl => exact qM _
 | step _ ih => simp only [offG]; omega
theorem markGL_any (f : Nat -> GV) (bs ds : Nat -> Nat) {k0 : Int} {w : World} (h : GL w a G n f bs ds) (hn : n <= 1048576) (hk0 : 0 <= k0) (hk : k0 + offG f n <= 100000000000000) :
  Calls Tryz.prog 96 #[.slice a n cap, .int .i64 k0] w fun e w' => e = .returned (.int .i64 (k0 + offG f n)) /\ Touch (fun x => (0 < n /\ x = G) \/ (∃ j, j < n /\ 0 < (f j).t.n /\ x = bs j) \/ ∃ j, j < n /\ 0 < (f j).u.n /\ x = ds j) w w' /\ GL w' a G n (mkG k0 f) bs ds := by
 have H : Hid (GL w a G n f bs ds) := h
 have HO : Hid (∀ i j, i <= j -> offG f i <= offG f j) := fun i j h => offG_mono f h
 have HK : Hid (k0 + offG f n <= 100000000000000) := hk
 clear h hk
 go_enter Tryz.func96, Tryz.ntmps96
 go_wp2_with fail
 go_loopw [1, 5] (fun kv i wr => ∃ k : Nat, k <= n /\ i = .int .i64 k /\ kv = .int .i64 (k0 + offG f k) /\ Touch (fun x => (0 < n /\ x = G) \/ (∃ j, j < n /\ 0 < (f j).t.n /\ x = bs j) \/ ∃ j, j < n /\ 0 < (f j).u.n /\ x = ds j) w wr /\ GL wr a G n (fun i => if i < k then mkG k0 f i else f i) bs ds) (fun _ i _ => n - (intOf i).toNat)
 case atStart => exact ⟨0, qN _, rfl, by simp [offG], Touch.refl _ _, H.out.ext (fun i _ => by simp)⟩
 case round =>
  obtain ⟨k, hk', rfl, rfl, t, d⟩ := hrel
  by_cases hlt : k < n
  ·have efk : (if k < k then mkG k0 f k else f k) = f k := if_neg (by omega)
   obtain ⟨F, hF⟩ : ∃ F : Nat -> GV, F = (fun i => if i < k then mkG k0 f i else f i) := ⟨_, rfl⟩
   have hFk : F k = f k := by rw [hF]; exact efk
   rw [<- hF] at d
   obtain ⟨ea, hcs, fz⟩ := d.at hlt
   rw [hFk] at hcs
   subst ea
   obtain ⟨e0, e1, e2⟩ := cellsG hcs
   have b1 := HO.out (k + 1) n (by omega)
   have b2 : offG f (k + 1) = offG f k + (1 + (f k).t.n + (f k).u.n) := rfl
   have b3 := HK.out
   obtain ⟨kk, hkk⟩ : ∃ kk : Int, kk = k0 + offG f k := ⟨_, rfl⟩
   have HKK : Hid _ := hkk
   have hkb : 0 <= kk /\ kk <= 100000000000000 := by omega
   rw [<- hkk]
   have ht : (kk % 3 == 0) = thrG kk := rfl
   have d1 := d.put hlt (thrG kk)
   have HF : Hid (F = (fun i => if i < k then mkG k0 f i else f i)) := hF
   have HFk : Hid (F k = f k) := hFk
   rw [hFk] at d1
   have ol := (d1.l k hlt)
   (try dsimp only at ol)
   rw [if_pos rfl] at ol
   obtain ⟨o, hne, hz⟩ := ol
   have T2 : Touch (fun x => (0 < n /\ x = G) \/ (∃ j, j < n /\ 0 < (f j).t.n /\ x = bs j) \/ ∃ j, j < n /\ 0 < (f j).u.n /\ x = ds j) w (wr.setCell ⟨G, k * 3, none⟩ (.bool (thrG kk))) := t.setCell (B := G) (Or.inl ⟨by omega, rfl⟩) _
   generalize hfk : f k = ft at *
   have HFT : Hid (f k = ft) := hfk
   obtain ⟨fh, ⟨fa, fn, fc, fx⟩, ⟨ga, gn, gc, gx⟩⟩ := ft
   have e1' : wr.cell? ⟨G, k * 3 + 1, none⟩ = some (.slice fa fn fc) := e1
   have e2' : wr.cell? ⟨G, k * 3 + 2, none⟩ = some (.slice ga gn gc) := e2
   have f0 := fz (k * 3)
   obtain ⟨bb, hbb⟩ : ∃ bb, bb = thrG kk := ⟨_, rfl⟩
   have HBB : Hid (bb = thrG kk) := hbb
   rw [<- hbb] at ht d1 T2 o
   have o2 : OwnX (wr.setCell ⟨G, k * 3, none⟩ (.bool bb)) fa (bs k) fn fx := o
   have hz' : fn <= 1048576 := hz
   have hne' : 0 < fn -> bs k ≠ G := hne
   have hb3 : kk + 1 + fn + gn <= 100000000000000 := by
    have h1 : (⟨fh, ⟨fa, fn, fc, fx⟩, ⟨ga, gn, gc, gx⟩⟩ : GV).t.n = fn := rfl
    have h2 : (⟨fh, ⟨fa, fn, fc, fx⟩, ⟨ga, gn, gc, gx⟩⟩ : GV).u.n = gn := rfl
    rw [h1, h2] at b2
    omega
   have hlt' : (k : Int) < (n : Int) := by omega
   obtain ⟨hkb1, hkb2⟩ := hkb
   have HD1 : Hid (GL _ _ _ _ _ _ _) := d1
   clear o hz hne hfk efk hcs fz b1 b2 b3 hkk e1 e2 hF hFk hbb d t d1
   go_wp2_with fail
   refine (markX_any (bs k) fx o2 hz' (by omega) (by omega)).mono ?_
   rintro ee w2 ⟨rfl, t2, o3⟩
   have d2 := HD1.out.putT hlt (X := ramp (kk + 1) fn) (W' := w2) (by simpa using t2) (by simpa using o3)
   have T3 := T2.trans (t2.mono (T := fun x => (0 < n /\ x = G) \/ (∃ j, j < n /\ 0 < (f j).t.n /\ x = bs j) \/ ∃ j, j < n /\ 0 < (f j).u.n /\ x = ds j) fun y hy => Or.inr (Or.inl ⟨k, hlt, by rw [HFT.out]; exact hy.2, hy.1⟩))
   obtain ⟨-, hcs2, -⟩ := d2.at hlt
   have ou := d2.u k hlt
   (try dsimp only at hcs2 ou)
   simp only [if_true] at hcs2 ou
   obtain ⟨o4, hne4, hz4⟩ := ou
   obtain ⟨x0, x1, x2⟩ := cellsG hcs2
   have x2' : w2.cell? ⟨G, k * 3 + 2, none⟩ = some (.slice ga gn gc) := x2
   have o5 : OwnX w2 ga (ds k) gn gx := o4
   have hz5 : gn <= 1048576 := hz4
   have HD2 : Hid (GL _ _ _ _ _ _ _) := d2
   clear hcs2 o4 hne4 hz4 x0 x1 x2 e0 e1' e2' f0 T2 t2 o3 HD1 d2 o2
   go_wp2_with fail
   refine (markX_any (ds k) gx o5 hz5 (by omega) (by omega)).mono ?_
   rintro ee w3 ⟨rfl, t3, o6⟩
   have d3 := HD2.out.putU hlt (X := ramp (kk + 1 + fn) gn) (W' := w3) (by simpa using t3) (by simpa using o6)
   have T4 := T3.trans (t3.mono (T := fun x => (0 < n /\ x = G) \/ (∃ j, j < n /\ 0 < (f j).t.n /\ x = bs j) \/ ∃ j, j < n /\ 0 < (f j).u.n /\ x = ds j) fun y hy => Or.inr (Or.inr ⟨k, hlt, by rw [HFT.out]; exact hy.2, hy.1⟩))
   have D4 : GL w3 (some ⟨G, 0, none⟩) G n (fun i => if i < k + 1 then mkG k0 f i else f i) bs ds := d3.ext (fun i hi => by
    by_cases e : i = k
    ·subst e
     have hk2 : (if i < i + 1 then mkG k0 f i else f i) = mkG k0 f i := if_pos (by omega)
     rw [hk2]
     simp only [if_true, mkG, HFT.out, <- HKK.out, HBB.out]
    ·rw [HF.out]
     simp only [e, if_false]
     by_cases e2 : i < k
     ·rw [if_pos e2, if_pos (by omega)]
     ·rw [if_neg e2, if_neg (by omega)])
   have HE : Hid (k0 + (offG f (k + 1) : Nat) = kk + 1 + fn + gn) := by
    show _ = _
    have h1 : offG f (k + 1) = offG f k + (1 + (f k).t.n + (f k).u.n) := rfl
    have h2 : (f k).t.n = fn := by rw [HFT.out]
    have h3 : (f k).u.n = gn := by rw [HFT.out]
    rw [HKK.out, h1, h2, h3]
    omega
   clear HD2 d3 T3 t3 o6 o5 x2'
   go_wp2
   go_roundw
   case rel => exact ⟨k + 1, by omega, by go_num, by rw [HE.out], T4, D4⟩
   case measure => simp [intOf]; omega
  ·obtain rfl : k = n := by omega
   go_wp2
   go_ret
   exact ⟨rfl, t, d.ext (fun i hi => by rw [if_pos hi])⟩
theorem heldGL_any (f : Nat -> GV) (bs ds : Nat -> Nat) {k0 : Int} {w : World} (h : GL w a G n (mkG k0 f) bs ds) (hn : n <= 1048576) (hk0 : 0 <= k0) (hk : k0 + offG f n <= 100000000000000) :
  Calls Tryz.prog 99 #[.slice a n cap, .int .i64 k0] w fun e w' => e = .returned (.int .i64 (k0 + offG f n)) /\ w' = w := by
 have H : Hid (GL w a G n (mkG k0 f) bs ds) := h
 have HO : Hid (∀ i j, i <= j -> offG f i <= offG f j) := fun i j h => offG_mono f h
 have HK : Hid (k0 + offG f n <= 100000000000000) := hk
 clear h hk
 go_enter Tryz.func99, Tryz.ntmps99
 go_wp2_with fail
 go_loopw [1, 5] (fun kv i wr => ∃ k : Nat, k <= n /\ i = .int .i64 k /\ kv = .int .i64 (k0 + offG f k) /\ wr = w) (fun _ i _ => n - (intOf i).toNat)
 case atStart => exact ⟨0, qN _, rfl, by simp [offG], rfl⟩
 case round =>
  obtain ⟨k, hk', rfl, rfl, rfl⟩ := hrel
  by_cases hlt : k < n
  ·obtain ⟨ea, hcs, -⟩ := H.out.at hlt
   obtain ⟨o, -, hz⟩ := H.out.l k hlt
   obtain ⟨o', -, hz'⟩ := H.out.u k hlt
   subst ea
   obtain ⟨e0, e1, e2⟩ := cellsG hcs
   have b1 := HO.out (k + 1) n (by omega)
   have b2 : offG f (k + 1) = offG f k + (1 + (f k).t.n + (f k).u.n) := rfl
   have b3 := HK.out
   simp only [mkG] at e0 e1 e2 o hz o' hz'
   obtain ⟨kk, hkk⟩ : ∃ kk : Int, kk = k0 + offG f k := ⟨_, rfl⟩
   have HKK : Hid _ := hkk
   have hkb : 0 <= kk /\ kk <= 100000000000000 := by omega
   have hkn : 0 <= kk + 1 + (f k).t.n := by omega
   have hkm : 0 <= kk + 1 + (f k).t.n + (f k).u.n /\ kk + 1 + (f k).t.n + (f k).u.n <= 100000000000000 := by omega
   rw [<- hkk] at e0 e1 e2 o o' ⊢
   generalize hft : f k = ft at *
   have HFT : Hid (f k = ft) := hft
   obtain ⟨fh, ⟨fa, fn, fc, fx⟩, ⟨ga, gn, gc, gx⟩⟩ := ft
   simp only [IV.v] at e1 e2 o o' hz hz' hkn hkm
   have hi3 := o.ints
   have hi4 := o'.ints
   have hlt' : (k : Int) < (n : Int) := by omega
   obtain ⟨hkb1, hkb2⟩ := hkb
   obtain ⟨hkm1, hkm2⟩ := hkm
   have ht : (kk % 3 == 0) = thrG kk := rfl
   have hne : (thrG kk != thrG kk) = false := by cases thrG kk <;> rfl
   have HE : Hid (k0 + (offG f (k + 1) : Nat) = kk + 1 + fn + gn) := by
    show _ = _
    have h1 : offG f (k + 1) = offG f k + (1 + (f k).t.n + (f k).u.n) := rfl
    have h2 : (f k).t.n = fn := by rw [HFT.out]
    have h3 : (f k).u.n = gn := by rw [HFT.out]
    rw [HKK.out, h1, h2, h3]
    omega
   clear hcs o o' hft b1 b2 b3 hkk
   generalize thrG kk = bb at *
   go_wp2_with fail
   refine (held_any hi3 hz (by omega) (by omega)).mono ?_
   rintro ee w2 ⟨rfl, rfl⟩
   go_wp2_with fail
   refine (held_any hi4 hz' (by omega) (by omega)).mono ?_
   rintro ee w2 ⟨rfl, rfl⟩
   go_wp2
   go_roundw
   case rel => exact ⟨k + 1, by omega, by go_num, by rw [HE.out], trivial⟩
   case measure => simp [intOf]; omega
  ·obtain rfl : k = n := by omega
   go_wp2
   go_ret
   exact ⟨rfl, rfl⟩
end Go.Proofs.YtacfoeekmcnpjaaGreatDoor
