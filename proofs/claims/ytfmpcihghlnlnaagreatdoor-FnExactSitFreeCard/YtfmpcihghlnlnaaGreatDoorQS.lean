/-
  Lemmas that the claim's last text rests on.
-/
import Derived.Deep.AppendSrc
import Derived.Test.YtfmpcihghlnlnaaGreatDoorQR
namespace Go.Proofs.YtfmpcihghlnlnaaGreatDoor
open Go.RowKit Go.Deep
open Option.some renaming injEq → qA
open Addr.mk renaming injEq → qB
open World renaming size_alloc → qC
open List renaming getElem?_cons_zero → qD, getElem?_cons_succ → qE, getElem?_set_ne → qF, getElem?_set_self → qG
open Nat renaming le_refl → qH
set_option linter.unusedVariables false
set_option maxRecDepth 100000
set_option maxHeartbeats 25600000
variable {G base cap : Nat} {W : World} {fs : List Frm} {xs : List Value}
structure JC (base : Nat) (G cap : Nat) (xs : List Value) (fs : List Frm) (W : World) : Prop where
 o : W.ownsRow base 106 3 (.slice (some ⟨G, 0, none⟩) 3 cap) 3 xs
 t : TermsOk W G xs fs 3
theorem JC.below {W' : World} (j : JC base G cap xs fs W) (h : Below W.heap.size W W') : JC base G cap xs fs W' := ⟨own_below j.o h, j.t.below h⟩
theorem JC.past {W' : World} {X : Nat} (j : JC base G cap xs fs W) (hX : X ≠ G) (hx : ∀ o q, W.cell? ⟨X, o, none⟩ ≠ some (.int .i64 q)) (t : Touch (fun z => z = X) W W') : JC base G cap xs fs W' := by
 refine ⟨own_off j.o (fun g hg hs => ?_) t, fun i hi => ?_⟩
 ·have h' : some G = some g := hg;simp only [qA] at h'
  exact hX (by rw [h']; exact hs.symm)
 obtain ⟨a', c', ca, cc, e0, e1, e2, i1, i2, n1, n2⟩ := j.t i hi
 exact ⟨a', c', ca, cc, e0, e1, e2, i1.past hx t, i2.past hx t, n1, n2⟩
theorem JC.lt (j : JC base G cap xs fs W) : base <= G /\ G < W.heap.size := by
 rcases j.o.2 with ⟨h, _⟩ | ⟨g, cap', cur, h, hg, hh, _⟩
 ·cases h
 simp only [Value.slice.injEq, qA, qB, and_true, true_and] at h;obtain ⟨rfl, _⟩ := h
 exact ⟨hg, lt_of_block hh⟩
theorem JC.frz (j : JC base G cap xs fs W) (i : Nat) : W.frozen? ⟨G, i, none⟩ = false := by
 rcases j.o.2 with ⟨h, _⟩ | ⟨g, cap', cur, h, hg, hh, _⟩
 ·cases h
 simp only [Value.slice.injEq, qA, qB, and_true, true_and] at h;obtain ⟨rfl, _⟩ := h;have : Cel W G cur.toList 106 := by unfold Cel; simpa using hh
 exact this.free i
theorem JC.put {cp : Nat} (j : JC base G cp xs fs W) (hn : fs.length = 3) {p : Nat} (hp : p < 3) {B1 B2 ca cc : Nat} {C D : List Int} {K : Int} (k1 : Blk W B1 C) (l1 : C.length = 3) (k2 : Blk W B2 D) (l2 : D.length = 2) (n1 : B1 ≠ G) (n2 : B2 ≠ G) :
  FormsAt (((W.setCell ⟨G, p * 3, none⟩ (.slice (some ⟨B1, 0, none⟩) 3 ca)).setCell ⟨G, p * 3 + 1, none⟩ (.slice (some ⟨B2, 0, none⟩) 2 cc)).setCell ⟨G, p * 3 + 2, none⟩ (.int .i64 K)) (some ⟨G, 0, none⟩) (fs.set p (C, D, K)) := by
 have hT := j.t;have hx := j.o.1
 rcases j.o.2 with ⟨h, _⟩ | ⟨g, cap', cur, h, hg, hh, hl, _, hcs, ht⟩
 ·cases h
 simp only [Value.slice.injEq, qA, qB, and_true, true_and] at h;obtain ⟨rfl, rfl⟩ := h;have cel : Cel W G cur.toList 106 := by unfold Cel; simpa using hh
 have hlen : 9 <= cur.toList.length := by
  have := congrArg List.length ht;rw [List.length_take, hx] at this
  omega
 have hat : ∀ i, i < 9 -> cur.toList[i]? = xs[i]? := fun i hi => by
  rw [<- ht, List.getElem?_take, if_pos (by omega)]
 have c3 := ((cel.set (p * 3) (.slice (some ⟨B1, 0, none⟩) 3 ca)).set (p * 3 + 1) (.slice (some ⟨B2, 0, none⟩) 2 cc)).set (p * 3 + 2) (.int .i64 K);have tt : Touch (fun x => x = G) W (((W.setCell ⟨G, p * 3, none⟩ (.slice (some ⟨B1, 0, none⟩) 3 ca)).setCell ⟨G, p * 3 + 1, none⟩ (.slice (some ⟨B2, 0, none⟩) 2 cc)).setCell ⟨G, p * 3 + 2, none⟩ (.int .i64 K)) := (((Touch.refl (fun x => x = G) W).setCell rfl _).setCell rfl _).setCell rfl _;have m1 := (k1.ints' l1).by tt (fun b o e => by simp only [qA, qB, and_true] at e; omega);have m2 := (k2.ints' l2).by tt (fun b o e => by simp only [qA, qB, and_true] at e; omega);intro i hi;rw [List.length_set, hn] at hi
 by_cases e : p = i
 ·subst e;rw [qG (by omega)];refine ⟨G, 0, rfl, _, _, ca, cc, ?_, ?_, ?_, m1, m2⟩
  ·rw [Nat.zero_add, c3.cell, qF (by omega), qF (by omega), qG (by omega)]
  ·rw [Nat.zero_add, c3.cell, qF (by omega), qG (by rw [List.length_set]; omega)]
  rw [Nat.zero_add, c3.cell, qG (by rw [List.length_set, List.length_set]; omega)]; rfl
 rw [qF e];obtain ⟨a', c', x, y, e0, e1, e2, i1, i2, q1, q2⟩ := hT i hi;refine ⟨G, 0, rfl, a', c', x, y, ?_, ?_, ?_, i1.by tt q1, i2.by tt q2⟩
 ·rw [Nat.zero_add, c3.cell, qF (by omega), qF (by omega), qF (by omega), hat _ (by omega)]; exact e0
 ·rw [Nat.zero_add, c3.cell, qF (by omega), qF (by omega), qF (by omega), hat _ (by omega)]; exact e1
 rw [Nat.zero_add, c3.cell, qF (by omega), qF (by omega), qF (by omega), hat _ (by omega)]; exact e2
theorem addr_add (b off j : Nat) : (⟨b, off, none⟩ : Addr).add j = ⟨b, off + j, none⟩ := by
 by_cases h0 : j = 0
 ·subst h0; simp [Addr.add]
 simp [Addr.add, h0]
theorem iclone3_any {pa : Option Addr} {cp : Nat} (fs : List Frm) {w : World} (hn : fs.length = 3) (hP : FormsAt w pa fs) :
  Calls Tryz.prog 186 #[.slice pa 3 cp] w fun e w' => ∃ G cap xs, e = .returned (.slice (some ⟨G, 0, none⟩) 3 cap) /\ Below w.heap.size w w' /\ JC w.heap.size G cap xs fs w' := by
 obtain ⟨zi, hi, hz0, hz1, hz2⟩ := info_parts Tryz.infoForm;obtain ⟨b, off, rfl, a0, c0, x0, y0, p00, p01, p02, i0, j0⟩ := hP 0 (by omega);obtain ⟨b1, off1, e1, a1, c1, x1, y1, p10, p11, p12, i1, j1⟩ := hP 1 (by omega);obtain ⟨b2, off2, e2, a2, c2, x2, y2, p20, p21, p22, i2, j2⟩ := hP 2 (by omega);simp only [qA, qB, and_true] at e1 e2;obtain ⟨rfl, rfl⟩ := e1;obtain ⟨rfl, rfl⟩ := e2;have A : Below w.heap.size w (w.alloc (.cells #[] 106)) := bal
 have HNW : Hid (∀ j u, ([.slice a0 3 x0, .slice c0 2 y0, .int .i64 (fs[0]?.getD ([], [], 0)).2.2, .slice a1 3 x1, .slice c1 2 y1, .int .i64 (fs[1]?.getD ([], [], 0)).2.2, .slice a2 3 x2, .slice c2 2 y2, .int .i64 (fs[2]?.getD ([], [], 0)).2.2] : List Value)[j]? = some u -> (w.alloc (.cells #[] 106)).cell? ((⟨b, off, none⟩ : Addr).add j) = some u) := fun j u hu => by
  rw [addr_add];have key : ∀ q v, w.cell? ⟨b, q, none⟩ = some v -> (w.alloc (.cells #[] 106)).cell? ⟨b, q, none⟩ = some v := fun q v h => by rw [A.cell (p := ⟨b, q, none⟩) (block_lt h)]; exact h
  match j with
  | 0 => simp only [qD, qA] at hu; subst hu; exact key _ _ p00
  | 1 => simp only [qD, qE, qA] at hu; subst hu; exact key _ _ p01
  | 2 => simp only [qD, qE, qA] at hu; subst hu; exact key _ _ p02
  | 3 => simp only [qD, qE, qA] at hu; subst hu; exact key _ _ p10
  | 4 => simp only [qD, qE, qA] at hu; subst hu; exact key _ _ p11
  | 5 => simp only [qD, qE, qA] at hu; subst hu; exact key _ _ p12
  | 6 => simp only [qD, qE, qA] at hu; subst hu; exact key _ _ p20
  | 7 => simp only [qD, qE, qA] at hu; subst hu; exact key _ _ p21
  | 8 => simp only [qD, qE, qA] at hu; subst hu; exact key _ _ p22
  | j + 9 => simp at hu
 have HOL := World.ownsRow_lit (e := 106) (size := 3) (base := w.heap.size) w #[] 0 (qH _) (by unfold maxLen; omega) rfl
 have HNX : Hid (∀ u ∈ ([.slice a0 3 x0, .slice c0 2 y0, .int .i64 (fs[0]?.getD ([], [], 0)).2.2, .slice a1 3 x1, .slice c1 2 y1, .int .i64 (fs[1]?.getD ([], [], 0)).2.2, .slice a2 3 x2, .slice c2 2 y2, .int .i64 (fs[2]?.getD ([], [], 0)).2.2] : List Value), u.oneCell' = true) := by
  show ∀ u ∈ _, _
  simp [Value.oneCell']
 have I0 := i0.below A;have J0 := j0.below A;have I1 := i1.below A;have J1 := j1.below A;have I2 := i2.below A;have J2 := j2.below A;have l0 := i0.blt (by omega);have m0 := j0.blt (by omega);have l1 := i1.blt (by omega);have m1 := j1.blt (by omega);have l2 := i2.blt (by omega);have m2 := j2.blt (by omega);have hnil : ∀ w, (binOp .eql 111 (.slice (some ⟨b, off, none⟩) 3 cp) (.slice none 0 0)).run Tryz.prog w = .ok (.bool false) w := fun w => Go.Lib.run_eql_slice_nil w _ _ _ _ _ _ _ Tryz.underlying111;clear hP p00 p01 p02 p10 p11 p12 p20 p21 p22 i0 j0 i1 j1 i2 j2
 go_enter Tryz.func186, Tryz.ntmps186
 go_wp2_with (at_builtin; go_must (refine wpList_append_lies _ rfl (.tmp 5) (.tmp 6) 111 rfl w.heap.size 106 zi _ 3 56 Tryz.underlying111 hi hz0 hz1 hz2 rfl (by decide) (.slice (some ⟨w.heap.size, 0, none⟩) 0 0) 0 [] rfl HOL ⟨b, off, none⟩ 3 cp _ rfl rfl HNW.out HNX.out (by omega) (by unfold maxLen; omega) (by omega) (by rw [qC]; omega) _ rfl ?_); intro g cpg w1 hown hgrow hat hlt1)
 have hg : w.heap.size <= g := by
  rcases hat with h | h
  ·have h' : some w.heap.size = some g := h;simp only [qA] at h'
   omega
  rw [qC] at h; omega
 have gT : Touch (fun k => k = w.heap.size) (w.alloc (.cells #[] 106)) w1 := ⟨hgrow.os, hgrow.tape, hgrow.output, hgrow.size, fun z hz hn => hgrow.block z hz (fun e => hn (by have e' : some z = some w.heap.size := e; simpa using e'))⟩
 have ty : ∀ {a : Option Addr} {n : Nat} {zs : List Int}, Ints (w.alloc (.cells #[] 106)) a n zs -> (∀ b o, a = some ⟨b, o, none⟩ -> b < w.heap.size) -> Ints w1 a n zs := fun h hb => h.by gT (fun b o e => by have := hb b o e; omega);have bb : Below w.heap.size w w1 := A.grown hgrow A.size (fun k hk => by have h' : some w.heap.size = some k := hk; simp only [qA] at h'; omega)
 have jj : JC w.heap.size g cpg _ fs w1 := ⟨hown, fun i hi => by
  match i, hi with
  | 0, _ => exact ⟨a0, c0, x0, y0, rfl, rfl, rfl, ty I0 l0, ty J0 m0, fun b o e => by have := l0 b o e; omega, fun b o e => by have := m0 b o e; omega⟩
  | 1, _ => exact ⟨a1, c1, x1, y1, rfl, rfl, rfl, ty I1 l1, ty J1 m1, fun b o e => by have := l1 b o e; omega, fun b o e => by have := m1 b o e; omega⟩
  | 2, _ => exact ⟨a2, c2, x2, y2, rfl, rfl, rfl, ty I2 l2, ty J2 m2, fun b o e => by have := l2 b o e; omega, fun b o e => by have := m2 b o e; omega⟩⟩
 clear hown hgrow hat gT ty I0 J0 I1 J1 I2 J2 l0 m0 l1 m1 l2 m2
 go_wp2
 go_ret
 exact ⟨g, cpg, rfl, bb, _, jj⟩
theorem iadding_any (y : Way) (p : Nat) (hp : p < 3) (X : Frm) {ga : Option Addr} {ng gc : Nat} {pa : Option Addr} {cp : Nat} {ta : Option Addr} {nt tc : Nat} {st : Bool} {fa : Option Addr} {fc : Nat} {fd : Option Addr} {fe : Nat} {w : World} (hl : y.pots.length = 3) (hP : FormsAt w pa y.pots) (hX1 : Ints w fa 3 X.1) (hX2 : Ints w fd 2 X.2.1) (h1 : fitX 10000000 (y.pots[p]?.getD noX)) (h2 : fitX 10000000 X) (h3 : fitX 10000000 (plusX (y.pots[p]?.getD noX) X)) :
  Calls Tryz.prog 171 #[wayV ga ng gc pa cp ta nt tc st, .int .i64 (p : Int), formV fa 3 fc fd 2 fe X.2.2] w fun e w' => ∃ G cG, e = .returned (wayV ga ng gc (some ⟨G, 0, none⟩) cG ta nt tc st) /\ Below w.heap.size w w' /\ FormsAt w' (some ⟨G, 0, none⟩) (y.add p X).pots := by
 have HL : Hid (y.pots.length = 3) := hl;have H1 : Hid _ := h1;have H2 : Hid _ := h2;have H3 : Hid _ := h3;clear hl h1 h2 h3;obtain ⟨W0, hW0⟩ : ∃ W0, W0 = ((w.alloc (.cells #[.slice ga ng gc, .slice pa 3 cp, .slice ta nt tc, .bool st] 200)).alloc (.cells #[.slice fa 3 fc, .slice fd 2 fe, .int .i64 X.2.2] 106)).alloc (.cells #[.slice none 0 0, .slice none 0 0, .slice none 0 0, .bool false] 200) := ⟨_, rfl⟩
 have q0 := ((Cel.new w [.slice ga ng gc, .slice pa 3 cp, .slice ta nt tc, .bool st] 200).alloc (.cells #[.slice fa 3 fc, .slice fd 2 fe, .int .i64 X.2.2] 106)).alloc (.cells #[.slice none 0 0, .slice none 0 0, .slice none 0 0, .bool false] 200);have f0 := (Cel.new (w.alloc (.cells #[.slice ga ng gc, .slice pa 3 cp, .slice ta nt tc, .bool st] 200)) [.slice fa 3 fc, .slice fd 2 fe, .int .i64 X.2.2] 106).alloc (.cells #[.slice none 0 0, .slice none 0 0, .slice none 0 0, .bool false] 200);have r0 := Cel.new ((w.alloc (.cells #[.slice ga ng gc, .slice pa 3 cp, .slice ta nt tc, .bool st] 200)).alloc (.cells #[.slice fa 3 fc, .slice fd 2 fe, .int .i64 X.2.2] 106)) [.slice none 0 0, .slice none 0 0, .slice none 0 0, .bool false] 200;rw [qC] at f0;rw [qC, qC] at r0;have B0 : Below w.heap.size w W0 := by rw [hW0]; exact ((bal).alloc (by simp) _).alloc (by simp; omega) _
 rw [<- hW0] at q0 f0 r0
 go_enter Tryz.func171, Tryz.ntmps171
 go_upto_region 1 with fail
 rw [<- hW0];clear hW0;obtain ⟨c0, c1, c2, c3⟩ := q0.four;have z0 := q0.lt;have z1 := f0.lt;have z2 := r0.lt
 go_wp2_with fail
 refine (iclone3_any y.pots HL.out (hP.keep B0)).mono ?_;rintro e w1 ⟨G, cG, xs, rfl, b1, jG⟩;have lG := jG.lt;have q1 := q0.below b1;have f1 := f0.below b1;have r1 := r0.below b1;have B1 := btr B0 b1;have sz1 := b1.size;have x1 := hX1.below B1;have x2 := hX2.below B1;clear q0 f0 r0 c0 c1 c2 c3 b1;obtain ⟨c0, c1, c2, c3⟩ := q1.four;have y1 := q1.free 1;have T1 : Touch (fun k => k = w.heap.size) w1 (w1.setCell ⟨w.heap.size, 1, none⟩ (.slice (some ⟨G, 0, none⟩) 3 cG)) := Touch.setCell (S := fun k => k = w.heap.size) (Touch.refl _ _) rfl _;have q2 := q1.set 1 (.slice (some ⟨G, 0, none⟩) 3 cG);simp only [List.set_cons_zero, List.set_cons_succ] at q2;have f2 := f1.touch T1 (fun h => by have := h; omega);have r2 := r1.touch T1 (fun h => by have := h; omega);have B2 := B1.trans (T1.below B1.size (fun k hk => by omega));have j2 := jG.past (by omega) (boxNo q1) T1;have u1 := x1.past (boxNo q1) T1;have u2 := x2.past (boxNo q1) T1;have s2 : w1.heap.size <= (w1.setCell ⟨w.heap.size, 1, none⟩ (.slice (some ⟨G, 0, none⟩) 3 cG)).heap.size := T1.size
 go_upto_region 2 with fail
 clear q1 f1 r1 jG x1 x2 T1 B1 c0 c1 c2 c3 y1;generalize (w1.setCell ⟨w.heap.size, 1, none⟩ (.slice (some ⟨G, 0, none⟩) 3 cG)) = w2 at *;obtain ⟨pa', pc', pca, pcc, d0, d1, d2, iC, iD, nC, nD⟩ := j2.t p hp;obtain ⟨PX, hPX⟩ : ∃ PX, PX = y.pots[p]?.getD ([], [], 0) := ⟨_, rfl⟩
 have HPX : Hid (y.pots[p]?.getD noX = PX) := hPX.symm;rw [<- hPX] at d2 iC iD;clear hPX;have g0 : w2.cell? ⟨G, p * 3, none⟩ = some (.slice pa' 3 pca) := (own_cell j2.o _ (by omega)).trans d0;have g1 : w2.cell? ⟨G, p * 3 + 1, none⟩ = some (.slice pc' 2 pcc) := (own_cell j2.o _ (by omega)).trans d1;have g2 : w2.cell? ⟨G, p * 3 + 2, none⟩ = some (.int .i64 PX.2.2) := (own_cell j2.o _ (by omega)).trans d2;have lG2 := j2.lt;obtain ⟨-, m1, -, -⟩ := q2.four;obtain ⟨n0, n1, n2, -, -, -⟩ := f2.trio;have hSS : (w2.drew.cell? ⟨w.heap.size, 1, none⟩ = some (.slice (some ⟨G, 0, none⟩) 3 cG) /\ w2.drew.cell? ⟨w.heap.size + 1, 0, none⟩ = some (.slice fa 3 fc) /\ w2.drew.cell? ⟨w.heap.size + 1, 1, none⟩ = some (.slice fd 2 fe) /\ w2.drew.cell? ⟨w.heap.size + 1, 2, none⟩ = some (.int .i64 X.2.2)) /\ (w2.drew.cell? ⟨G, p * 3, none⟩ = some (.slice pa' 3 pca) /\ w2.drew.cell? ⟨G, p * 3 + 1, none⟩ = some (.slice pc' 2 pcc) /\ w2.drew.cell? ⟨G, p * 3 + 2, none⟩ = some (.int .i64 PX.2.2)) := ⟨⟨m1, n0, n1, n2⟩, g0, g1, g2⟩
 have hpI : (p : Int) < 3 := by omega
 refine wp_region_ends (fun w' => w'.cell? ⟨w.heap.size, 1, none⟩ = some (.slice (some ⟨G, 0, none⟩) 3 cG) /\ w'.cell? ⟨w.heap.size + 1, 0, none⟩ = some (.slice fa 3 fc) /\ w'.cell? ⟨w.heap.size + 1, 1, none⟩ = some (.slice fd 2 fe) /\ w'.cell? ⟨w.heap.size + 1, 2, none⟩ = some (.int .i64 X.2.2)) (fun w' => w'.cell? ⟨G, p * 3, none⟩ = some (.slice pa' 3 pca) /\ w'.cell? ⟨G, p * 3 + 1, none⟩ = some (.slice pc' 2 pcc) /\ w'.cell? ⟨G, p * 3 + 2, none⟩ = some (.int .i64 PX.2.2)) 10 (by kernel_rfl) ?_;refine tkl 0 rfl hSS ?_;refine tkl 1 rfl hSS ?_;refine tkl 2 rfl hSS ?_;refine tkl 3 rfl hSS ?_;refine tkl 4 rfl hSS ?_;refine tkl 5 rfl hSS ?_;refine tkl 6 rfl hSS ?_;refine wpAnyE_take1 (i := 7) (v := ?v7) rfl rfl (by kernel_rfl) (by kernel_rfl) (by kernel_rfl) (by decide) (by rfl) (by simp [Region.binds]) (fun _ _ _ h => h) (Or.inl ⟨by rfl, ?hy7⟩) hSS ?_
 case hy7 => (intro wz hSw; (try dsimp only at hSw); go_simp; try (with_reducible rfl))
 refine tkl 8 rfl hSS ?_;refine wo1 9 rfl fun K hK => ?_;go_simp;refine (iaddX_any PX X (iC.below (Below.refl _ _).drew) (iD.below (Below.refl _ _).drew) (u1.below (Below.refl _ _).drew) (u2.below (Below.refl _ _).drew) (by rw [<- HPX.out]; exact H1.out) H2.out (by rw [<- HPX.out]; exact H3.out)).mono ?_;rintro ee w3 ⟨E1, E2, k1', k2', rfl, bd, y1, y2, y3, v1, v2⟩;have b3 := below_of_drew bd;have y1x : w2.heap.size <= E1 := y1;have y3x : w2.heap.size <= E2 := y3;have j3 := j2.below b3;have q3 := q2.below b3;have f3 := f2.below b3;have r3 := r2.below b3;have s3 := b3.size;obtain ⟨-, m1', -, -⟩ := q3.four;obtain ⟨n0', n1', n2', -, -, -⟩ := f3.trio;have hS3 : (w3.cell? ⟨w.heap.size, 1, none⟩ = some (.slice (some ⟨G, 0, none⟩) 3 cG) /\ w3.cell? ⟨w.heap.size + 1, 0, none⟩ = some (.slice fa 3 fc) /\ w3.cell? ⟨w.heap.size + 1, 1, none⟩ = some (.slice fd 2 fe) /\ w3.cell? ⟨w.heap.size + 1, 2, none⟩ = some (.int .i64 X.2.2)) /\ (w3.cell? ⟨G, p * 3, none⟩ = some (.slice pa' 3 pca) /\ w3.cell? ⟨G, p * 3 + 1, none⟩ = some (.slice pc' 2 pcc) /\ w3.cell? ⟨G, p * 3 + 2, none⟩ = some (.int .i64 PX.2.2)) := ⟨⟨m1', n0', n1', n2'⟩, (b3.cell (p := ⟨G, p * 3, none⟩) lG2.2).trans g0, (b3.cell (p := ⟨G, p * 3 + 1, none⟩) lG2.2).trans g1, (b3.cell (p := ⟨G, p * 3 + 2, none⟩) lG2.2).trans g2⟩
 (try dsimp only);refine hK.out _ _ ⟨hS3.1, fun _ => hS3.2⟩ ?_;clear hK K hSS;refine wo1 10 rfl fun K hK => ?_;go_simp;refine hK.out _ _ ⟨hS3.1, fun h => absurd (show true = false from h) (by decide)⟩ ?_;have FPN := j3.put HL.out hp (ca := k1') (cc := k2') (K := (plusX PX X).2.2) v1 (by rw [<- HPX.out]; exact H3.out.c) v2 (by rw [<- HPX.out]; exact H3.out.d) (by omega) (by omega);have fz0 := j3.frz (p * 3);have fz1 := j3.frz (p * 3 + 1);have fz2 := j3.frz (p * 3 + 2);obtain ⟨h0', h1', h2'⟩ := hS3.2;have TT : Touch (fun q => q = G) w3 (((w3.setCell ⟨G, p * 3, none⟩ (.slice (some ⟨E1, 0, none⟩) 3 k1')).setCell ⟨G, p * 3 + 1, none⟩ (.slice (some ⟨E2, 0, none⟩) 2 k2')).setCell ⟨G, p * 3 + 2, none⟩ (.int .i64 (plusX PX X).2.2)) := (((Touch.refl (fun q => q = G) w3).setCell rfl _).setCell rfl _).setCell rfl _;have q4 := q3.touch TT (fun h => by have := h; omega);have f4 := f3.touch TT (fun h => by have := h; omega);have r4 := r3.touch TT (fun h => by have := h; omega);have B4 := (btr B2 b3).trans (TT.below (by have := B2.size; omega) (fun q hq => by omega));obtain ⟨o0, o1, o2, o3⟩ := q4.four;obtain ⟨t0, t1, t2, -, -, -⟩ := f4.trio;have sTT := TT.size;refine wo1 11 rfl fun K hK => ?_;go_simp;refine hK.out _ _ ⟨⟨o1, t0, t1, t2⟩, fun h => absurd (show true = false from h) (by decide)⟩ ?_;refine wod ?_ _
 have eAdd : (y.add p X).pots = y.pots.set p ((plusX PX X).1, (plusX PX X).2.1, (plusX PX X).2.2) := by
  show y.pots.set p (plusX (y.pots[p]?.getD noX) X) = _
  rw [HPX.out]
 rw [<- eAdd] at FPN;clear hS3 h0' h1' h2' fz0 fz1 fz2 TT eAdd f4 f3 f2 q3 q2 r3 r2 j3 j2 B2 b3 bd v1 v2 u1 u2 iC iD g0 g1 g2 d0 d1 d2;generalize (((w3.setCell ⟨G, p * 3, none⟩ (.slice (some ⟨E1, 0, none⟩) 3 k1')).setCell ⟨G, p * 3 + 1, none⟩ (.slice (some ⟨E2, 0, none⟩) 2 k2')).setCell ⟨G, p * 3 + 2, none⟩ (.int .i64 (plusX PX X).2.2)) = V at *;obtain ⟨l0, l1, l2, l3⟩ := r4.four;have fy0 := r4.free 0;have fy1 := r4.free 1;have fy2 := r4.free 2;have fy3 := r4.free 3;obtain ⟨x', T'⟩ := put4 r4 rfl (.slice ga ng gc) (.slice (some ⟨G, 0, none⟩) 3 cG) (.slice ta nt tc) (.bool st);have FP2 := FPN.past (boxNil r4) T';have B5 := B4.trans (T'.below B4.size (fun k hk => by omega));obtain ⟨e0, e1, e2, e3⟩ := x'.four;have lr := r4.lt;clear FPN r4 T' x'
 go_wp2
 refine bodyPost_ret (v := wayV ga ng gc (some ⟨G, 0, none⟩) cG ta nt tc st) (by simp [results, Tryz.results171, go_sem, e0, e1, e2, e3]) rfl ?_
 exact ⟨G, cG, rfl, B5, FP2⟩
theorem next_nil {n : Nat} (h : 0 < n) : Builtin.nextslicecap n 0 = n := by
 simp [Builtin.nextslicecap, h]
theorem run_append_made {P : Program} (w : World) {t tx : TypeId} (ty : TypeId) {e : TypeId} (i : TypeInfo) {z : Value} (ht : P.underlying t = some (.slice e)) (htx : P.underlying tx = some (.int .i64)) (hi : P.info? e = some i) (hz : i.zero = some z) (n : Nat) (h0 : 0 < n) (hs : 0 < i.size) (hn : n <= 1000) (hb : i.bytes <= 1000) :
  (Builtin.append_ #[t, tx] ty #[.slice none 0 0, .int .i64 (n : Int)]).run P w = .ok (.slice (some ⟨w.heap.size, 0, none⟩) n (grownCap w n 0 e)) (w.drew.alloc (.cells (Builtin.zeroCells z.cells n ++ Builtin.zeroCells z.cells (grownCap w n 0 e - n)) e)) := by
 have hw : IntKind.i64.wrap (n : Int) = n := wrap_id (by omega) (by omega);have h1 : ¬ ((n : Int) < 0) := by omega
 have hnb : n * i.bytes <= 1000 * 1000 := Nat.mul_le_mul hn hb
 have h2 : ¬ (281474976710656 < (n : Int) * (i.bytes : Int)) := by
  have : ((n * i.bytes : Nat) : Int) = (n : Int) * (i.bytes : Int) := by simp
  omega
 have h3 : ¬ (n * i.size = 0) := by
  have := Nat.mul_pos h0 hs
  omega
 have h4 : ¬ (n = 0) := by omega
 have h5 : ¬ (281474976710656 < n * i.bytes) := by omega
 have h6 : ¬ (9223372036854775807 < (n : Int)) := by omega
 have hold : (Builtin.firstCells i.size 0 (.slice none 0 0)).run P w.drew = .ok #[] w.drew := run_firstCells_none w.drew i.size 0 0 0;simp [Builtin.append_, asInt, asIntOf, run_underlying ht, run_underlying htx, sizeOf, typeInfo, zeroValue, hi, hz, hw, h1, h2, h3, h4, h5, h6, next_nil h0, Question.forced, hold, newRow, grownCap]
theorem wpList_append_made {P : Program} {ops : Array Oper} {rest : List Oper} {o : Oper} {a : Act} {w : World} {Q : Exit -> Act -> World -> Prop} (hgd : o.guard = none) (s x : Operand) (t tx : TypeId) (ho : o.op = .call { callee := .builtin .append, args := #[s, x], argTypes := #[t, tx] }) {v xv r : Value} {w' : World} (hs : a.eval s = v) (hx : a.eval x = xv) (hr : (Builtin.append_ #[t, tx] o.type #[v, xv]).run P w = .ok r w') (h : wpList P ops Q rest (a.put o.dst r) w') : wpList P ops Q (o :: rest) a w := by
 refine wpList_plain hgd fun K hK => ?_;unfold Oper.wp execOp;simp only [ho, resolve, invoke, builtin, Sem.run_bind, Sem.run_pure, Result.andThen_ok, List.map_toArray, List.map_cons, List.map_nil, hs, hx, hr];exact hK _ _ h
theorem zero_size (z : Array Value) (n : Nat) : (Builtin.zeroCells z n).size = n * z.size := by simp [Builtin.zeroCells]
theorem igrow_any (n : Nat) (h0 : 0 < n) (hn : n <= 1000) (w : World) :
  Calls Tryz.prog 192 #[.slice none 0 0, .int .i64 (n : Int)] w fun e w' => ∃ G cap, e = .returned (.slice (some ⟨G, 0, none⟩) 0 cap) /\ Below w.heap.size w w' /\ w'.ownsRow w.heap.size 106 3 (.slice (some ⟨G, 0, none⟩) 0 cap) 0 [] /\ n <= cap := by
 obtain ⟨zi, hi, hz0, hz1, hz2⟩ := info_parts Tryz.infoForm;have hap : ∀ (ty : TypeId) (w : World), (Builtin.append_ #[111, 3] ty #[.slice none 0 0, .int .i64 (n : Int)]).run Tryz.prog w = .ok (.slice (some ⟨w.heap.size, 0, none⟩) n (grownCap w n 0 106)) (w.drew.alloc (.cells (Builtin.zeroCells (Value.agg #[.slice none 0 0, .slice none 0 0, .int .i64 0]).cells n ++ Builtin.zeroCells (Value.agg #[.slice none 0 0, .slice none 0 0, .int .i64 0]).cells (grownCap w n 0 106 - n)) 106)) := fun ty w => run_append_made w ty zi Tryz.underlying111 (by kernel_rfl) hi hz0 n h0 (by rw [hz1]; omega) hn (by rw [hz2]; omega);have hpos : ¬ ((n : Int) < 0) := by omega
 have hpos2 : (0 : Int) < n := by omega
 have hge := grownCap_ge w n 0 106;have hle := grownCap_le_maxLen w n 0 106 (by unfold maxLen; omega)
 go_enter Tryz.func192, Tryz.ntmps192
 go_wp2_with (at_builtin; go_must (refine wpList_append_made rfl (.tmp 20) (.tmp 21) 111 3 rfl rfl rfl (hap _ _) ?_))
 have B : Below w.heap.size w (w.drew.alloc (.cells (Builtin.zeroCells (Value.agg #[.slice none 0 0, .slice none 0 0, .int .i64 0]).cells n ++ Builtin.zeroCells (Value.agg #[.slice none 0 0, .slice none 0 0, .int .i64 0]).cells (grownCap w n 0 106 - n)) 106)) := ((Below.refl w.heap.size w).drew).alloc (qH _) _
 have O : (w.drew.alloc (.cells (Builtin.zeroCells (Value.agg #[.slice none 0 0, .slice none 0 0, .int .i64 0]).cells n ++ Builtin.zeroCells (Value.agg #[.slice none 0 0, .slice none 0 0, .int .i64 0]).cells (grownCap w n 0 106 - n)) 106)).ownsRow w.heap.size 106 3 (.slice (some ⟨w.heap.size, 0, none⟩) 0 (grownCap w n 0 106)) 0 [] := by
  refine ⟨rfl, .inr ⟨w.heap.size, _, _, rfl, qH _, heap_alloc_new w.drew _, Nat.zero_le _, hle, ?_, rfl⟩⟩;rw [Array.size_append, zero_size, zero_size]
  show n * 3 + (grownCap w n 0 106 - n) * 3 = _
  omega
 go_wp2
 go_ret
 exact ⟨_, _, rfl, B, O, hge⟩
end Go.Proofs.YtfmpcihghlnlnaaGreatDoor
