/-
  Lemmas that the claim's last text rests on.
-/
import Derived.Deep.Upon
import Derived.Test.YtfmpcihghlnlnaaGreatDoorQS
namespace Go.Proofs.YtfmpcihghlnlnaaGreatDoor
open Go.RowKit Go.Deep
open Option.some renaming injEq → qA
open Addr.mk renaming injEq → qB
open List renaming getElem?_cons_zero → qE, getElem?_append_right → qF, getElem?_append_left → qG
open Nat renaming le_refl → qH
set_option linter.unusedVariables false
set_option maxRecDepth 100000
set_option maxHeartbeats 25600000
variable {G n : Nat} {W W' : World} {f : Nat -> Bool} {xs : List Value}
theorem FormsAt.cells {w : World} {b off : Nat} {fs : List Frm} (h : FormsAt w (some ⟨b, off, none⟩) fs) : ∀ k, k <= fs.length -> ∃ xs : List Value, xs.length = k * 3 /\ (∀ j u, xs[j]? = some u -> w.cell? ⟨b, off + j, none⟩ = some u) /\ (∀ u ∈ xs, u.oneCell' = true) /\ (∀ G, w.heap.size <= G -> TermsOk w G xs fs k) := by
 intro k
 induction k with
 | zero => intro _; exact ⟨[], rfl, fun j u hu => by simp at hu, fun u hu => by simp at hu, fun G _ j hj => by omega⟩
 | succ k ih =>
  intro hk;obtain ⟨xs, h1, h2, h3, h4⟩ := ih (by omega);obtain ⟨b', off', e, a', c', ca, cc, c0, c1, c2, iC, iD⟩ := h k (by omega);simp only [qA, qB, and_true] at e;obtain ⟨rfl, rfl⟩ := e;refine ⟨xs ++ [.slice a' 3 ca, .slice c' 2 cc, .int .i64 (fs[k]?.getD ([], [], 0)).2.2], by rw [List.length_append, h1]; simp; omega, fun j u hu => ?_, fun u hu => ?_, fun G hG j hj => ?_⟩
  ·by_cases hj : j < xs.length
   ·rw [qG hj] at hu; exact h2 j u hu
   rw [qF (by omega), h1] at hu;obtain ⟨r, rfl⟩ : ∃ r, j = k * 3 + r := ⟨j - k * 3, by omega⟩
   rw [show k * 3 + r - k * 3 = r by omega] at hu
   match r with
   | 0 => simp only [qE, qA] at hu; subst hu; exact c0
   | 1 => simp only [qE, List.getElem?_cons_succ, qA] at hu; subst hu; exact c1
   | 2 => simp only [qE, List.getElem?_cons_succ, qA] at hu; subst hu; exact c2
   | r + 3 => simp at hu
  ·rcases List.mem_append.1 hu with hu | hu
   ·exact h3 u hu
   simp only [List.mem_cons, List.not_mem_nil, or_false] at hu
   rcases hu with rfl | rfl | rfl <;> rfl
  by_cases hjk : j < k
  ·obtain ⟨a2, c2', x, y, e0, e1, e2, i1, i2, n1, n2⟩ := h4 G hG j hjk
   exact ⟨a2, c2', x, y, by rw [qG (by omega)]; exact e0, by rw [qG (by omega)]; exact e1, by rw [qG (by omega)]; exact e2, i1, i2, n1, n2⟩
  obtain rfl : j = k := by omega
  refine ⟨a', c', ca, cc, ?_, ?_, ?_, iC, iD, fun b o e => by have := iC.blt (by omega) b o e; omega, fun b o e => by have := iD.blt (by omega) b o e; omega⟩
  ·rw [qF (by omega), h1, Nat.sub_self]; rfl
  ·rw [qF (by omega), h1, show j * 3 + 1 - j * 3 = 1 by omega]; rfl
  rw [qF (by omega), h1, show j * 3 + 2 - j * 3 = 2 by omega]; rfl
theorem TermsOk.move {g : Nat} {T : List Frm} (h : TermsOk W G xs T n) (t : Touch (fun x => x = G) W W') (hg : g = G \/ W.heap.size <= g) : TermsOk W' g xs T n := fun j hj => by
 obtain ⟨a', c', ca, cc, e0, e1, e2, i1, i2, n1, n2⟩ := h j hj;refine ⟨a', c', ca, cc, e0, e1, e2, i1.by t n1, i2.by t n2, fun b o e => ?_, fun b o e => ?_⟩
 ·have := n1 b o e;have := i1.blt (by omega) b o e
  omega
 have := n2 b o e;have := i2.blt (by omega) b o e
 omega
theorem TermsOk.join {ys : List Value} {T U : List Frm} {m : Nat} (h : TermsOk W G xs T n) (h' : TermsOk W G ys U m) (hx : xs.length = n * 3) (hT : T.length = n) : TermsOk W G (xs ++ ys) (T ++ U) (n + m) := fun j hj => by
 by_cases hjn : j < n
 ·obtain ⟨a', c', ca, cc, e0, e1, e2, r⟩ := h j hjn;refine ⟨a', c', ca, cc, by rw [qG (by omega)]; exact e0, by rw [qG (by omega)]; exact e1, ?_, ?_⟩
  ·rw [qG (by omega), qG (l₁ := T) (by omega)]; exact e2
  rw [qG (l₁ := T) (by omega)]; exact r
 obtain ⟨a', c', ca, cc, e0, e1, e2, r⟩ := h' (j - n) (by omega);refine ⟨a', c', ca, cc, ?_, ?_, ?_, ?_⟩
 ·rw [qF (by omega), hx, show j * 3 - n * 3 = (j - n) * 3 by omega]; exact e0
 ·rw [qF (by omega), hx, show j * 3 + 1 - n * 3 = (j - n) * 3 + 1 by omega]; exact e1
 ·rw [qF (by omega), hx, show j * 3 + 2 - n * 3 = (j - n) * 3 + 2 by omega, qF (l₁ := T) (by omega), hT]; exact e2
 rw [qF (l₁ := T) (by omega), hT]; exact r
theorem grown_touch (h : W.grownBy W' (some G)) : Touch (fun x => x = G) W W' := ⟨h.os, h.tape, h.output, h.size, fun z hz hn => h.block z hz (fun e => hn (by simpa using e))⟩
theorem igrow_at {x : Int} (n : Nat) (hx : x = (n : Int)) (h0 : 0 < n) (hn : n <= 1000) {w : World} :
  Calls Tryz.prog 192 #[.slice none 0 0, .int .i64 x] w fun e w' => ∃ G cap, e = .returned (.slice (some ⟨G, 0, none⟩) 0 cap) /\ Below w.heap.size w w' /\ w'.ownsRow w.heap.size 106 3 (.slice (some ⟨G, 0, none⟩) 0 cap) 0 [] /\ n <= cap := by
 subst hx
 exact igrow_any n h0 hn w
theorem own_lo {base g cap : Nat} (h : W.ownsRow base 106 3 (.slice (some ⟨g, 0, none⟩) n cap) n xs) : base <= g /\ g < W.heap.size /\ n <= cap := by
 rcases h.2 with ⟨h', _⟩ | ⟨g', cap', cur, h', hb, hh, hc, _⟩
 ·cases h'
 simp only [Value.slice.injEq, qA, qB, and_true, true_and] at h';obtain ⟨rfl, rfl⟩ := h'
 exact ⟨hb, lt_of_block hh, hc⟩
theorem iconcat_any {Q : Nat} {ga : Option Addr} {ng gc : Nat} (fs : List Frm) {F fcap : Nat} (X : Frm) {w : World} (hQ : Cel w Q [.slice ga ng gc, .slice (some ⟨F, 0, none⟩) 1 fcap] 111) (hn : fs.length = ng) (hng : ng <= 100) (hG : FormsAt w ga fs) (hX : FormsAt w (some ⟨F, 0, none⟩) [X]) :
  Calls Tryz.prog 185 #[.slice (some ⟨Q, 0, none⟩) 2 2] w fun e w' => ∃ G cap, e = .returned (.slice (some ⟨G, 0, none⟩) (ng + 1) cap) /\ Below w.heap.size w w' /\ FormsAt w' (some ⟨G, 0, none⟩) (fs ++ [X]) := by
 have HN : Hid (fs.length = ng) := hn;have HG : Hid (FormsAt w ga fs) := hG;have HX : Hid (FormsAt w (some ⟨F, 0, none⟩) [X]) := hX;have HQ : Hid (Cel w Q [.slice ga ng gc, .slice (some ⟨F, 0, none⟩) 1 fcap] 111) := hQ;clear hn hG hX hQ;obtain ⟨zi, hi, hz0, hz1, hz2⟩ := info_parts Tryz.infoForm
 go_enter Tryz.func185, Tryz.ntmps185
 go_wp2_with fail
 go_loopw [3, 5, 11] (fun s _ i wr => ∃ k : Nat, k <= 2 /\ i = .int .i64 k /\ (∃ x : Int, s = .int .i64 x /\ ((k = 0 /\ x = 0) \/ (k = 1 /\ x = ng) \/ (k = 2 /\ x = ng + 1))) /\ wr = w) (fun _ _ i _ => 2 - (intOf i).toNat)
 case atStart => exact ⟨0, by omega, rfl, ⟨0, rfl, .inl ⟨rfl, rfl⟩⟩, rfl⟩
 case round =>
  obtain ⟨k, hk, rfl, ⟨x, rfl, hx⟩, hwr⟩ := hrel;have hwr' : w = wr := hwr.symm;subst hwr';have c0 : w.cell? ⟨Q, 0, none⟩ = some (.slice ga ng gc) := HQ.out.cell 0;have c1 : w.cell? ⟨Q, 1, none⟩ = some (.slice (some ⟨F, 0, none⟩) 1 fcap) := HQ.out.cell 1
  rcases hx with ⟨rfl, rfl⟩ | ⟨rfl, rfl⟩ | ⟨rfl, rfl⟩
  ·have p1 : ¬ ((ng : Int) < 0) := by omega
   go_wp2
   go_roundw
   case rel => exact ⟨1, by omega, rfl, ⟨_, rfl, .inr (.inl ⟨rfl, rfl⟩)⟩, trivial⟩
   case measure => simp [intOf]
  ·have p1 : ¬ ((ng : Int) + 1 < 0) := by omega
   go_wp2
   go_roundw
   case rel => exact ⟨2, by omega, rfl, ⟨_, rfl, .inr (.inr ⟨rfl, rfl⟩)⟩, trivial⟩
   case measure => simp [intOf]
  go_wp2_with fail
  refine (igrow_at (ng + 1) (by omega) (by omega) (by omega)).mono ?_;rintro e w1 ⟨G, cap, rfl, b1, o1, hcap⟩;clear c0 c1
  go_wp2_with fail
  go_loopw [6, 8, 27] (fun r _ i w2 => ∃ (k n g cp : Nat) (xs : List Value) (T : List Frm), k <= 2 /\ i = .int .i64 k /\ r = .slice (some ⟨g, 0, none⟩) n cp /\ T.length = n /\ ((k = 0 /\ n = 0 /\ T = []) \/ (k = 1 /\ n = ng /\ T = fs) \/ (k = 2 /\ n = ng + 1 /\ T = fs ++ [X])) /\ Below w.heap.size w w2 /\ w2.ownsRow w.heap.size 106 3 (.slice (some ⟨g, 0, none⟩) n cp) n xs /\ TermsOk w2 g xs T n) (fun _ _ i _ => 2 - (intOf i).toNat)
  case atStart => exact ⟨0, 0, G, cap, [], [], by omega, rfl, rfl, rfl, .inl ⟨rfl, rfl, rfl⟩, b1, o1, fun j hj => by omega⟩
  case round =>
   clear b1 o1 hcap;obtain ⟨k, n, g, cp, xs, T, hk, rfl, rfl, hT, hx, hb, ho, ht⟩ := hrel;have HT : Hid (T.length = n) := hT;have HTT : Hid (TermsOk wr g xs T n) := ht;have q := HQ.out.below hb;have c0 : wr.cell? ⟨Q, 0, none⟩ = some (.slice ga ng gc) := q.cell 0;have c1 : wr.cell? ⟨Q, 1, none⟩ = some (.slice (some ⟨F, 0, none⟩) 1 fcap) := q.cell 1;obtain ⟨lo1, lo2, lo3⟩ := own_lo ho;have sz := hb.size;clear hT ht q
   rcases hx with ⟨rfl, rfl, rfl⟩ | ⟨rfl, rfl, rfl⟩ | ⟨rfl, rfl, rfl⟩
   ·rcases Nat.eq_zero_or_pos ng with h0 | h0
    ·have HNG : Hid (ng = 0) := h0;clear h0
     have hs : ∀ w : World, Src Tryz.prog zi.size 111 (.slice ga ng gc) 0 [] w := fun w => by
      rw [HNG.out]
      cases ga with
      | none => exact Src.ofNil w Tryz.underlying111 gc
      | some a => exact Src.ofSlice w Tryz.underlying111 a 0 gc [] (by simp) (fun j u hu => by simp at hu) (fun u hu => by simp at hu)
     go_wp2_with (at_builtin; go_must (refine wpList_append_made rfl (.tmp 31) (.tmp 32) 111 111 rfl rfl rfl (run_append_nothing _ _ _ _ _ zi Tryz.underlying111 hi _ _ _ lo3 _ (hs _)) ?_))
     (try go_wp2)
     go_roundw
     case rel => exact ⟨1, 0, g, cp, xs, fs, by omega, rfl, rfl, HN.out.trans HNG.out, .inr (.inl ⟨rfl, HNG.out.symm, rfl⟩), hb, ho, fun j hj => by omega⟩
     case measure => simp [intOf]
    obtain ⟨gb, go', rfl, -⟩ := HG.out 0 (by rw [HN.out]; exact h0);obtain ⟨ys, y1, y2, y3, y4⟩ := (HG.out.keep hb).cells ng (by rw [HN.out]; exact qH _);have HY2 : Hid (∀ j u, ys[j]? = some u -> wr.cell? ((⟨gb, go', none⟩ : Addr).add j) = some u) := fun j u hu => by rw [addr_add]; exact y2 j u hu
    have HY3 : Hid _ := y3;have HY1 : Hid (ys.length = ng * 3) := y1;have HG2 := (HG.out.keep hb)
    obtain ⟨zs, z1, z2, z3, z4⟩ := HG.out.cells ng (by rw [HN.out]; exact qH _);have hxs : xs = [] := List.eq_nil_of_length_eq_zero (by have := ho.1; omega);subst hxs
    have HTG : Hid (TermsOk wr g ys fs ng) := fun j hj => by
     obtain ⟨a', c', ca, cc, e0, e1, e2, i1, i2, n1, n2⟩ := y4 wr.heap.size (qH _) j hj;obtain ⟨b0, o0, e, a'', c'', ca', cc', k0, k1, k2, iC, iD⟩ := HG.out j (by rw [HN.out]; exact hj);simp only [qA, qB, and_true] at e;obtain ⟨rfl, rfl⟩ := e;have f0 := (hb.cell (p := ⟨gb, go' + j * 3, none⟩) (block_lt k0)).trans k0;have f1 := (hb.cell (p := ⟨gb, go' + j * 3 + 1, none⟩) (block_lt k1)).trans k1;have g0 := y2 (j * 3) _ e0;have g1 := y2 (j * 3 + 1) _ e1;rw [f0] at g0;rw [show go' + (j * 3 + 1) = go' + j * 3 + 1 by omega, f1] at g1;simp only [qA, Value.slice.injEq, true_and] at g0 g1;obtain ⟨rfl, rfl⟩ := g0;obtain ⟨rfl, rfl⟩ := g1
     exact ⟨a'', c'', ca', cc', e0, e1, e2, i1, i2, fun b o e => by have := iC.blt (by omega) b o e; omega, fun b o e => by have := iD.blt (by omega) b o e; omega⟩
    clear y1 y2 y3 y4 z1 z2 z3 z4 zs HG2
    go_wp2_with (at_builtin; go_must (refine wpList_append_lies _ rfl (.tmp 31) (.tmp 32) 111 rfl w.heap.size 106 zi _ 3 56 Tryz.underlying111 hi hz0 hz1 hz2 rfl (by decide) (.slice (some ⟨g, 0, none⟩) 0 cp) 0 [] rfl ho ⟨gb, go', none⟩ ng gc ys rfl HY1.out HY2.out HY3.out h0 (by unfold maxLen; omega) (by omega) sz _ rfl ?_); intro g2 cp2 w3 hown hgrow hat hlt1)
    have t3 : Touch (fun x => x = g) wr w3 := grown_touch hgrow
    have hat' : g2 = g \/ wr.heap.size <= g2 := by
     rcases hat with h | h
     ·have h' : some g = some g2 := h;simp only [qA] at h'
      omega
     omega
    have T3 := HTG.out.move t3 hat';have b3 := hb.trans (t3.below hb.size (fun k hk => by omega))
    have ow : w3.ownsRow w.heap.size 106 3 (.slice (some ⟨g2, 0, none⟩) ng cp2) ng ys := by
     have := hown;rw [Nat.zero_add, List.nil_append] at this
     exact this
    clear hown hgrow hat t3 hat' HTG;(try go_wp2)
    go_roundw
    case rel => exact ⟨1, ng, g2, cp2, ys, fs, by omega, rfl, rfl, HN.out, .inr (.inl ⟨rfl, rfl, rfl⟩), b3, ow, T3⟩
    case measure => simp [intOf]
   ·obtain ⟨ys, y1, y2, y3, y4⟩ := (HX.out.keep hb).cells 1 (qH _);have HY2 : Hid (∀ j u, ys[j]? = some u -> wr.cell? ((⟨F, 0, none⟩ : Addr).add j) = some u) := fun j u hu => by rw [addr_add]; exact y2 j u hu
    have HY3 : Hid _ := y3;have HY1 : Hid (ys.length = 1 * 3) := y1
    have HTG : Hid (TermsOk wr g ys [X] 1) := fun j hj => by
     obtain ⟨a', c', ca, cc, e0, e1, e2, i1, i2, n1, n2⟩ := y4 wr.heap.size (qH _) j hj;obtain ⟨b0, o0, e, a'', c'', ca', cc', k0, k1, k2, iC, iD⟩ := HX.out j hj;simp only [qA, qB, and_true] at e;obtain ⟨rfl, rfl⟩ := e;have f0 := (hb.cell (p := ⟨F, 0 + j * 3, none⟩) (block_lt k0)).trans k0;have f1 := (hb.cell (p := ⟨F, 0 + j * 3 + 1, none⟩) (block_lt k1)).trans k1;have g0 := y2 (j * 3) _ e0;have g1 := y2 (j * 3 + 1) _ e1;rw [f0] at g0;rw [show 0 + (j * 3 + 1) = 0 + j * 3 + 1 by omega, f1] at g1;simp only [qA, Value.slice.injEq, true_and] at g0 g1;obtain ⟨rfl, rfl⟩ := g0;obtain ⟨rfl, rfl⟩ := g1
     exact ⟨a'', c'', ca', cc', e0, e1, e2, i1, i2, fun b o e => by have := iC.blt (by omega) b o e; omega, fun b o e => by have := iD.blt (by omega) b o e; omega⟩
    have HJ : Hid (TermsOk wr g (xs ++ ys) (T ++ [X]) (n + 1)) := HTT.out.join HTG.out ho.1 HT.out;clear y1 y2 y3 y4
    go_wp2_with (at_builtin; go_must (refine wpList_append_lies _ rfl (.tmp 31) (.tmp 32) 111 rfl w.heap.size 106 zi _ 3 56 Tryz.underlying111 hi hz0 hz1 hz2 rfl (by decide) (.slice (some ⟨g, 0, none⟩) n cp) n xs rfl ho ⟨F, 0, none⟩ 1 fcap ys rfl HY1.out HY2.out HY3.out (by omega) (by unfold maxLen; omega) (by omega) sz _ rfl ?_); intro g2 cp2 w3 hown hgrow hat hlt1)
    have t3 : Touch (fun x => x = g) wr w3 := grown_touch hgrow
    have hat' : g2 = g \/ wr.heap.size <= g2 := by
     rcases hat with h | h
     ·have h' : some g = some g2 := h;simp only [qA] at h'
      omega
     omega
    have T3 := HJ.out.move t3 hat';have b3 := hb.trans (t3.below hb.size (fun k hk => by omega));clear hgrow hat t3 hat' HTG HJ;(try go_wp2)
    go_roundw
    case rel => exact ⟨2, _, g2, cp2, _, T ++ [X], by omega, rfl, rfl, by rw [List.length_append, HT.out]; rfl, .inr (.inr ⟨rfl, rfl, rfl⟩), b3, hown, T3⟩
    case measure => simp [intOf]
   go_wp2
   go_ret
   exact ⟨g, cp, rfl, hb, HTT.out.forms HT.out ho⟩
theorem FormsAt.past2 {X : Nat} {a : Option Addr} {fs : List Frm} (h : FormsAt W a fs) (hx : ∀ o q, W.cell? ⟨X, o, none⟩ ≠ some (.int .i64 q)) (t : Touch (fun z => z = X) W W') : FormsAt W' a fs := fun i hi => by
 obtain ⟨b, off, e, a', c', ca, cc, c0, c1, c2, iC, iD⟩ := h i hi;have hne : b ≠ X := fun e2 => by subst e2; exact hx _ _ c2
 have hb := block_lt c0;refine ⟨b, off, e, a', c', ca, cc, ?_, ?_, ?_, iC.past hx t, iD.past hx t⟩
 ·simp only [World.cell?] at c0 ⊢; rw [t.block b hb hne]; exact c0
 ·simp only [World.cell?] at c1 ⊢; rw [t.block b hb hne]; exact c1
 simp only [World.cell?] at c2 ⊢; rw [t.block b hb hne]; exact c2
theorem iguard_any (X : Frm) (fs : List Frm) (ga : Option Addr) (ng gc : Nat) (pa : Option Addr) (cp : Nat) (ta : Option Addr) (nt tc : Nat) (st : Bool) (fa : Option Addr) (fc : Nat) (fd : Option Addr) (fe : Nat) (w : World) (hl : fs.length = ng) (hn : ng <= 100) (hG : FormsAt w ga fs) (hX1 : Ints w fa 3 X.1) (hX2 : Ints w fd 2 X.2.1) :
  Calls Tryz.prog 169 #[wayV ga ng gc pa cp ta nt tc st, formV fa 3 fc fd 2 fe X.2.2] w fun e w' => ∃ G cG, e = .returned (wayV (some ⟨G, 0, none⟩) (ng + 1) cG pa cp ta nt tc st) /\ Below w.heap.size w w' /\ FormsAt w' (some ⟨G, 0, none⟩) (fs ++ [X]) := by
 have HL : Hid (fs.length = ng) := hl;clear hl;have B3 : Below w.heap.size w (((w.alloc (.cells #[.slice ga ng gc, .slice pa 3 cp, .slice ta nt tc, .bool st] 200)).alloc (.cells #[.slice fa 3 fc, .slice fd 2 fe, .int .i64 X.2.2] 106)).alloc (.cells #[.slice none 0 0, .slice none 0 0, .slice none 0 0, .bool false] 200)) := ((bal).alloc (by simp) _).alloc (by simp; omega) _;have B5 : Below w.heap.size w (((((w.alloc (.cells #[.slice ga ng gc, .slice pa 3 cp, .slice ta nt tc, .bool st] 200)).alloc (.cells #[.slice fa 3 fc, .slice fd 2 fe, .int .i64 X.2.2] 106)).alloc (.cells #[.slice none 0 0, .slice none 0 0, .slice none 0 0, .bool false] 200)).alloc (.cells #[.slice fa 3 fc, .slice fd 2 fe, .int .i64 X.2.2] 106)).alloc (.cells #[.slice ga ng gc, .slice (some ⟨w.heap.size + 1 + 1 + 1, 0, none⟩) 1 1] 111)) := (B3.alloc B3.size _).alloc (B3.alloc B3.size _).size _;have q0 := ((((Cel.new w [.slice ga ng gc, .slice pa 3 cp, .slice ta nt tc, .bool st] 200).alloc (.cells #[.slice fa 3 fc, .slice fd 2 fe, .int .i64 X.2.2] 106)).alloc (.cells #[.slice none 0 0, .slice none 0 0, .slice none 0 0, .bool false] 200)).alloc (.cells #[.slice fa 3 fc, .slice fd 2 fe, .int .i64 X.2.2] 106)).alloc (.cells #[.slice ga ng gc, .slice (some ⟨w.heap.size + 1 + 1 + 1, 0, none⟩) 1 1] 111)
 have r0 := ((Cel.new (((w.alloc (.cells #[.slice ga ng gc, .slice pa 3 cp, .slice ta nt tc, .bool st] 200)).alloc (.cells #[.slice fa 3 fc, .slice fd 2 fe, .int .i64 X.2.2] 106))) [.slice none 0 0, .slice none 0 0, .slice none 0 0, .bool false] 200).alloc (.cells #[.slice fa 3 fc, .slice fd 2 fe, .int .i64 X.2.2] 106)).alloc (.cells #[.slice ga ng gc, .slice (some ⟨w.heap.size + 1 + 1 + 1, 0, none⟩) 1 1] 111);have f0 := (Cel.new ((((w.alloc (.cells #[.slice ga ng gc, .slice pa 3 cp, .slice ta nt tc, .bool st] 200)).alloc (.cells #[.slice fa 3 fc, .slice fd 2 fe, .int .i64 X.2.2] 106)).alloc (.cells #[.slice none 0 0, .slice none 0 0, .slice none 0 0, .bool false] 200))) [.slice fa 3 fc, .slice fd 2 fe, .int .i64 X.2.2] 106).alloc (.cells #[.slice ga ng gc, .slice (some ⟨w.heap.size + 1 + 1 + 1, 0, none⟩) 1 1] 111);have s0 := Cel.new (((((w.alloc (.cells #[.slice ga ng gc, .slice pa 3 cp, .slice ta nt tc, .bool st] 200)).alloc (.cells #[.slice fa 3 fc, .slice fd 2 fe, .int .i64 X.2.2] 106)).alloc (.cells #[.slice none 0 0, .slice none 0 0, .slice none 0 0, .bool false] 200)).alloc (.cells #[.slice fa 3 fc, .slice fd 2 fe, .int .i64 X.2.2] 106))) [.slice ga ng gc, .slice (some ⟨w.heap.size + 1 + 1 + 1, 0, none⟩) 1 1] 111;simp only [World.size_alloc] at r0 f0 s0
 have hF : FormsAt ((((((w.alloc (.cells #[.slice ga ng gc, .slice pa 3 cp, .slice ta nt tc, .bool st] 200)).alloc (.cells #[.slice fa 3 fc, .slice fd 2 fe, .int .i64 X.2.2] 106)).alloc (.cells #[.slice none 0 0, .slice none 0 0, .slice none 0 0, .bool false] 200)).alloc (.cells #[.slice fa 3 fc, .slice fd 2 fe, .int .i64 X.2.2] 106)).alloc (.cells #[.slice ga ng gc, .slice (some ⟨w.heap.size + 1 + 1 + 1, 0, none⟩) 1 1] 111))) (some ⟨w.heap.size + 1 + 1 + 1, 0, none⟩) [X] := fun i hi => by
  simp only [List.length_cons, List.length_nil] at hi;obtain rfl : i = 0 := by omega
  exact ⟨_, 0, rfl, fa, fd, fc, fe, f0.cell 0, f0.cell 1, f0.cell 2, hX1.below B5, hX2.below B5⟩
 have hG5 := hG.keep B5
 go_enter Tryz.func169, Tryz.ntmps169
 go_wp2_with fail
 refine (iconcat_any fs X s0 HL.out hn hG5 hF).mono ?_;rintro e w1 ⟨G, cG, rfl, b1, F1⟩;have B1 := btr B5 b1;have q1 := q0.below b1;have r1 := r0.below b1;have lq := q1.lt;have lr := r1.lt;clear q0 r0 f0 s0 hF hG5 b1;obtain ⟨c0, c1, c2, c3⟩ := q1.four;have y0 := q1.free 0;have T1 : Touch (fun k => k = w.heap.size) w1 (w1.setCell ⟨w.heap.size, 0, none⟩ (.slice (some ⟨G, 0, none⟩) (ng + 1) cG)) := Touch.setCell (S := fun k => k = w.heap.size) (Touch.refl _ _) rfl _;have q2 := q1.set 0 (.slice (some ⟨G, 0, none⟩) (ng + 1) cG);simp only [List.set_cons_zero] at q2;have r2 := r1.touch T1 (fun h => by have := h; omega);have F2 := F1.past2 (boxNo q1) T1;have B2 := B1.trans (T1.below B1.size (fun k hk => by omega))
 go_upto_region 2 with fail
 clear q1 r1 F1 T1 B1 c0 c1 c2 c3 y0;generalize (w1.setCell ⟨w.heap.size, 0, none⟩ (.slice (some ⟨G, 0, none⟩) (ng + 1) cG)) = w2 at *;obtain ⟨c0, c1, c2, c3⟩ := q2.four;obtain ⟨l0, l1, l2, l3⟩ := r2.four;have fy0 := r2.free 0;have fy1 := r2.free 1;have fy2 := r2.free 2;have fy3 := r2.free 3;obtain ⟨x', T'⟩ := put4 r2 rfl (.slice (some ⟨G, 0, none⟩) (ng + 1) cG) (.slice pa 3 cp) (.slice ta nt tc) (.bool st);have F3 := F2.past2 (boxNo r2) T';have BB := B2.trans (T'.below B2.size (fun k hk => by omega));obtain ⟨e0, e1, e2, e3⟩ := x'.four;have lr2 := r2.lt;clear F2 r2 T' x' q2
 go_wp2
 refine bodyPost_ret (v := wayV (some ⟨G, 0, none⟩) (ng + 1) cG pa cp ta nt tc st) (by simp [results, Tryz.results169, go_sem, e0, e1, e2, e3]) rfl ?_
 exact ⟨G, cG, rfl, BB, F3⟩
theorem itell_any (X : Frm) (fs : List Frm) {ga : Option Addr} {ng gc : Nat} {pa : Option Addr} {cp : Nat} {ta : Option Addr} {nt tc : Nat} {st : Bool} {fa : Option Addr} {fc : Nat} {fd : Option Addr} {fe : Nat} {w : World} (hl : fs.length = nt) (hn : nt <= 100) (hG : FormsAt w ta fs) (hX1 : Ints w fa 3 X.1) (hX2 : Ints w fd 2 X.2.1) :
  Calls Tryz.prog 172 #[wayV ga ng gc pa cp ta nt tc st, formV fa 3 fc fd 2 fe X.2.2] w fun e w' => ∃ G cG, e = .returned (wayV ga ng gc pa cp (some ⟨G, 0, none⟩) (nt + 1) cG st) /\ Below w.heap.size w w' /\ FormsAt w' (some ⟨G, 0, none⟩) (fs ++ [X]) := by
 have HL : Hid (fs.length = nt) := hl;clear hl;have B3 : Below w.heap.size w (((w.alloc (.cells #[.slice ga ng gc, .slice pa 3 cp, .slice ta nt tc, .bool st] 200)).alloc (.cells #[.slice fa 3 fc, .slice fd 2 fe, .int .i64 X.2.2] 106)).alloc (.cells #[.slice none 0 0, .slice none 0 0, .slice none 0 0, .bool false] 200)) := ((bal).alloc (by simp) _).alloc (by simp; omega) _;have B5 : Below w.heap.size w (((((w.alloc (.cells #[.slice ga ng gc, .slice pa 3 cp, .slice ta nt tc, .bool st] 200)).alloc (.cells #[.slice fa 3 fc, .slice fd 2 fe, .int .i64 X.2.2] 106)).alloc (.cells #[.slice none 0 0, .slice none 0 0, .slice none 0 0, .bool false] 200)).alloc (.cells #[.slice fa 3 fc, .slice fd 2 fe, .int .i64 X.2.2] 106)).alloc (.cells #[.slice ta nt tc, .slice (some ⟨w.heap.size + 1 + 1 + 1, 0, none⟩) 1 1] 111)) := (B3.alloc B3.size _).alloc (B3.alloc B3.size _).size _;have q0 := ((((Cel.new w [.slice ga ng gc, .slice pa 3 cp, .slice ta nt tc, .bool st] 200).alloc (.cells #[.slice fa 3 fc, .slice fd 2 fe, .int .i64 X.2.2] 106)).alloc (.cells #[.slice none 0 0, .slice none 0 0, .slice none 0 0, .bool false] 200)).alloc (.cells #[.slice fa 3 fc, .slice fd 2 fe, .int .i64 X.2.2] 106)).alloc (.cells #[.slice ta nt tc, .slice (some ⟨w.heap.size + 1 + 1 + 1, 0, none⟩) 1 1] 111)
 have r0 := ((Cel.new (((w.alloc (.cells #[.slice ga ng gc, .slice pa 3 cp, .slice ta nt tc, .bool st] 200)).alloc (.cells #[.slice fa 3 fc, .slice fd 2 fe, .int .i64 X.2.2] 106))) [.slice none 0 0, .slice none 0 0, .slice none 0 0, .bool false] 200).alloc (.cells #[.slice fa 3 fc, .slice fd 2 fe, .int .i64 X.2.2] 106)).alloc (.cells #[.slice ta nt tc, .slice (some ⟨w.heap.size + 1 + 1 + 1, 0, none⟩) 1 1] 111);have f0 := (Cel.new ((((w.alloc (.cells #[.slice ga ng gc, .slice pa 3 cp, .slice ta nt tc, .bool st] 200)).alloc (.cells #[.slice fa 3 fc, .slice fd 2 fe, .int .i64 X.2.2] 106)).alloc (.cells #[.slice none 0 0, .slice none 0 0, .slice none 0 0, .bool false] 200))) [.slice fa 3 fc, .slice fd 2 fe, .int .i64 X.2.2] 106).alloc (.cells #[.slice ta nt tc, .slice (some ⟨w.heap.size + 1 + 1 + 1, 0, none⟩) 1 1] 111);have s0 := Cel.new (((((w.alloc (.cells #[.slice ga ng gc, .slice pa 3 cp, .slice ta nt tc, .bool st] 200)).alloc (.cells #[.slice fa 3 fc, .slice fd 2 fe, .int .i64 X.2.2] 106)).alloc (.cells #[.slice none 0 0, .slice none 0 0, .slice none 0 0, .bool false] 200)).alloc (.cells #[.slice fa 3 fc, .slice fd 2 fe, .int .i64 X.2.2] 106))) [.slice ta nt tc, .slice (some ⟨w.heap.size + 1 + 1 + 1, 0, none⟩) 1 1] 111;simp only [World.size_alloc] at r0 f0 s0
 have hF : FormsAt ((((((w.alloc (.cells #[.slice ga ng gc, .slice pa 3 cp, .slice ta nt tc, .bool st] 200)).alloc (.cells #[.slice fa 3 fc, .slice fd 2 fe, .int .i64 X.2.2] 106)).alloc (.cells #[.slice none 0 0, .slice none 0 0, .slice none 0 0, .bool false] 200)).alloc (.cells #[.slice fa 3 fc, .slice fd 2 fe, .int .i64 X.2.2] 106)).alloc (.cells #[.slice ta nt tc, .slice (some ⟨w.heap.size + 1 + 1 + 1, 0, none⟩) 1 1] 111))) (some ⟨w.heap.size + 1 + 1 + 1, 0, none⟩) [X] := fun i hi => by
  simp only [List.length_cons, List.length_nil] at hi;obtain rfl : i = 0 := by omega
  exact ⟨_, 0, rfl, fa, fd, fc, fe, f0.cell 0, f0.cell 1, f0.cell 2, hX1.below B5, hX2.below B5⟩
 have hG5 := hG.keep B5
 go_enter Tryz.func172, Tryz.ntmps172
 go_wp2_with fail
 refine (iconcat_any fs X s0 HL.out hn hG5 hF).mono ?_;rintro e w1 ⟨G, cG, rfl, b1, F1⟩;have B1 := btr B5 b1;have q1 := q0.below b1;have r1 := r0.below b1;have lq := q1.lt;have lr := r1.lt;clear q0 r0 f0 s0 hF hG5 b1;obtain ⟨c0, c1, c2, c3⟩ := q1.four;have y0 := q1.free 2;have T1 : Touch (fun k => k = w.heap.size) w1 (w1.setCell ⟨w.heap.size, 2, none⟩ (.slice (some ⟨G, 0, none⟩) (nt + 1) cG)) := Touch.setCell (S := fun k => k = w.heap.size) (Touch.refl _ _) rfl _;have q2 := q1.set 2 (.slice (some ⟨G, 0, none⟩) (nt + 1) cG);simp only [List.set_cons_zero, List.set_cons_succ] at q2;have r2 := r1.touch T1 (fun h => by have := h; omega);have F2 := F1.past2 (boxNo q1) T1;have B2 := B1.trans (T1.below B1.size (fun k hk => by omega))
 go_upto_region 2 with fail
 clear q1 r1 F1 T1 B1 c0 c1 c2 c3 y0;generalize (w1.setCell ⟨w.heap.size, 2, none⟩ (.slice (some ⟨G, 0, none⟩) (nt + 1) cG)) = w2 at *;obtain ⟨c0, c1, c2, c3⟩ := q2.four;obtain ⟨l0, l1, l2, l3⟩ := r2.four;have fy0 := r2.free 0;have fy1 := r2.free 1;have fy2 := r2.free 2;have fy3 := r2.free 3;obtain ⟨x', T'⟩ := put4 r2 rfl (.slice ga ng gc) (.slice pa 3 cp) (.slice (some ⟨G, 0, none⟩) (nt + 1) cG) (.bool st);have F3 := F2.past2 (boxNo r2) T';have BB := B2.trans (T'.below B2.size (fun k hk => by omega));obtain ⟨e0, e1, e2, e3⟩ := x'.four;have lr2 := r2.lt;clear F2 r2 T' x' q2
 go_wp2
 refine bodyPost_ret (v := wayV ga ng gc pa cp (some ⟨G, 0, none⟩) (nt + 1) cG st) (by simp [results, Tryz.results172, go_sem, e0, e1, e2, e3]) rfl ?_
 exact ⟨G, cG, rfl, BB, F3⟩
def OwnBB (W : World) (G : Nat) (f : Nat -> Bool) : Prop := Cel W G [.bool (f 0), .bool (f 1), .bool (f 2)] 4
theorem OwnBB.at (h : OwnBB W G f) {v : Nat} (hv : v < 3) : W.cell? ⟨G, v, none⟩ = some (.bool (f v)) /\ W.frozen? ⟨G, v, none⟩ = false := by
 refine ⟨(Cel.cell h v).trans ?_, Cel.free h v⟩
 match v, hv with
 | 0, _ => rfl
 | 1, _ => rfl
 | 2, _ => rfl
theorem OwnBB.no (h : OwnBB W G f) : ∀ o q, W.cell? ⟨G, o, none⟩ ≠ some (.int .i64 q) := fun o q e => by
 have := Cel.cell h o;rw [e] at this
 match o with
 | 0 => simp at this
 | 1 => simp at this
 | 2 => simp at this
 | o + 3 => simp at this
theorem OwnBB.set (h : OwnBB W G f) {u : Nat} (hu : u < 3) (x : Bool) : OwnBB (W.setCell ⟨G, u, none⟩ (.bool x)) G (fun v => if v = u then x else f v) := by
 have := Cel.set h u (.bool x);unfold OwnBB
 match u, hu with
 | 0, _ => simpa using this
 | 1, _ => simpa using this
 | 2, _ => simpa using this
theorem OwnBB.ext {g : Nat -> Bool} (h : OwnBB W G f) (e : ∀ v, v < 3 -> f v = g v) : OwnBB W G g := by
 unfold OwnBB at *;rw [<- e 0 (by omega), <- e 1 (by omega), <- e 2 (by omega)]; exact h
theorem OwnBB.below (h : OwnBB W G f) (b : Below W.heap.size W W') : OwnBB W' G f := Cel.below h b
theorem imarkpots_any {cG : Nat} {r : Nat -> Bool} {ad : Option Addr} {N cap : Nat} (fs : List Frm) (w : World) (hO : OwnBB w G r) (hN : fs.length = N) (hF : FormsAt w ad fs) (hfit : ∀ k, k < N -> fitX 10000000 (fs[k]?.getD ([], [], 0))) (hN1 : N <= 1048576) :
  Calls Tryz.prog 143 #[.slice (some ⟨G, 0, none⟩) 3 cG, .slice ad N cap] w fun e w' => (∃ v, e = .returned v) /\ Touch (fun k => k = G) w w' /\ OwnBB w' G (readsF r fs) := by
 have HN : Hid (fs.length = N) := hN;have HF : Hid (FormsAt w ad fs) := hF;have HFT : Hid _ := hfit;have HO : Hid (OwnBB w G r) := hO;have lG0 := Cel.lt hO;clear hN hF hfit hO
 go_enter Tryz.func143, Tryz.ntmps143
 go_wp2_with fail
 go_loopw [5, 6, 7, 10] (fun _ _ _ i wr => ∃ k : Nat, k <= N /\ i = .int .i64 k /\ Touch (fun k => k = G) w wr /\ OwnBB wr G (readsF r (fs.take k))) (fun _ _ _ i _ => N - (intOf i).toNat)
 case atStart => exact ⟨0, Nat.zero_le _, rfl, Touch.refl _ _, HO.out.ext (fun v _ => by simp [readsF])⟩
 case round =>
  obtain ⟨k, hk, rfl, ht, o⟩ := hrel
  by_cases hlt : k < N
  ·have hlt' : (k : Int) < N := by omega
   have hkl : k < fs.length := by rw [HN.out]; exact hlt
   have HS : Hid (∀ v, readsF r (fs.take (k + 1)) v = (readsF r (fs.take k) v || hasP (fs[k]?.getD ([], [], 0)) v)) := fun v => readsF_snoc r fs k hkl v;have hfit := HFT.out k hlt;obtain ⟨b, off, rfl, a', c', ca, cc, c0, c1, c2, iC, iD⟩ := (HF.out.past2 HO.out.no ht) k hkl;generalize fs[k]?.getD ([], [], 0) = q at *;obtain ⟨qC, qD, qK⟩ := q;simp only at c2 iC iD;have A : Below wr.heap.size wr (wr.alloc (.cells #[.slice a' 3 ca, .slice c' 2 cc, .int .i64 qK] 106)) := bal;have HIC : Hid (Ints (wr.alloc (.cells #[.slice a' 3 ca, .slice c' 2 cc, .int .i64 qK] 106)) a' 3 qC) := iC.below A;have oA := o.below A;have HNO : Hid _ := oA.no;have o' : OwnBB (wr.alloc (.cells #[.slice a' 3 ca, .slice c' 2 cc, .int .i64 qK] 106)) G (fun v => if v < 0 then readsF r (fs.take (k + 1)) v else readsF r (fs.take k) v) := oA.ext (fun v hv => by simp);have tA : Touch (fun k => k = G) w (wr.alloc (.cells #[.slice a' 3 ca, .slice c' 2 cc, .int .i64 qK] 106)) := ht.trans (Touch.of A);have HTA : Hid _ := tA;clear o iC iD oA tA A ht
   go_wp2_with fail
   obtain ⟨W1, hW1⟩ : ∃ W1, W1 = wr.alloc (.cells #[.slice a' 3 ca, .slice c' 2 cc, .int .i64 qK] 106) := ⟨_, rfl⟩
   rw [<- hW1] at HIC HNO o' HTA ⊢;clear hW1 c0 c1 c2
   go_loopw [6, 7, 17] (fun _ _ v w2 => ∃ u : Nat, u <= 3 /\ v = .int .i64 u /\ Touch (fun k => k = G) W1 w2 /\ OwnBB w2 G (fun v => if v < u then readsF r (fs.take (k + 1)) v else readsF r (fs.take k) v)) (fun _ _ v _ => 3 - (intOf v).toNat)
   case atStart => exact ⟨0, by omega, rfl, Touch.refl _ _, o'⟩
   case round =>
    clear o';obtain ⟨u, hu, rfl, t, o⟩ := hrel
    by_cases hu3 : u < 3
    ·have hu' : (u : Int) < 3 := by omega
     obtain ⟨cb, co, rfl, cv⟩ := (HIC.out.past HNO.out t).2 u hu3;have hval : qC.getD u 0 = qC[u]?.getD 0 := by rw [List.getD_eq_getElem?_getD]
     rw [hval] at cv;have HH : Hid (hasP (qC, qD, qK) u = (qC[u]?.getD 0 != 0)) := rfl;generalize qC[u]?.getD 0 = z at *;obtain ⟨g0, fz⟩ := o.at hu3;rw [if_neg (Nat.lt_irrefl u)] at g0;obtain ⟨bo, hbo⟩ : ∃ bo, bo = readsF r (fs.take k) u := ⟨_, rfl⟩
     have HBO : Hid _ := hbo;rw [<- hbo] at g0;have o2 := o.set hu3 (bo || (z != 0))
     have O2 : Hid (OwnBB (wr.setCell ⟨G, u, none⟩ (.bool (bo || (z != 0)))) G (fun v => if v < u + 1 then readsF r (fs.take (k + 1)) v else readsF r (fs.take k) v)) := o2.ext (fun v hv => by
      by_cases e : v = u
      ·subst e; simp only [if_true, Nat.lt_succ_self]; rw [HS.out, HH.out, HBO.out]
      simp only [e, if_false]
      by_cases e2 : v < u
      ·rw [if_pos e2, if_pos (by omega)]
      rw [if_neg e2, if_neg (by omega)])
     have T2 : Touch (fun k => k = G) W1 (wr.setCell ⟨G, u, none⟩ (.bool (bo || (z != 0)))) := t.setCell (B := G) rfl _;clear o2 o hbo t
     cases bo with
     | true =>
      simp only [Bool.true_or] at O2 T2
      go_wp2
      go_roundw
      case rel => exact ⟨u + 1, by omega, by go_num, T2, O2.out⟩
      case measure => simp [intOf]; omega
     | false =>
      simp only [Bool.false_or] at O2 T2
      by_cases hz : z = 0
      ·have hz' : (z != 0) = false := by simp [hz]
       rw [hz'] at O2 T2
       go_wp2
       go_roundw
       case rel => exact ⟨u + 1, by omega, by go_num, T2, O2.out⟩
       case measure => simp [intOf]; omega
      have hz' : (z != 0) = true := by simp [hz]
      rw [hz'] at O2 T2
      go_wp2
      go_roundw
      case rel => exact ⟨u + 1, by omega, by go_num, T2, O2.out⟩
      case measure => simp [intOf]; omega
    obtain rfl : u = 3 := by omega
    have O3 : Hid (OwnBB wr G (readsF r (fs.take (k + 1)))) := o.ext (fun v hv => by simp only [hv, if_true]);have T3 := HTA.out.trans t;clear o t
    go_wp2
    go_roundw
    case rel => exact ⟨k + 1, by omega, by go_num, T3, O3.out⟩
    case measure => simp [intOf]; omega
  obtain rfl : k = N := by omega
  have O3 : OwnBB wr G (readsF r fs) := by
   have : fs.take k = fs := List.take_of_length_le (by rw [HN.out]; exact qH _);rw [this] at o; exact o
  go_wp2
  go_end0
  exact ⟨⟨_, rfl⟩, ht, O3⟩
end Go.Proofs.YtfmpcihghlnlnaaGreatDoor
