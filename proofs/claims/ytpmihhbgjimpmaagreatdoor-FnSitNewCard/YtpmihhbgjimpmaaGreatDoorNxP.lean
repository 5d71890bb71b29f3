/-
  Lemmas that the claim's last text rests on.
-/
import Derived.OrdersIn
import Derived.OrdersHeld
import Derived.RangeFuncNested
import Derived.RangeFuncBound
import Derived.RangeFuncCalls
import Derived.RangeFuncLeaves
import Derived.Shelf.Abstract
import Derived.Shelf.RegionOpen
import Derived.OwnWalkIn
import Derived.TacticsInMore
import Derived.LoopNIn
import Derived.LoopIn
import Derived.Test.YtpmihhbgjimpmaaGreatDoorNxO
namespace Go.Proofs.YtpmihhbgjimpmaaGreatDoor
open Go.RowKit Go.Deep Go.Shelf
open World renaming size_alloc → qA
open List renaming length_cons → qB, length_nil → qE, size_toArray → qG
open Nat renaming le_refl → qF
set_option linter.unusedVariables false
set_option maxRecDepth 100000
set_option maxHeartbeats 25600000
variable {G : Nat} {W X Y : World} {a : Option Addr} {f : Nat -> Bool} {pre : List RowM}
theorem FormsAt.past2 {W' : World} {X : Nat} {fs : List Frm} (h : FormsAt W a fs) (hx : ∀ o q, W.cell? ⟨X, o, none⟩ ≠ some (.int .i64 q)) (t : Touch (fun z => z = X) W W') : FormsAt W' a fs := fun i hi => by
 obtain ⟨b, off, e, a', c', ca, cc, c0, c1, c2, iC, iD⟩ := h i hi;have hne : b ≠ X := fun e2 => by subst e2; exact hx _ _ c2
 have hb := block_lt c0;refine ⟨b, off, e, a', c', ca, cc, ?_, ?_, ?_, iC.past hx t, iD.past hx t⟩
 ·simp only [World.cell?] at c0 ⊢; rw [t.block b hb hne]; exact c0
 ·simp only [World.cell?] at c1 ⊢; rw [t.block b hb hne]; exact c1
 simp only [World.cell?] at c2 ⊢; rw [t.block b hb hne]; exact c2
theorem iguard_any (X : Frm) (fs : List Frm) (ga : Option Addr) (ng gc : Nat) (pa : Option Addr) (cp : Nat) (ta : Option Addr) (nt tc : Nat) (st : Bool) (fa : Option Addr) (fc : Nat) (fd : Option Addr) (fe : Nat) (w : World) (hl : fs.length = ng) (hn : ng <= 100) (hG : FormsAt w ga fs) (hX1 : Ints w fa 3 X.1) (hX2 : Ints w fd 2 X.2.1) :
  Calls Tryz.prog 183 #[wayV ga ng gc pa cp ta nt tc st, formV fa 3 fc fd 2 fe X.2.2] w fun e w' => ∃ G cG, e = .returned (wayV (some ⟨G, 0, none⟩) (ng + 1) cG pa cp ta nt tc st) /\ Below w.heap.size w w' /\ FormsAt w' (some ⟨G, 0, none⟩) (fs ++ [X]) := by
 have HL : Hid (fs.length = ng) := hl;clear hl;have B3 : Below w.heap.size w (((w.alloc (.cells #[.slice ga ng gc, .slice pa 3 cp, .slice ta nt tc, .bool st] 223)).alloc (.cells #[.slice fa 3 fc, .slice fd 2 fe, .int .i64 X.2.2] 95)).alloc (.cells #[.slice none 0 0, .slice none 0 0, .slice none 0 0, .bool false] 223)) := ((bal).alloc (by simp) _).alloc (by simp; omega) _;have B5 : Below w.heap.size w (((((w.alloc (.cells #[.slice ga ng gc, .slice pa 3 cp, .slice ta nt tc, .bool st] 223)).alloc (.cells #[.slice fa 3 fc, .slice fd 2 fe, .int .i64 X.2.2] 95)).alloc (.cells #[.slice none 0 0, .slice none 0 0, .slice none 0 0, .bool false] 223)).alloc (.cells #[.slice fa 3 fc, .slice fd 2 fe, .int .i64 X.2.2] 95)).alloc (.cells #[.slice ga ng gc, .slice (some ⟨w.heap.size + 1 + 1 + 1, 0, none⟩) 1 1] 176)) := (B3.alloc B3.size _).alloc (B3.alloc B3.size _).size _;have q0 := ((((Cel.new w [.slice ga ng gc, .slice pa 3 cp, .slice ta nt tc, .bool st] 223).alloc (.cells #[.slice fa 3 fc, .slice fd 2 fe, .int .i64 X.2.2] 95)).alloc (.cells #[.slice none 0 0, .slice none 0 0, .slice none 0 0, .bool false] 223)).alloc (.cells #[.slice fa 3 fc, .slice fd 2 fe, .int .i64 X.2.2] 95)).alloc (.cells #[.slice ga ng gc, .slice (some ⟨w.heap.size + 1 + 1 + 1, 0, none⟩) 1 1] 176)
 have r0 := ((Cel.new (((w.alloc (.cells #[.slice ga ng gc, .slice pa 3 cp, .slice ta nt tc, .bool st] 223)).alloc (.cells #[.slice fa 3 fc, .slice fd 2 fe, .int .i64 X.2.2] 95))) [.slice none 0 0, .slice none 0 0, .slice none 0 0, .bool false] 223).alloc (.cells #[.slice fa 3 fc, .slice fd 2 fe, .int .i64 X.2.2] 95)).alloc (.cells #[.slice ga ng gc, .slice (some ⟨w.heap.size + 1 + 1 + 1, 0, none⟩) 1 1] 176);have f0 := (Cel.new ((((w.alloc (.cells #[.slice ga ng gc, .slice pa 3 cp, .slice ta nt tc, .bool st] 223)).alloc (.cells #[.slice fa 3 fc, .slice fd 2 fe, .int .i64 X.2.2] 95)).alloc (.cells #[.slice none 0 0, .slice none 0 0, .slice none 0 0, .bool false] 223))) [.slice fa 3 fc, .slice fd 2 fe, .int .i64 X.2.2] 95).alloc (.cells #[.slice ga ng gc, .slice (some ⟨w.heap.size + 1 + 1 + 1, 0, none⟩) 1 1] 176);have s0 := Cel.new (((((w.alloc (.cells #[.slice ga ng gc, .slice pa 3 cp, .slice ta nt tc, .bool st] 223)).alloc (.cells #[.slice fa 3 fc, .slice fd 2 fe, .int .i64 X.2.2] 95)).alloc (.cells #[.slice none 0 0, .slice none 0 0, .slice none 0 0, .bool false] 223)).alloc (.cells #[.slice fa 3 fc, .slice fd 2 fe, .int .i64 X.2.2] 95))) [.slice ga ng gc, .slice (some ⟨w.heap.size + 1 + 1 + 1, 0, none⟩) 1 1] 176;simp only [qA] at r0 f0 s0
 have hF : FormsAt ((((((w.alloc (.cells #[.slice ga ng gc, .slice pa 3 cp, .slice ta nt tc, .bool st] 223)).alloc (.cells #[.slice fa 3 fc, .slice fd 2 fe, .int .i64 X.2.2] 95)).alloc (.cells #[.slice none 0 0, .slice none 0 0, .slice none 0 0, .bool false] 223)).alloc (.cells #[.slice fa 3 fc, .slice fd 2 fe, .int .i64 X.2.2] 95)).alloc (.cells #[.slice ga ng gc, .slice (some ⟨w.heap.size + 1 + 1 + 1, 0, none⟩) 1 1] 176))) (some ⟨w.heap.size + 1 + 1 + 1, 0, none⟩) [X] := fun i hi => by
  simp only [qB, qE] at hi;obtain rfl : i = 0 := by omega
  exact ⟨_, 0, rfl, fa, fd, fc, fe, f0.cell 0, f0.cell 1, f0.cell 2, hX1.below B5, hX2.below B5⟩
 have hG5 := hG.keep B5
 go_enter Tryz.func183, Tryz.ntmps183
 go_wp2_with fail
 refine (iconcat_any fs X s0 HL.out hn hG5 hF).mono ?_;rintro e w1 ⟨G, cG, rfl, b1, F1⟩;have B1 := btr B5 b1;have q1 := q0.below b1;have r1 := r0.below b1;have lq := q1.lt;have lr := r1.lt;clear q0 r0 f0 s0 hF hG5 b1;obtain ⟨c0, c1, c2, c3⟩ := q1.four;have y0 := q1.free 0;have T1 : Touch (fun k => k = w.heap.size) w1 (w1.setCell ⟨w.heap.size, 0, none⟩ (.slice (some ⟨G, 0, none⟩) (ng + 1) cG)) := Touch.setCell (S := fun k => k = w.heap.size) (Touch.refl _ _) rfl _;have q2 := q1.set 0 (.slice (some ⟨G, 0, none⟩) (ng + 1) cG);simp only [List.set_cons_zero] at q2;have r2 := r1.touch T1 (fun h => by have := h; omega);have F2 := F1.past2 (boxNo q1) T1;have B2 := B1.trans (T1.below B1.size (fun k hk => by omega))
 go_upto_region 2 with fail
 clear q1 r1 F1 T1 B1 c0 c1 c2 c3 y0;generalize (w1.setCell ⟨w.heap.size, 0, none⟩ (.slice (some ⟨G, 0, none⟩) (ng + 1) cG)) = w2 at *;obtain ⟨c0, c1, c2, c3⟩ := q2.four;obtain ⟨l0, l1, l2, l3⟩ := r2.four;have fy0 := r2.free 0;have fy1 := r2.free 1;have fy2 := r2.free 2;have fy3 := r2.free 3;obtain ⟨x', T'⟩ := put4 r2 rfl (.slice (some ⟨G, 0, none⟩) (ng + 1) cG) (.slice pa 3 cp) (.slice ta nt tc) (.bool st);have F3 := F2.past2 (boxNo r2) T';have BB := B2.trans (T'.below B2.size (fun k hk => by omega));obtain ⟨e0, e1, e2, e3⟩ := x'.four;have lr2 := r2.lt;clear F2 r2 T' x' q2
 go_wp2
 refine bodyPost_ret (v := wayV (some ⟨G, 0, none⟩) (ng + 1) cG pa cp ta nt tc st) (by simp [results, Tryz.results183, go_sem, e0, e1, e2, e3]) rfl ?_
 exact ⟨G, cG, rfl, BB, F3⟩
theorem itell_any (X : Frm) (fs : List Frm) {ga : Option Addr} {ng gc : Nat} {pa : Option Addr} {cp : Nat} {ta : Option Addr} {nt tc : Nat} {st : Bool} {fa : Option Addr} {fc : Nat} {fd : Option Addr} {fe : Nat} {w : World} (hl : fs.length = nt) (hn : nt <= 100) (hG : FormsAt w ta fs) (hX1 : Ints w fa 3 X.1) (hX2 : Ints w fd 2 X.2.1) :
  Calls Tryz.prog 186 #[wayV ga ng gc pa cp ta nt tc st, formV fa 3 fc fd 2 fe X.2.2] w fun e w' => ∃ G cG, e = .returned (wayV ga ng gc pa cp (some ⟨G, 0, none⟩) (nt + 1) cG st) /\ Below w.heap.size w w' /\ FormsAt w' (some ⟨G, 0, none⟩) (fs ++ [X]) := by
 have HL : Hid (fs.length = nt) := hl;clear hl;have B3 : Below w.heap.size w (((w.alloc (.cells #[.slice ga ng gc, .slice pa 3 cp, .slice ta nt tc, .bool st] 223)).alloc (.cells #[.slice fa 3 fc, .slice fd 2 fe, .int .i64 X.2.2] 95)).alloc (.cells #[.slice none 0 0, .slice none 0 0, .slice none 0 0, .bool false] 223)) := ((bal).alloc (by simp) _).alloc (by simp; omega) _;have B5 : Below w.heap.size w (((((w.alloc (.cells #[.slice ga ng gc, .slice pa 3 cp, .slice ta nt tc, .bool st] 223)).alloc (.cells #[.slice fa 3 fc, .slice fd 2 fe, .int .i64 X.2.2] 95)).alloc (.cells #[.slice none 0 0, .slice none 0 0, .slice none 0 0, .bool false] 223)).alloc (.cells #[.slice fa 3 fc, .slice fd 2 fe, .int .i64 X.2.2] 95)).alloc (.cells #[.slice ta nt tc, .slice (some ⟨w.heap.size + 1 + 1 + 1, 0, none⟩) 1 1] 176)) := (B3.alloc B3.size _).alloc (B3.alloc B3.size _).size _;have q0 := ((((Cel.new w [.slice ga ng gc, .slice pa 3 cp, .slice ta nt tc, .bool st] 223).alloc (.cells #[.slice fa 3 fc, .slice fd 2 fe, .int .i64 X.2.2] 95)).alloc (.cells #[.slice none 0 0, .slice none 0 0, .slice none 0 0, .bool false] 223)).alloc (.cells #[.slice fa 3 fc, .slice fd 2 fe, .int .i64 X.2.2] 95)).alloc (.cells #[.slice ta nt tc, .slice (some ⟨w.heap.size + 1 + 1 + 1, 0, none⟩) 1 1] 176)
 have r0 := ((Cel.new (((w.alloc (.cells #[.slice ga ng gc, .slice pa 3 cp, .slice ta nt tc, .bool st] 223)).alloc (.cells #[.slice fa 3 fc, .slice fd 2 fe, .int .i64 X.2.2] 95))) [.slice none 0 0, .slice none 0 0, .slice none 0 0, .bool false] 223).alloc (.cells #[.slice fa 3 fc, .slice fd 2 fe, .int .i64 X.2.2] 95)).alloc (.cells #[.slice ta nt tc, .slice (some ⟨w.heap.size + 1 + 1 + 1, 0, none⟩) 1 1] 176);have f0 := (Cel.new ((((w.alloc (.cells #[.slice ga ng gc, .slice pa 3 cp, .slice ta nt tc, .bool st] 223)).alloc (.cells #[.slice fa 3 fc, .slice fd 2 fe, .int .i64 X.2.2] 95)).alloc (.cells #[.slice none 0 0, .slice none 0 0, .slice none 0 0, .bool false] 223))) [.slice fa 3 fc, .slice fd 2 fe, .int .i64 X.2.2] 95).alloc (.cells #[.slice ta nt tc, .slice (some ⟨w.heap.size + 1 + 1 + 1, 0, none⟩) 1 1] 176);have s0 := Cel.new (((((w.alloc (.cells #[.slice ga ng gc, .slice pa 3 cp, .slice ta nt tc, .bool st] 223)).alloc (.cells #[.slice fa 3 fc, .slice fd 2 fe, .int .i64 X.2.2] 95)).alloc (.cells #[.slice none 0 0, .slice none 0 0, .slice none 0 0, .bool false] 223)).alloc (.cells #[.slice fa 3 fc, .slice fd 2 fe, .int .i64 X.2.2] 95))) [.slice ta nt tc, .slice (some ⟨w.heap.size + 1 + 1 + 1, 0, none⟩) 1 1] 176;simp only [qA] at r0 f0 s0
 have hF : FormsAt ((((((w.alloc (.cells #[.slice ga ng gc, .slice pa 3 cp, .slice ta nt tc, .bool st] 223)).alloc (.cells #[.slice fa 3 fc, .slice fd 2 fe, .int .i64 X.2.2] 95)).alloc (.cells #[.slice none 0 0, .slice none 0 0, .slice none 0 0, .bool false] 223)).alloc (.cells #[.slice fa 3 fc, .slice fd 2 fe, .int .i64 X.2.2] 95)).alloc (.cells #[.slice ta nt tc, .slice (some ⟨w.heap.size + 1 + 1 + 1, 0, none⟩) 1 1] 176))) (some ⟨w.heap.size + 1 + 1 + 1, 0, none⟩) [X] := fun i hi => by
  simp only [qB, qE] at hi;obtain rfl : i = 0 := by omega
  exact ⟨_, 0, rfl, fa, fd, fc, fe, f0.cell 0, f0.cell 1, f0.cell 2, hX1.below B5, hX2.below B5⟩
 have hG5 := hG.keep B5
 go_enter Tryz.func186, Tryz.ntmps186
 go_wp2_with fail
 refine (iconcat_any fs X s0 HL.out hn hG5 hF).mono ?_;rintro e w1 ⟨G, cG, rfl, b1, F1⟩;have B1 := btr B5 b1;have q1 := q0.below b1;have r1 := r0.below b1;have lq := q1.lt;have lr := r1.lt;clear q0 r0 f0 s0 hF hG5 b1;obtain ⟨c0, c1, c2, c3⟩ := q1.four;have y0 := q1.free 2;have T1 : Touch (fun k => k = w.heap.size) w1 (w1.setCell ⟨w.heap.size, 2, none⟩ (.slice (some ⟨G, 0, none⟩) (nt + 1) cG)) := Touch.setCell (S := fun k => k = w.heap.size) (Touch.refl _ _) rfl _;have q2 := q1.set 2 (.slice (some ⟨G, 0, none⟩) (nt + 1) cG);simp only [List.set_cons_zero, List.set_cons_succ] at q2;have r2 := r1.touch T1 (fun h => by have := h; omega);have F2 := F1.past2 (boxNo q1) T1;have B2 := B1.trans (T1.below B1.size (fun k hk => by omega))
 go_upto_region 2 with fail
 clear q1 r1 F1 T1 B1 c0 c1 c2 c3 y0;generalize (w1.setCell ⟨w.heap.size, 2, none⟩ (.slice (some ⟨G, 0, none⟩) (nt + 1) cG)) = w2 at *;obtain ⟨c0, c1, c2, c3⟩ := q2.four;obtain ⟨l0, l1, l2, l3⟩ := r2.four;have fy0 := r2.free 0;have fy1 := r2.free 1;have fy2 := r2.free 2;have fy3 := r2.free 3;obtain ⟨x', T'⟩ := put4 r2 rfl (.slice ga ng gc) (.slice pa 3 cp) (.slice (some ⟨G, 0, none⟩) (nt + 1) cG) (.bool st);have F3 := F2.past2 (boxNo r2) T';have BB := B2.trans (T'.below B2.size (fun k hk => by omega));obtain ⟨e0, e1, e2, e3⟩ := x'.four;have lr2 := r2.lt;clear F2 r2 T' x' q2
 go_wp2
 refine bodyPost_ret (v := wayV ga ng gc pa cp (some ⟨G, 0, none⟩) (nt + 1) cG st) (by simp [results, Tryz.results186, go_sem, e0, e1, e2, e3]) rfl ?_
 exact ⟨G, cG, rfl, BB, F3⟩
def OwnBB (W : World) (G : Nat) (f : Nat -> Bool) : Prop := Cel W G [.bool (f 0), .bool (f 1), .bool (f 2)] 4
theorem OwnBB.at (h : OwnBB W G f) {v : Nat} (hv : v < 3) : W.cell? ⟨G, v, none⟩ = some (.bool (f v)) /\ W.frozen? ⟨G, v, none⟩ = false := by
 refine ⟨(Cel.cell h v).trans ?_, Cel.free h v⟩
 match v, hv with
 | 0, _ => rfl
 | 1, _ => rfl
 | 2, _ => rfl
theorem OwnBB.no (h : OwnBB W G f) : ∀ o q, W.cell? ⟨G, o, none⟩ ≠ some (.int .i64 q) := fun o q e => by
 have := Cel.cell h o;rw [e] at this
 match o with
 | 0 => simp at this
 | 1 => simp at this
 | 2 => simp at this
 | o + 3 => simp at this
theorem OwnBB.set (h : OwnBB W G f) {u : Nat} (hu : u < 3) (x : Bool) : OwnBB (W.setCell ⟨G, u, none⟩ (.bool x)) G (fun v => if v = u then x else f v) := by
 have := Cel.set h u (.bool x);unfold OwnBB
 match u, hu with
 | 0, _ => simpa using this
 | 1, _ => simpa using this
 | 2, _ => simpa using this
theorem OwnBB.ext {g : Nat -> Bool} (h : OwnBB W G f) (e : ∀ v, v < 3 -> f v = g v) : OwnBB W G g := by
 unfold OwnBB at *;rw [<- e 0 (by omega), <- e 1 (by omega), <- e 2 (by omega)]; exact h
theorem OwnBB.below {W' : World} (h : OwnBB W G f) (b : Below W.heap.size W W') : OwnBB W' G f := Cel.below h b
theorem imarkpots_any {cG : Nat} {r : Nat -> Bool} {ad : Option Addr} {N cap : Nat} (fs : List Frm) (w : World) (hO : OwnBB w G r) (hN : fs.length = N) (hF : FormsAt w ad fs) (hfit : ∀ k, k < N -> fitX 10000000 (fs[k]?.getD ([], [], 0))) (hN1 : N <= 1048576) :
  Calls Tryz.prog 160 #[.slice (some ⟨G, 0, none⟩) 3 cG, .slice ad N cap] w fun e w' => (∃ v, e = .returned v) /\ Touch (fun k => k = G) w w' /\ OwnBB w' G (readsF r fs) := by
 have HN : Hid (fs.length = N) := hN;have HF : Hid (FormsAt w ad fs) := hF;have HFT : Hid _ := hfit;have HO : Hid (OwnBB w G r) := hO;have lG0 := Cel.lt hO;clear hN hF hfit hO
 go_enter Tryz.func160, Tryz.ntmps160
 go_wp2_with fail
 go_loopw [5, 6, 7, 10] (fun _ _ _ i wr => ∃ k : Nat, k <= N /\ i = .int .i64 k /\ Touch (fun k => k = G) w wr /\ OwnBB wr G (readsF r (fs.take k))) (fun _ _ _ i _ => N - (intOf i).toNat)
 case atStart => exact ⟨0, Nat.zero_le _, rfl, Touch.refl _ _, HO.out.ext (fun v _ => by simp [readsF])⟩
 case round =>
  obtain ⟨k, hk, rfl, ht, o⟩ := hrel
  by_cases hlt : k < N
  ·have hlt' : (k : Int) < N := by omega
   have hkl : k < fs.length := by rw [HN.out]; exact hlt
   have HS : Hid (∀ v, readsF r (fs.take (k + 1)) v = (readsF r (fs.take k) v || hasP (fs[k]?.getD ([], [], 0)) v)) := fun v => readsF_snoc r fs k hkl v;have hfit := HFT.out k hlt;obtain ⟨b, off, rfl, a', c', ca, cc, c0, c1, c2, iC, iD⟩ := (HF.out.past2 HO.out.no ht) k hkl;generalize fs[k]?.getD ([], [], 0) = q at *;obtain ⟨qC, qD, qK⟩ := q;simp only at c2 iC iD;have A : Below wr.heap.size wr (wr.alloc (.cells #[.slice a' 3 ca, .slice c' 2 cc, .int .i64 qK] 95)) := bal;have HIC : Hid (Ints (wr.alloc (.cells #[.slice a' 3 ca, .slice c' 2 cc, .int .i64 qK] 95)) a' 3 qC) := iC.below A;have oA := o.below A;have HNO : Hid _ := oA.no;have o' : OwnBB (wr.alloc (.cells #[.slice a' 3 ca, .slice c' 2 cc, .int .i64 qK] 95)) G (fun v => if v < 0 then readsF r (fs.take (k + 1)) v else readsF r (fs.take k) v) := oA.ext (fun v hv => by simp);have tA : Touch (fun k => k = G) w (wr.alloc (.cells #[.slice a' 3 ca, .slice c' 2 cc, .int .i64 qK] 95)) := ht.trans (Touch.of A);have HTA : Hid _ := tA;clear o iC iD oA tA A ht
   go_wp2_with fail
   obtain ⟨W1, hW1⟩ : ∃ W1, W1 = wr.alloc (.cells #[.slice a' 3 ca, .slice c' 2 cc, .int .i64 qK] 95) := ⟨_, rfl⟩
   rw [<- hW1] at HIC HNO o' HTA ⊢;clear hW1 c0 c1 c2
   go_loopw [6, 7, 17] (fun _ _ v w2 => ∃ u : Nat, u <= 3 /\ v = .int .i64 u /\ Touch (fun k => k = G) W1 w2 /\ OwnBB w2 G (fun v => if v < u then readsF r (fs.take (k + 1)) v else readsF r (fs.take k) v)) (fun _ _ v _ => 3 - (intOf v).toNat)
   case atStart => exact ⟨0, by omega, rfl, Touch.refl _ _, o'⟩
   case round =>
    clear o';obtain ⟨u, hu, rfl, t, o⟩ := hrel
    by_cases hu3 : u < 3
    ·have hu' : (u : Int) < 3 := by omega
     obtain ⟨cb, co, rfl, cv⟩ := (HIC.out.past HNO.out t).2 u hu3;have hval : qC.getD u 0 = qC[u]?.getD 0 := by rw [List.getD_eq_getElem?_getD]
     rw [hval] at cv;have HH : Hid (hasP (qC, qD, qK) u = (qC[u]?.getD 0 != 0)) := rfl;generalize qC[u]?.getD 0 = z at *;obtain ⟨g0, fz⟩ := o.at hu3;rw [if_neg (Nat.lt_irrefl u)] at g0;obtain ⟨bo, hbo⟩ : ∃ bo, bo = readsF r (fs.take k) u := ⟨_, rfl⟩
     have HBO : Hid _ := hbo;rw [<- hbo] at g0;have o2 := o.set hu3 (bo || (z != 0))
     have O2 : Hid (OwnBB (wr.setCell ⟨G, u, none⟩ (.bool (bo || (z != 0)))) G (fun v => if v < u + 1 then readsF r (fs.take (k + 1)) v else readsF r (fs.take k) v)) := o2.ext (fun v hv => by
      by_cases e : v = u
      ·subst e; simp only [if_true, Nat.lt_succ_self]; rw [HS.out, HH.out, HBO.out]
      simp only [e, if_false]
      by_cases e2 : v < u
      ·rw [if_pos e2, if_pos (by omega)]
      rw [if_neg e2, if_neg (by omega)])
     have T2 : Touch (fun k => k = G) W1 (wr.setCell ⟨G, u, none⟩ (.bool (bo || (z != 0)))) := t.setCell (B := G) rfl _;clear o2 o hbo t
     cases bo with
     | true =>
      simp only [Bool.true_or] at O2 T2
      go_wp2
      go_roundw
      case rel => exact ⟨u + 1, by omega, by go_num, T2, O2.out⟩
      case measure => simp [intOf]; omega
     | false =>
      simp only [Bool.false_or] at O2 T2
      by_cases hz : z = 0
      ·have hz' : (z != 0) = false := by simp [hz]
       rw [hz'] at O2 T2
       go_wp2
       go_roundw
       case rel => exact ⟨u + 1, by omega, by go_num, T2, O2.out⟩
       case measure => simp [intOf]; omega
      have hz' : (z != 0) = true := by simp [hz]
      rw [hz'] at O2 T2
      go_wp2
      go_roundw
      case rel => exact ⟨u + 1, by omega, by go_num, T2, O2.out⟩
      case measure => simp [intOf]; omega
    obtain rfl : u = 3 := by omega
    have O3 : Hid (OwnBB wr G (readsF r (fs.take (k + 1)))) := o.ext (fun v hv => by simp only [hv, if_true]);have T3 := HTA.out.trans t;clear o t
    go_wp2
    go_roundw
    case rel => exact ⟨k + 1, by omega, by go_num, T3, O3.out⟩
    case measure => simp [intOf]; omega
  obtain rfl : k = N := by omega
  have O3 : OwnBB wr G (readsF r fs) := by
   have : fs.take k = fs := List.take_of_length_le (by rw [HN.out]; exact qF _);rw [this] at o; exact o
  go_wp2
  go_end0
  exact ⟨⟨_, rfl⟩, ht, O3⟩
section
variable {F : Fence} {n : Nat} {P : Program} {ops : Array Oper} {Q : Exit -> Act -> World -> Prop} {md : Region.Mode} {S : World -> Prop}
def Left (o : Oper) (a a' : Act) : Prop := ∃ u ds, a' = ({ a with defers := ds } : Act).put o.dst u
theorem wpIn_left {o : Oper} {a : Act} {w : World} {K : Act -> World -> Prop} (h : o.wpIn F n P a w K Q) : o.wpIn F n P a w (fun a' w' => Left o a a' /\ K a' w') Q := by
 unfold Oper.wpIn at *;refine ⟨h.1, ?_⟩;have h := h.2;generalize (o.semAt F.round a.eval).run P w = r at *
 cases r with
 | ok x w' =>
  cases x <;> simp only [Oper.uponIn] at h ⊢ <;>
   first
    | exact ⟨⟨_, _, rfl⟩, h⟩
    | exact ⟨h.1, CallsIn.mono h.2 (fun e w'' he => by cases e <;> first | exact ⟨⟨_, _, rfl⟩, he⟩ | exact he)⟩
    | exact ⟨h.1, RowsIn.mono h.2 (fun _ _ he => ⟨⟨_, _, rfl⟩, he⟩)⟩
    | exact ⟨h.1, RoundIn.mono h.2 (fun e w'' he => by cases e <;> first | exact ⟨⟨_, _, rfl⟩, he⟩ | exact he)⟩
    | exact h
 | halt x w' => cases x <;> simp only [Oper.uponIn] at h ⊢ <;> exact h
theorem wpOpIn_left {j : Nat} {oj : Oper} (hj : ops[j]? = some oj) {a : Act} {w : World} {K : Act -> World -> Prop} (h : wpOpIn F n P ops Q j K a w) : wpOpIn F n P ops Q j (fun a' w' => Left oj a a' /\ K a' w') a w := by
 unfold wpOpIn at *;simp only [hj] at *
 split
 ·rename_i hw
  simp only [hw, if_true] at h
  exact wpIn_left h
 rename_i hw
 simp only [hw] at h
 exact ⟨h.1, ⟨undef, a.defers, rfl⟩, h.2⟩
def YieldsS (P : Program) (ops : Array Oper) (S : World -> Prop) (o : Oper) (v : Value) (a : Act) : Prop := YieldsIf P ops S o v a /\ ∀ w, o.about P w a.eval = none
theorem YieldsS.left {oi oj : Oper} {v : Value} {a a' : Act} (hy : YieldsS P ops S oi v a) (hap : oi.apart ops oj = true) (hsi : ∀ cs b, oi.op ≠ .select cs b) (h : Left oj a a') : YieldsS P ops S oi v a' := by
 obtain ⟨u, ds, rfl⟩ := h;obtain ⟨h1, h2, h3⟩ := Oper.apart_spec hap;refine ⟨YieldsIf.of_same (a := ({ a with defers := ds } : Act)) (YieldsIf.of_same hy.1 rfl rfl) (execOp_put oi hsi _ oj.dst u h3) (wanted_put oi _ oj.dst u h3), fun w => ?_⟩;rw [about_put oi w _ oj.dst u h3]
 exact hy.2 w
theorem YieldsS.wpOpIn {i : Nat} {o : Oper} {v : Value} {a : Act} (hro : F.round = none) (hi : ops[i]? = some o) (hy : YieldsS P ops S o v a) {K : Act -> World -> Prop} {w : World} (hS : S w) (h : K (a.put o.dst v) w) : wpOpIn F n P ops Q i K a w := by
 unfold Go.wpOpIn;simp only [hi];have hab : ∀ f, o.about P w a.eval = some f -> F.fn f := fun f hf => by rw [hy.2 w] at hf; cases hf
 rcases hy.1 with ⟨hw, hv⟩ | ⟨hw, rfl⟩
 ·simp only [hw, if_true, Oper.wpIn, hro, Oper.semAt_none, hv w hS, Oper.uponIn]; exact ⟨hab, h⟩
 simp only [hw, Bool.false_eq_true, if_false]; exact ⟨hab, h⟩
def still (oi : Oper) (v : Value) : Oper := { oi with op := .move (.const v), guard := none, after := #[] }
theorem still_yields (oi : Oper) (v : Value) (a : Act) : YieldsFenced P ops (still oi v) v a := by
 refine ⟨.inl ⟨rfl, fun w => ?_⟩, fun w => rfl⟩;simp [still, execOp, Act.eval]
theorem still_apart {oi oj : Oper} {v : Value} (h : oi.apart ops oj = true) : (still oi v).apart ops oj = true := by
 simp only [Oper.apart, Bool.and_eq_true] at h ⊢;refine ⟨h.1, ?_⟩
 cases oj.dst with
 | none => rfl
 | some d => simp [still, Oper.looksAt, Op.operands]
theorem wpOpIn_putS {j : Nat} {oi oj : Oper} {v : Value} (hro : F.round = none) (hj : ops[j]? = some oj) (hap : oi.apart ops oj = true)
  (hsi : ∀ cs b, oi.op ≠ .select cs b) (hsj : ∀ cs b, oj.op ≠ .select cs b)
  (hQ : ∀ c a w, Q (.panic c) (a.put oi.dst v) w -> Q (.panic c) a w) {K : Act -> World -> Prop} {a : Act} {w : World}
  (hy : YieldsS P ops S oi v a) (h : wpOpIn F n P ops Q j K (a.put oi.dst v) w) :
  wpOpIn F n P ops Q j (fun a' w' => YieldsS P ops S oi v a' /\ K (a'.put oi.dst v) w') a w :=
 wpOpIn_mono (fun a' w' hh => ⟨hy.left hap hsi hh.1, hh.2.2⟩) (wpOpIn_left hj (wpOpIn_put (oi := still oi v) hro hj (still_apart hap) (fun cs b e => by cases e) hsj hQ (still_yields oi v a) h))
def wpAnyS (F : Fence) (n : Nat) (P : Program) (md : Region.Mode) (ops : Array Oper) (Q : Exit -> Act -> World -> Prop) (S : World -> Prop) : Nat -> Array Bool -> Act -> World -> Prop
 | 0, listed, a, w => Region.ready md ops listed = [] /\ Q .normal a w
 | fuel + 1, listed, a, w =>
  (Region.ready md ops listed = [] -> Q .normal a w) /\
  ∀ i ∈ Region.ready md ops listed, wpOpIn F n P ops Q i (fun a' w' => S w' /\ wpAnyS F n P md ops Q S fuel (listed.setIfInBounds i true) a' w') a w
theorem wpAnyIn_of_S : ∀ (fuel : Nat) (listed : Array Bool) (a : Act) (w : World), wpAnyS F n P md ops Q S fuel listed a w -> wpAnyIn F n P md ops Q fuel listed a w
 | 0, _, _, _, h => h
 | fuel + 1, _, _, _, h => ⟨h.1, fun i hi => wpOpIn_mono (fun a' w' h' => wpAnyIn_of_S fuel _ a' w' h'.2) (h.2 i hi)⟩
theorem wpAnyS_first {i : Nat} {oi : Oper} {v : Value} (hro : F.round = none) (hi : ops[i]? = some oi) (hsel : ∀ (j : Nat) (o : Oper) cs b, ops[j]? = some o -> o.op ≠ .select cs b)
  (hQ : ∀ c a w, Q (.panic c) (a.put oi.dst v) w -> Q (.panic c) a w) :
  ∀ (fuel : Nat) (listed : Array Bool) (a : Act) (w : World),
   (∀ j oj, ops[j]? = some oj -> j ≠ i -> listed.getD j true = false -> (∀ e ∈ oj.after, Region.binds md e = true -> e.on ≠ i) -> oi.apart ops oj = true) ->
   i ∈ Region.ready md ops listed -> YieldsS P ops S oi v a -> S w ->
   wpAnyS F n P md ops Q S fuel (listed.setIfInBounds i true) (a.put oi.dst v) w -> wpAnyS F n P md ops Q S (fuel + 1) listed a w := by
 intro fuel
 induction fuel with
 | zero =>
  intro listed a w _ hr hy hS H;refine ⟨fun h => (by rw [h] at hr; cases hr), fun j hj => ?_⟩
  by_cases hji : j = i
  ·subst hji; exact hy.wpOpIn hro hi hS ⟨hS, H⟩
  have := ready_mono hj hji;rw [H.1] at this
  cases this
 | succ fuel ih =>
  intro listed a w hfree hr hy hS H;refine ⟨fun h => (by rw [h] at hr; cases hr), fun j hj => ?_⟩
  by_cases hji : j = i
  ·subst hji; exact hy.wpOpIn hro hi hS ⟨hS, H⟩
  have h1 := H.2 j (ready_mono hj hji);obtain ⟨hjun, oj, hoj, hall⟩ := mem_ready.1 hj;have h2 := wpOpIn_putS hro hoj (hfree j oj hoj hji hjun (not_waits (i := i) (j := j) hr hall)) (fun cs b => hsel i oi cs b hi) (fun cs b => hsel j oj cs b hoj) hQ hy h1
  have hfree' : ∀ k ok, ops[k]? = some ok -> k ≠ i -> (listed.setIfInBounds j true).getD k true = false ->
    (∀ e ∈ ok.after, Region.binds md e = true -> e.on ≠ i) -> oi.apart ops ok = true := fun k ok hk hki hun hno => by
   refine hfree k ok hk hki ?_ hno
   by_cases hjk : j = k
   ·subst hjk; exact hjun
   rw [getD_set_ne true hjk] at hun; exact hun
  refine wpOpIn_mono (fun a' w' h3 => ⟨h3.2.1, ih (listed.setIfInBounds j true) a' w' hfree' (ready_mono hr (Ne.symm hji)) h3.1 h3.2.1 ?_⟩) h2;rw [Array.setIfInBounds_comm _ _ hji]
  exact h3.2.2
theorem wpAnyS_take {i : Nat} {oi : Oper} {v : Value} {fuel : Nat} {listed : Array Bool} {a : Act} {w : World} (hro : F.round = none) (hi : ops[i]? = some oi)
  (hs : Region.noSelect ops = true) (hf : Region.free md ops listed i = true) (hr : (Region.ready md ops listed).contains i = true)
  (hQ : ∀ c a w, Q (.panic c) (a.put oi.dst v) w -> Q (.panic c) a w) (hy : YieldsIf P ops S oi v a) (hab : ∀ w, oi.about P w a.eval = none) (hS : S w)
  (h : wpAnyS F n P md ops Q S fuel (listed.setIfInBounds i true) (a.put oi.dst v) w) : wpAnyS F n P md ops Q S (fuel + 1) listed a w :=
 wpAnyS_first hro hi (Region.noSelect_spec hs) hQ fuel listed a w (Region.free_spec hi hf) (by simpa using hr) ⟨hy, hab⟩ hS h
theorem tks (i : Nat) {oi : Oper} {v : Value} {fuel : Nat} {listed : Array Bool} {a : Act} {w : World} (hro : F.round = none) (hi : ops[i]? = some oi) (hS : S w)
  (h : wpAnyS F n P md ops Q S fuel (listed.setIfInBounds i true) (a.put oi.dst v) w)
  (hw : Region.wanted oi (yielded ops a.tmps) = true := by rfl)
  (hy : ∀ w, S w -> (execOp a.eval oi).run P w = .ok (.value v) w := by (intro wz hSw; (try dsimp only at hSw); go_simp; try (with_reducible rfl)))
  (hab : ∀ w, oi.about P w a.eval = none := by exact fun _ => rfl)
  (hs : Region.noSelect ops = true := by kernel_rfl) (hf : Region.free md ops listed i = true := by kernel_rfl) (hr : (Region.ready md ops listed).contains i = true := by kernel_rfl)
  (hQ : ∀ c a w, Q (.panic c) (a.put oi.dst v) w -> Q (.panic c) a w := by exact fun _ _ _ h => h) : wpAnyS F n P md ops Q S (fuel + 1) listed a w :=
 wpAnyS_take hro hi hs hf hr hQ (Or.inl ⟨hw, hy⟩) hab hS h
theorem wpAnyS_one {i : Nat} {o : Oper} {fuel : Nat} {listed : Array Bool} {a : Act} {w : World} (hr : Region.ready md ops listed = [i]) (ho : ops[i]? = some o)
  (h : ∀ K' : Act -> World -> Prop, Shut (∀ a w, S w -> wpAnyS F n P md ops Q S fuel (listed.setIfInBounds i true) a w -> K' a w) -> if Region.wanted o (yielded ops a.tmps) = true then Oper.wpIn F n P o a w K' Q else (∀ f, o.about P w a.eval = some f -> F.fn f) /\ K' (a.put o.dst undef) w) : wpAnyS F n P md ops Q S (fuel + 1) listed a w := by
 refine ⟨fun h0 => (by rw [hr] at h0; cases h0), fun j hj => ?_⟩;rw [hr] at hj
 rcases List.mem_cons.1 hj with rfl | hj
 ·exact wpOpIn_step ho (fun K' hK => h K' (fun a w hS hW => hK a w ⟨hS, hW⟩))
 cases hj
theorem wpAnyS_done {listed : Array Bool} {a : Act} {w : World} (hr : Region.ready md ops listed = []) (h : Q .normal a w) : ∀ fuel, wpAnyS F n P md ops Q S fuel listed a w
 | 0 => ⟨hr, h⟩
 | _ + 1 => ⟨fun _ => h, by rw [hr]; simp⟩
theorem wpIn_region_S {id : Nat} {a : Act} {w : World} (S : World -> Prop) (hm : P.follows .mixedOrders = true)
  (h : wpAnyS F n P .any ops Q S ops.size (Array.replicate ops.size false) a w.drew) : (Code.region id ops true).wpIn F n P Q a w :=
 wpIn_region_any hm (wpAnyIn_of_S _ _ _ _ h)
end
section
variable {P : Program} {n : Nat} {α : Type}
def roundOn (B : Nat) (Kp : World -> World -> Prop) (I : List α -> World -> Prop) (xs : List α) (W : World) : Exit -> Act -> World -> Prop
 | .normal, _, W' => KeepsFrom B W W' /\ Kp W W' /\ I xs W'
 | _, _, _ => False
theorem wpIn_rows {g : Operand} {ps : Array Tmp} {assign body : Code} {Q : Exit -> Act -> World -> Prop} {a : Act} {w : World} {gf : Nat} {lb : Array Value}
  (hg : a.eval g = .func (.func gf) #[] lb) (eg : ∀ args w, (callFunc gf args).run P w = .ok (.enter gf args) w)
  {encs : α -> Array Value} (hps : ∀ x, (encs x).size = ps.size) (A : List α -> α -> World -> Prop) (Kp : World -> World -> Prop) (Sx : List α -> Prop) (I : List α -> World -> Prop)
  (hI : ∀ pre X Y, I pre X -> Below X.heap.size X Y -> I pre Y) (hIb : ∀ pre X l r r', I pre X -> X.heap[l]? = some (.loop r) -> w.heap.size < l -> I pre (X.putObj l (.loop r')))
  (hKb : ∀ X l r r', X.heap[l]? = some (.loop r) -> Kp X (X.putObj l (.loop r'))) (hKt : ∀ X Y Z, Kp X Y -> Kp Y Z -> Kp X Z) (h0 : I [] w)
  (hseq : ∀ (l : Nat) (J : List α -> World -> Prop) (W : World), (∀ pre X Y, J pre X -> Below X.heap.size X Y -> J pre Y) -> Below w.heap.size w W -> J [] W ->
   (∀ m pre x X, J pre X -> A pre x X -> YieldAt Fence.wide m P l (encs x) X fun e Y => e = .returned (.bool true) /\ J (pre ++ [x]) Y /\ Kp X Y) ->
   CallsIn Fence.wide (n - 1) P gf (#[.func (.yield l) #[] #[]] ++ lb) W fun e Y => (∃ v, e = .returned v) /\ ∃ xs, Sx xs /\ J xs Y)
  (hround : ∀ (m l : Nat) (pre : List α) (x : α) (X : World) (r : Loop), I pre X -> A pre x X -> X.heap[l]? = some (.loop r) -> w.heap.size < l ->
   assign.wpIn (Fence.wide.inRound l) m P (Exit.then (fun a' Y => KeepsFrom w.heap.size X Y /\ Kp X Y /\ body.wpIn (Fence.wide.inRound l) m P (roundOn w.heap.size Kp I (pre ++ [x]) (Y.putObj l (.loop { r with state := .busy }))) a' (Y.putObj l (.loop { r with state := .busy }))) (fun _ _ _ => False))
    { tmps := (ps.zip (encs x)).foldl (fun t (p, v) => t.setIfInBounds p v) a.tmps, defers := [] } X)
  (hdone : ∀ (D : Nat) (xs : List α) (W : World), w.heap.size <= D -> Sx xs -> I xs W -> W.heap[D]? = some (.deferred (some [])) -> Q .normal { a with defers := { target := .collected D, args := #[] } :: a.defers } W) :
  (Code.rangeFunc g ps assign body).wpIn Fence.wide n P Q a w := by
 refine wpIn_rangeFunc ?_;intro fn _;obtain ⟨r0, hr0⟩ : ∃ r0 : Loop, r0 = { state := .ready, pending := none, fn, tmps := a.tmps, params := ps, assign, body, defers := w.heap.size } := ⟨_, rfl⟩
 obtain ⟨W1, hW1⟩ : ∃ W1, W1 = (w.alloc (.deferred (some []))).alloc (.loop r0) := ⟨_, rfl⟩
 have b1 : Below w.heap.size w W1 := by rw [hW1]; exact ((Below.refl _ w).alloc (qF _) _).alloc (by simp) _
 have hL : W1.heap[w.heap.size + 1]? = some (.loop r0) := by
  rw [hW1]; have := World.alloc_heap_new (w.alloc (.deferred (some []))) (.loop r0); rwa [qA] at this
 have hD : W1.heap[w.heap.size]? = some (.deferred (some [])) := by
  rw [hW1]; exact (Below.heap_alloc _ _ _ (by simp)).trans (World.alloc_heap_new w _)
 refine ⟨w.heap.size + 1, [{ target := .collected w.heap.size, args := #[] }], W1, { target := .fn (.func gf) lb, args := #[.func (.yield (w.heap.size + 1)) #[] #[]] }, W1, gf, #[.func (.yield (w.heap.size + 1)) #[] #[]] ++ lb, W1, ?_, ?_, ?_, ?_, ?_, ?_⟩
 ·rw [hW1, hr0]; exact run_enterLoop_outer _ _ _ _ _
 ·simp only [resolve, hg];simp [go_sem]
 ·intro f' _; trivial
 ·simp [invoke, go_sem, eg]
 ·intro h; simp [Fence.wide] at h
 refine (hseq (w.heap.size + 1) (fun pre W => I pre W /\ W.heap[w.heap.size + 1]? = some (.loop r0) /\ W.heap[w.heap.size]? = some (.deferred (some []))) W1 ?_ b1 ⟨hI _ _ _ h0 b1, hL, hD⟩ ?_).mono ?_
 ·rintro pre X Y ⟨i1, i2, i3⟩ hb
  exact ⟨hI _ _ _ i1 hb, (hb.block _ (Array.getElem?_eq_some_iff.1 i2).1).trans i2, (hb.block _ (Array.getElem?_eq_some_iff.1 i3).1).trans i3⟩
 ·rintro m pre x X ⟨i1, i2, i3⟩ hA;have hy := run_yield (P := P) (args := encs x) i2 (by rw [hr0]; exact hps x);rw [hr0] at hy;refine ⟨fn, _, assign, body, hy, roundIn_of_wpIn trivial (wpIn_mono (hround m _ pre x X r0 i1 hA i2 (by omega)) ?_)⟩;rintro e a' Y hp
  cases e with
  | normal =>
   obtain ⟨k1, k2, hb⟩ := hp;have j2 := k1.same _ _ (by omega) i2 rfl;have j3 := k1.same _ _ (qF _) i3 rfl;refine ⟨_, run_beginRound j2 (by rw [hr0]), wpIn_mono hb ?_⟩;rintro e a'' Z hq
   cases e with
   | normal =>
    obtain ⟨q1, q2, q3⟩ := hq;have hl : w.heap.size + 1 < Y.heap.size := (Array.getElem?_eq_some_iff.1 j2).1;have m2 := q1.same _ _ (by omega) (World.putObj_heap_same (o := .loop { r0 with state := .busy }) hl) rfl;have m3 := q1.same _ _ (qF _) ((World.putObj_heap_other (by omega)).trans j3) rfl;have hz : w.heap.size + 1 < Z.heap.size := (Array.getElem?_eq_some_iff.1 m2).1;refine ⟨_, _, run_endRound none m2, rfl, ⟨hIb _ _ _ _ _ q3 m2 (by omega), ?_, (World.putObj_heap_other (by omega)).trans m3⟩, hKt _ _ _ (hKt _ _ _ (hKt _ _ _ k2 (hKb _ _ _ _ j2)) q2) (hKb _ _ _ _ m2)⟩;rw [World.putObj_heap_same hz, hr0]
    rfl
   | ret => exact hq.elim
   | exit id => exact hq.elim
   | goto t => exact hq.elim
   | panic c => exact hq.elim
   | outgrown => exact hq.elim
  | ret => exact hp.elim
  | exit id => exact hp.elim
  | goto t => exact hp.elim
  | panic c => exact hp.elim
  | outgrown => exact hp.elim
 rintro e W2 ⟨⟨v, rfl⟩, xs, hS, i1, i2, i3⟩
 exact ⟨none, _, by have := run_endLoop (P := P) i2 (by rw [hr0]; simp); rw [hr0] at this; rw [hr0] at i2; exact this, hdone _ xs _ (qF _) hS (hIb _ _ _ _ _ i1 i2 (by omega)) ((World.putObj_heap_other (by omega)).trans i3)⟩
end
def Loose (o : Option Obj) : Prop := ∀ cs t fr, o = some (.cells cs t fr) -> (t = 4 \/ t = 188 \/ t = 9999) /\ ∀ (i : Nat) q, cs[i]? ≠ some (.int .i64 q)
def KpR (X Y : World) : Prop := Touch (fun k => Loose X.heap[k]?) X Y
theorem KpR.of (h : Below X.heap.size X Y) : KpR X Y := Touch.of h
theorem KpR.trans {Z : World} (h : KpR X Y) (k : KpR Y Z) : KpR X Z :=
 ⟨k.os.trans h.os, k.tape.trans h.tape, k.output.trans h.output, Nat.le_trans h.size k.size, fun i hi hn => by
  have e := h.block i hi hn;rw [k.block i (Nat.lt_of_lt_of_le hi h.size) (fun hl => hn (by rw [e] at hl; exact hl))]
  exact e⟩
theorem KpR.loop (X : World) (l : Nat) (r r' : Loop) (h : X.heap[l]? = some (.loop r)) : KpR X (X.putObj l (.loop r')) := by
 refine ⟨rfl, rfl, rfl, by simp [World.putObj], fun k hk hn => ?_⟩
 by_cases e : k = l
 ·subst e
  exact absurd (fun cs t fr hh => by rw [h] at hh; cases hh) hn
 exact World.putObj_heap_other e
theorem not_loose {b o : Nat} {q : Int} (h : X.cell? ⟨b, o, none⟩ = some (.int .i64 q)) : ¬ Loose X.heap[b]? := fun hl => by
 simp only [World.cell?] at h
 split at h
 ·rename_i c t fr hh
  have := (hl _ _ _ hh).2 o q;simp at h
  exact this (by simpa using h)
 cases h
theorem Ints.keepR {n : Nat} {zs : List Int} (h : Ints X a n zs) (k : KpR X Y) : Ints Y a n zs := by
 refine ⟨h.1, fun i hi => ?_⟩;obtain ⟨b, off, e, hc⟩ := h.2 i hi;refine ⟨b, off, e, ?_⟩;rw [World.cell?_of_block (k.block b (block_lt hc) (not_loose hc))]; exact hc
theorem FormsAt.keepR {fs : List Frm} (h : FormsAt X a fs) (k : KpR X Y) : FormsAt Y a fs := fun i hi => by
 obtain ⟨b, off, e, a', c', ca, cc, c0, c1, c2, iC, iD⟩ := h i hi;have hb := k.block b (block_lt c0) (not_loose c2)
 exact ⟨b, off, e, a', c', ca, cc, by rw [World.cell?_of_block hb]; exact c0, by rw [World.cell?_of_block hb]; exact c1, by rw [World.cell?_of_block hb]; exact c2, iC.keepR k, iD.keepR k⟩
theorem Cel.keepR {B : Nat} {vs : List Value} {t : TypeId} (h : Cel X B vs t) (k : KpR X Y) (h1 : t ≠ 4) (h2 : t ≠ 188) (h3 : t ≠ 9999 := by decide) : Cel Y B vs t := by
 have hl := h.lt;unfold Cel at *;rw [k.block B hl (fun hl => by rcases (hl _ _ _ h).1 with e | e | e <;> contradiction)]; exact h
attribute [local go_sem] Oper.semAt_some
abbrev walkV (l : Nat) (sa : Option Addr) (N sc : Nat) : Value := .agg #[.slice sa N sc, .func (.yield l) #[] #[]]
def Went (J D : List RowM -> World -> Prop) (pre gs : List RowM) (b : Bool) (Y : World) : Prop := (b = true /\ J (pre ++ gs) Y) \/ (b = false /\ ∃ ms rest, gs = ms ++ rest /\ D (pre ++ ms) Y)
theorem Went.fst {J D : List RowM -> World -> Prop} {g1 g2 : List RowM} (h : Went J D pre g1 false Y) : Went J D pre (g1 ++ g2) false Y := by
 rcases h with ⟨h, _⟩ | ⟨_, ms, rest, rfl, d⟩
 ·cases h
 exact Or.inr ⟨rfl, ms, rest ++ g2, by rw [List.append_assoc], d⟩
theorem Went.snd {J D : List RowM -> World -> Prop} {g1 g2 : List RowM} {b : Bool} (h : Went J D (pre ++ g1) g2 b Y) : Went J D pre (g1 ++ g2) b Y := by
 rcases h with ⟨rfl, j⟩ | ⟨rfl, ms, rest, rfl, d⟩
 ·exact Or.inl ⟨rfl, by rw [<- List.append_assoc]; exact j⟩
 exact Or.inr ⟨rfl, g1 ++ ms, rest, by rw [List.append_assoc], by rw [<- List.append_assoc]; exact d⟩
theorem Went.on {J D : List RowM -> World -> Prop} {gs : List RowM} (h : Went J D pre gs true Y) : J (pre ++ gs) Y := by
 rcases h with ⟨_, j⟩ | ⟨h, _⟩
 ·exact j
 cases h
def RoundsD (l n₀ : Nat) (J D : List RowM -> World -> Prop) (M : Nat) : Prop := ∀ (m : Nat) (pre : List RowM) (v : Value) (r : RowM) (X : World), J pre X -> RowFit r -> RowX X n₀ v r -> pre.length < M -> YieldAt Fence.wide m Tryz.prog l #[v] X fun e Y => ∃ b : Bool, e = .returned (.bool b) /\ Went J D pre [r] b Y /\ KpR X Y
def Rounds (l n₀ : Nat) (J : List RowM -> World -> Prop) (M : Nat) : Prop := ∀ (m : Nat) (pre : List RowM) (v : Value) (r : RowM) (X : World), J pre X -> RowFit r -> RowX X n₀ v r -> pre.length < M -> YieldAt Fence.wide m Tryz.prog l #[v] X fun e Y => e = .returned (.bool true) /\ J (pre ++ [r]) Y /\ KpR X Y
theorem Rounds.noD {l n₀ : Nat} {J : List RowM -> World -> Prop} {M : Nat} (h : Rounds l n₀ J M) : RoundsD l n₀ J (fun _ _ => False) M := fun m pre v r X a b c d => by
 obtain ⟨fn, tmps, assign, body, hy, hR⟩ := h m pre v r X a b c d
 exact ⟨fn, tmps, assign, body, hy, hR.mono (fun e Y ⟨e1, e2, e3⟩ => ⟨true, e1, Or.inl ⟨rfl, e2⟩, e3⟩)⟩
theorem from_end (l n₀ : Nat) (J D : List RowM -> World -> Prop) (hJ : ∀ pre X Y, J pre X -> Below X.heap.size X Y -> J pre Y) (M : Nat) (hY : RoundsD l n₀ J D M) (sa : Option Addr) (N sc : Nat) (i0 : Nat) (hi : N <= i0) (hi1 : i0 <= 12) (y : Way) (pa : Option Addr) (cp : Nat) (ga : Option Addr) (ng gc : Nat) (ta : Option Addr) (nt tc : Nat) (st : Bool) (q : RowM) (pre : List RowM) (W : World) (n : Nat) (hn0 : n₀ <= W.heap.size) (h0 : J pre W) (hq : RowFit q) (hM : pre.length < M)
  (hrow : ∀ X, Below W.heap.size W X -> Calls Tryz.prog 174 #[wayV ga ng gc pa cp ta nt tc st] X fun e X' => ∃ v, e = .returned v /\ Below X.heap.size X X' /\ RowX X' X.heap.size v q) :
  CallsIn Fence.wide n Tryz.prog 159 #[walkV l sa N sc, .int .i64 (i0 : Int), wayV ga ng gc pa cp ta nt tc st] W fun e W' => ∃ b : Bool, e = .returned (.bool b) /\ Went J D pre [q] b W' /\ KpR W W' := by
 have hge : (N : Int) <= i0 := by omega
 have A : Below W.heap.size W ((W.alloc (.cells #[.slice sa N sc, .func (.yield l) #[] #[]] 220)).alloc (.cells #[.slice ga ng gc, .slice pa 3 cp, .slice ta nt tc, .bool st] 223)) := (bal).alloc (by simp) _;have x0 := (Cel.new W [.slice sa N sc, .func (.yield l) #[] #[]] 220).alloc (.cells #[.slice ga ng gc, .slice pa 3 cp, .slice ta nt tc, .bool st] 223);have y0 := Cel.new (W.alloc (.cells #[.slice sa N sc, .func (.yield l) #[] #[]] 220)) [.slice ga ng gc, .slice pa 3 cp, .slice ta nt tc, .bool st] 223;rw [qA] at y0;refine callsIn_of_wp Tryz.func159 rfl trivial ?_ rfl;simp only [Tryz.ntmps159, qG, qB, qE, Nat.reduceAdd, Nat.reduceSub, Array.replicate_succ, Array.replicate_zero, List.push_toArray, List.append_toArray, List.nil_append, List.cons_append]
 gi_wp2_with fail
 obtain ⟨W0, hW0⟩ : ∃ W0, W0 = (W.alloc (.cells #[.slice sa N sc, .func (.yield l) #[] #[]] 220)).alloc (.cells #[.slice ga ng gc, .slice pa 3 cp, .slice ta nt tc, .bool st] 223) := ⟨_, rfl⟩
 rw [<- hW0] at A x0 y0 ⊢;clear hW0
 have KP : Hid (∀ X, KpR W0 X -> ((X.cell? ⟨W.heap.size, 0, none⟩ = some (.slice sa N sc) /\ X.cell? ⟨W.heap.size, 1, none⟩ = some (.func (.yield l) #[] #[])) /\ (X.cell? ⟨W.heap.size + 1, 0, none⟩ = some (.slice ga ng gc) /\ X.cell? ⟨W.heap.size + 1, 1, none⟩ = some (.slice pa 3 cp) /\ X.cell? ⟨W.heap.size + 1, 2, none⟩ = some (.slice ta nt tc) /\ X.cell? ⟨W.heap.size + 1, 3, none⟩ = some (.bool st)))) := fun X hX => by
  have a1 := x0.keepR hX (by decide) (by decide);have a2 := y0.keepR hX (by decide) (by decide)
  exact ⟨⟨a1.cell 0, a1.cell 1⟩, a2.four⟩
 have e0 : Below W0.heap.size W0 W0.drew := (Below.refl _ _).drew;have hSS := KP.out _ (KpR.of e0);refine wpIn_region_S (fun w' => (w'.cell? ⟨W.heap.size, 0, none⟩ = some (.slice sa N sc) /\ w'.cell? ⟨W.heap.size, 1, none⟩ = some (.func (.yield l) #[] #[])) /\ (w'.cell? ⟨W.heap.size + 1, 0, none⟩ = some (.slice ga ng gc) /\ w'.cell? ⟨W.heap.size + 1, 1, none⟩ = some (.slice pa 3 cp) /\ w'.cell? ⟨W.heap.size + 1, 2, none⟩ = some (.slice ta nt tc) /\ w'.cell? ⟨W.heap.size + 1, 3, none⟩ = some (.bool st))) (by kernel_rfl) ?_;refine tks 0 rfl rfl hSS ?_;refine tks 1 rfl rfl hSS ?_;refine tks 2 rfl rfl hSS ?_;clear hSS;refine wpAnyS_one (i := 3) (by kernel_rfl) rfl (fun K hK => ?_);go_simp;refine ⟨trivial, fun h => by simp [Fence.wide] at h, (callsIn_wide.2 (hrow _ (btr A e0))).mono ?_⟩;rintro e w1 ⟨v, rfl, bd1, rx⟩;have b1 : Below W0.heap.size W0 w1 := below_of_drew bd1;have hS1 := KP.out _ (KpR.of b1);have J1 := hJ _ _ _ h0 (btr A b1);have sA := A.size
 have rx' : RowX w1 n₀ v q := by
  obtain ⟨ga', gc', aa, ac, ta', tc', e, f0, f1, f2⟩ := rx;have hs : n₀ <= W0.drew.heap.size := by show n₀ <= W0.heap.size; omega
  exact ⟨ga', gc', aa, ac, ta', tc', e, f0.mono (fun k hk => by omega), f1.mono (fun k hk => by omega), f2.mono (fun k hk => by omega)⟩
 (try dsimp only);refine hK.out _ _ hS1 ?_;clear hK K bd1 rx;obtain ⟨fn, tmps, assign, body, hy, hR⟩ := hY (n - 1) pre v q w1 J1 hq rx' hM;refine wpAnyS_one (i := 4) (by kernel_rfl) rfl (fun K hK => ?_);go_simp;refine ⟨fun h => by simp [Fence.wide] at h, hR.mono ?_⟩;rintro e w2 ⟨b2, rfl, J2, k2⟩;have K2 := (KpR.of b1).trans k2;have hS2 := KP.out _ K2;(try dsimp only);refine hK.out _ _ hS2 ?_;clear hK K hR hy;refine wpAnyS_one (i := 5) (by kernel_rfl) rfl (fun K hK => ?_);go_simp;refine hK.out _ _ hS2 ?_;refine wpAnyS_done (by kernel_rfl) ?_ _;have KK := (KpR.of A).trans K2;clear KP hS1 hS2 x0 y0
 gi_wp2
 go_ret
 exact ⟨b2, rfl, J2, KK⟩
attribute [local go_sem] Oper.semAt_some
abbrev goV (l : Nat) (sa : Option Addr) (N sc : Nat) : Value := .func (.func 159) #[walkV l sa N sc] #[]
def GoesOn (l : Nat) (sa : Option Addr) (N sc : Nat) (i : Int) (v : Value) (J : Bool -> World -> Prop) (X : World) : Prop := ∀ m, CallsIn Fence.wide m Tryz.prog 159 #[walkV l sa N sc, .int .i64 i, v] X fun e Y => ∃ b : Bool, e = .returned (.bool b) /\ J b Y /\ KpR X Y
theorem is_test_test (v : Value) (w : World) : (Instr.typeAssert (.iface 198 v) 156 198 true).run Tryz.prog w = .ok (.tuple #[v, .bool true]) w := by kernel_rfl
theorem is_add_test (v : Value) (w : World) : (Instr.typeAssert (.iface 200 v) 156 198 true).run Tryz.prog w = .ok (.tuple #[.agg #[.int .i64 0, .slice none 0 0, .slice none 0 0, .int .i64 0], .bool false]) w := by kernel_rfl
theorem is_add_add (v : Value) (w : World) : (Instr.typeAssert (.iface 200 v) 156 200 true).run Tryz.prog w = .ok (.tuple #[v, .bool true]) w := by kernel_rfl
theorem is_add_print (v : Value) (w : World) : (Instr.typeAssert (.iface 200 v) 156 202 true).run Tryz.prog w = .ok (.tuple #[.agg #[.slice none 0 0, .slice none 0 0, .int .i64 0], .bool false]) w := by kernel_rfl
theorem is_print_test (v : Value) (w : World) : (Instr.typeAssert (.iface 202 v) 156 198 true).run Tryz.prog w = .ok (.tuple #[.agg #[.int .i64 0, .slice none 0 0, .slice none 0 0, .int .i64 0], .bool false]) w := by kernel_rfl
theorem is_print_add (v : Value) (w : World) : (Instr.typeAssert (.iface 202 v) 156 200 true).run Tryz.prog w = .ok (.tuple #[.agg #[.int .i64 0, .slice none 0 0, .slice none 0 0, .int .i64 0], .bool false]) w := by kernel_rfl
theorem is_print_print (v : Value) (w : World) : (Instr.typeAssert (.iface 202 v) 156 202 true).run Tryz.prog w = .ok (.tuple #[v, .bool true]) w := by kernel_rfl
theorem is_stop_test (v : Value) (w : World) : (Instr.typeAssert (.iface 203 v) 156 198 true).run Tryz.prog w = .ok (.tuple #[.agg #[.int .i64 0, .slice none 0 0, .slice none 0 0, .int .i64 0], .bool false]) w := by kernel_rfl
theorem is_stop_add (v : Value) (w : World) : (Instr.typeAssert (.iface 203 v) 156 200 true).run Tryz.prog w = .ok (.tuple #[.agg #[.int .i64 0, .slice none 0 0, .slice none 0 0, .int .i64 0], .bool false]) w := by kernel_rfl
theorem is_stop_print (v : Value) (w : World) : (Instr.typeAssert (.iface 203 v) 156 202 true).run Tryz.prog w = .ok (.tuple #[.agg #[.slice none 0 0, .slice none 0 0, .int .i64 0], .bool false]) w := by kernel_rfl
theorem past_stop (l : Nat) {sa : Option Addr} (N sc : Nat) {nx : Int} (ga : Option Addr) (ng gc : Nat) (pa : Option Addr) (cp : Nat) (ta : Option Addr) (nt tc : Nat) {J : Bool -> World -> Prop} (W : World) (n : Nat)
  (hgo : ∀ X, Below W.heap.size W X -> GoesOn l sa N sc 6 (wayV ga ng gc pa cp ta nt tc true) J X) :
  CallsIn Fence.wide n Tryz.prog 175 #[wayV ga ng gc pa cp ta nt tc false, .iface 203 (.agg #[]), .int .i64 nx, goV l sa N sc] W fun e Y => ∃ b : Bool, e = .returned (.bool b) /\ J b Y /\ KpR W Y := by
 have hdd : ∀ k : Nat, (Fence.wide.depth.isSome = true -> 1 <= k) := fun k h => by simp [Fence.wide] at h
 refine callsIn_of_wp Tryz.func175 rfl trivial ?_ rfl;simp only [Tryz.ntmps175, qG, qB, qE, Nat.reduceAdd, Nat.reduceSub, Array.replicate_succ, Array.replicate_zero, List.push_toArray, List.append_toArray, List.nil_append, List.cons_append];have t1 := is_stop_test;have t2 := is_stop_add;have t3 := is_stop_print;have A : Below W.heap.size W (W.alloc (.cells #[.slice ga ng gc, .slice pa 3 cp, .slice ta nt tc, .bool true] 223)) := bal;have hc := hgo _ A
 gi_wp2_with fail
 refine ⟨trivial, hdd _, (hc _).mono ?_⟩;rintro e w1 ⟨z1, rfl, j1, k1⟩;have kk := (KpR.of A).trans k1;clear hc
 gi_wp2
 go_ret
 exact ⟨z1, rfl, j1, kk⟩
theorem past_print (l : Nat) {sa : Option Addr} (N sc : Nat) {nx : Int} (i : Nat) (y : Way) (hy : WayOk i y) (h6 : i <= 5) (g : FV) (hs : smallB g.n g.m g.C g.D g.K = true) (ga : Option Addr) (ng gc : Nat) (pa : Option Addr) (cp : Nat) (ta : Option Addr) (nt tc : Nat) {J : Bool -> World -> Prop} (W : World) (n : Nat) (hA : g.At W) (hP : FormsAt W pa y.pots) (hT : FormsAt W ta y.tells) (htl : y.tells.length = nt)
  (hgo : ∀ X ta' tc', Below W.heap.size W X -> FormsAt X ta' (y.tells ++ [intoX g y.pots]) -> GoesOn l sa N sc nx (wayV ga ng gc pa cp ta' (nt + 1) tc' false) J X) :
  CallsIn Fence.wide n Tryz.prog 175 #[wayV ga ng gc pa cp ta nt tc false, .iface 202 (.agg #[.slice g.a g.n g.cap, .slice g.c g.m g.cap', .int .i64 g.K]), .int .i64 nx, goV l sa N sc] W fun e Y => ∃ b : Bool, e = .returned (.bool b) /\ J b Y /\ KpR W Y := by
 have hdd : ∀ k : Nat, (Fence.wide.depth.isSome = true -> 1 <= k) := fun k h => by simp [Fence.wide] at h
 obtain ⟨fit1, fit2, -⟩ := hy.into (by omega) (f := g) hs hA.D.1;have HF1 : Hid _ := fit1;have HF2 : Hid _ := fit2;have HY : Hid (WayOk i y) := hy;have HTL : Hid (y.tells.length = nt) := htl;have nt1 : nt <= 100 := by have := hy.tl; omega
 obtain ⟨FX, hFX⟩ : ∃ FX, FX = intoX g y.pots := ⟨_, rfl⟩
 have HFX : Hid (intoX g y.pots = FX) := hFX.symm;have lXC := fit2.c;have lXD := fit2.d;rw [<- hFX] at lXC lXD;clear fit1 fit2 hy htl hFX;have A0 : Below W.heap.size W ((W.alloc (.cells #[.slice ga ng gc, .slice pa 3 cp, .slice ta nt tc, .bool false] 223)).alloc (.cells #[.slice g.a g.n g.cap, .slice g.c g.m g.cap', .int .i64 g.K] 202)) := (bal).alloc (by simp) _;have x0 := (Cel.new W [.slice ga ng gc, .slice pa 3 cp, .slice ta nt tc, .bool false] 223).alloc (.cells #[.slice g.a g.n g.cap, .slice g.c g.m g.cap', .int .i64 g.K] 202);have y0 := Cel.new (W.alloc (.cells #[.slice ga ng gc, .slice pa 3 cp, .slice ta nt tc, .bool false] 223)) [.slice g.a g.n g.cap, .slice g.c g.m g.cap', .int .i64 g.K] 202;rw [qA] at y0;have t0 := is_print_test;have t1 := is_print_add;have t2 := is_print_print;refine callsIn_of_wp Tryz.func175 rfl trivial ?_ rfl;simp only [Tryz.ntmps175, qG, qB, qE, Nat.reduceAdd, Nat.reduceSub, Array.replicate_succ, Array.replicate_zero, List.push_toArray, List.append_toArray, List.nil_append, List.cons_append]
 gi_wp2_with fail
 obtain ⟨W0, hW0⟩ : ∃ W0, W0 = (W.alloc (.cells #[.slice ga ng gc, .slice pa 3 cp, .slice ta nt tc, .bool false] 223)).alloc (.cells #[.slice g.a g.n g.cap, .slice g.c g.m g.cap', .int .i64 g.K] 202) := ⟨_, rfl⟩
 rw [<- hW0] at A0 x0 y0 ⊢;clear hW0;have KA : Hid (∀ X, KpR W0 X -> Cel X W.heap.size [.slice ga ng gc, .slice pa 3 cp, .slice ta nt tc, .bool false] 223) := fun X hX => x0.keepR hX (by decide) (by decide);have KB : Hid (∀ X, KpR W0 X -> Cel X (W.heap.size + 1) [.slice g.a g.n g.cap, .slice g.c g.m g.cap', .int .i64 g.K] 202) := fun X hX => y0.keepR hX (by decide) (by decide);have KP : Hid (∀ X, KpR W0 X -> ((X.cell? ⟨W.heap.size, 0, none⟩ = some (.slice ga ng gc) /\ X.cell? ⟨W.heap.size, 1, none⟩ = some (.slice pa 3 cp) /\ X.cell? ⟨W.heap.size, 2, none⟩ = some (.slice ta nt tc) /\ X.cell? ⟨W.heap.size, 3, none⟩ = some (.bool false)) /\ (X.cell? ⟨W.heap.size + 1, 0, none⟩ = some (.slice g.a g.n g.cap) /\ X.cell? ⟨W.heap.size + 1, 1, none⟩ = some (.slice g.c g.m g.cap') /\ X.cell? ⟨W.heap.size + 1, 2, none⟩ = some (.int .i64 g.K)))) := fun X hX => ⟨(KA.out X hX).four, (KB.out X hX).cell 0, (KB.out X hX).cell 1, (KB.out X hX).cell 2⟩
 have e0 : Below W0.heap.size W0 W0.drew := (Below.refl _ _).drew;have hSS := KP.out _ (KpR.of e0);refine wpIn_region_S (fun w' => (w'.cell? ⟨W.heap.size, 0, none⟩ = some (.slice ga ng gc) /\ w'.cell? ⟨W.heap.size, 1, none⟩ = some (.slice pa 3 cp) /\ w'.cell? ⟨W.heap.size, 2, none⟩ = some (.slice ta nt tc) /\ w'.cell? ⟨W.heap.size, 3, none⟩ = some (.bool false)) /\ (w'.cell? ⟨W.heap.size + 1, 0, none⟩ = some (.slice g.a g.n g.cap) /\ w'.cell? ⟨W.heap.size + 1, 1, none⟩ = some (.slice g.c g.m g.cap') /\ w'.cell? ⟨W.heap.size + 1, 2, none⟩ = some (.int .i64 g.K))) (by kernel_rfl) ?_;refine tks 0 rfl rfl hSS ?_;refine tks 1 rfl rfl hSS ?_;refine tks 2 rfl rfl hSS ?_;refine tks 3 rfl rfl hSS ?_;refine tks 4 rfl rfl hSS ?_;refine tks 5 rfl rfl hSS ?_;refine tks 6 rfl rfl hSS ?_;clear hSS;refine wpAnyS_one (i := 7) (by kernel_rfl) rfl (fun K hK => ?_);go_simp;refine ⟨trivial, hdd _, (callsIn_wide.2 (iintoW_any HY.out (by omega) g hs (hA.below (btr A0 e0)) (hP.keep (btr A0 e0)))).mono ?_⟩;rintro e w1 ⟨B1, B2, c1, c2, rfl, bd1, y1, y2, y3, k1, k2⟩;rw [HFX.out] at k1 k2 ⊢;have b1 : Below W0.heap.size W0 w1 := below_of_drew bd1;have E1 := btr A0 b1;clear bd1 y1 y2 y3;(try dsimp only);refine hK.out _ _ (KP.out _ (KpR.of b1)) ?_;refine wpAnyS_one (i := 8) (by kernel_rfl) rfl (fun K hK => ?_);go_simp;refine ⟨trivial, hdd _, (callsIn_wide.2 (itell_any FX y.tells HTL.out nt1 (hT.keep E1) (k1.ints' lXC) (k2.ints' lXD))).mono ?_⟩;rintro e w2 ⟨G, cG, rfl, b2', F2⟩;have b2 := btr b1 b2'
 have E2 := btr A0 b2;have HG2 : Hid _ := hgo w2 _ cG E2 (by rw [HFX.out]; exact F2);clear k1 k2;(try dsimp only);refine hK.out _ _ (KP.out _ (KpR.of b2)) ?_;refine wpAnyS_one (i := 9) (by kernel_rfl) rfl (fun K hK => ?_);go_simp;refine ⟨trivial, hdd _, (HG2.out _).mono ?_⟩;rintro e w3 ⟨z3, rfl, j3, k3⟩;have K3 := (KpR.of b2).trans k3;have KK := (KpR.of A0).trans K3;(try dsimp only);refine hK.out _ _ (KP.out _ K3) ?_;refine wpAnyS_one (i := 10) (by kernel_rfl) rfl (fun K hK => ?_);go_simp;refine hK.out _ _ (KP.out _ K3) ?_;refine wpAnyS_done (by kernel_rfl) ?_ _;clear KP KA KB x0 y0 HG2
 gi_wp2
 go_ret
 exact ⟨z3, rfl, j3, KK⟩
theorem past_add (l : Nat) {sa : Option Addr} (N sc : Nat) {nx : Int} (i : Nat) (y : Way) (hy : WayOk i y) (h6 : i <= 5) (g : FV) (hs : smallB g.n g.m g.C g.D g.K = true) (ga : Option Addr) (ng gc : Nat) (pa : Option Addr) (cp : Nat) (ta : Option Addr) (nt tc : Nat) {J : Bool -> World -> Prop} (W : World) (n : Nat) (hA : g.At W) (hP : FormsAt W pa y.pots) (hT : FormsAt W ta y.tells) (htl : y.tells.length = nt)
  (p : Nat) (hp : p < 3) (hgo : ∀ X pa' cp', Below W.heap.size W X -> FormsAt X pa' (y.add p (intoX g y.pots)).pots -> GoesOn l sa N sc nx (wayV ga ng gc pa' cp' ta nt tc false) J X) :
  CallsIn Fence.wide n Tryz.prog 175 #[wayV ga ng gc pa cp ta nt tc false, .iface 200 (.agg #[.int .i64 (p : Int), .slice g.a g.n g.cap, .slice g.c g.m g.cap', .int .i64 g.K]), .int .i64 nx, goV l sa N sc] W fun e Y => ∃ b : Bool, e = .returned (.bool b) /\ J b Y /\ KpR W Y := by
 have hdd : ∀ k : Nat, (Fence.wide.depth.isSome = true -> 1 <= k) := fun k h => by simp [Fence.wide] at h
 obtain ⟨fit1, fit2, -⟩ := hy.into (by omega) (f := g) hs hA.D.1;have HF1 : Hid _ := fit1;have HF2 : Hid _ := fit2;have HY : Hid (WayOk i y) := hy;have HTL : Hid (y.tells.length = nt) := htl;have nt1 : nt <= 100 := by have := hy.tl; omega
 obtain ⟨FX, hFX⟩ : ∃ FX, FX = intoX g y.pots := ⟨_, rfl⟩
 have HFX : Hid (intoX g y.pots = FX) := hFX.symm;have lXC := fit2.c;have lXD := fit2.d;rw [<- hFX] at lXC lXD;have hw := wb_pos i;have hw6 := wb_six (n := i) (by omega);have hq := hy.pf p hp;rw [show min i 6 = i by omega] at hq;have HQ1 : Hid (fitX 10000000 (y.pots[p]?.getD noX)) := hq.mono (by omega);have HQ3 : Hid (fitX 10000000 (plusX (y.pots[p]?.getD noX) (intoX g y.pots))) := (plusX_fit hq fit1).mono (by omega);clear fit1 fit2 hy htl hFX hq;have A0 : Below W.heap.size W ((W.alloc (.cells #[.slice ga ng gc, .slice pa 3 cp, .slice ta nt tc, .bool false] 223)).alloc (.cells #[.int .i64 (p : Int), .slice g.a g.n g.cap, .slice g.c g.m g.cap', .int .i64 g.K] 200)) := (bal).alloc (by simp) _;have x0 := (Cel.new W [.slice ga ng gc, .slice pa 3 cp, .slice ta nt tc, .bool false] 223).alloc (.cells #[.int .i64 (p : Int), .slice g.a g.n g.cap, .slice g.c g.m g.cap', .int .i64 g.K] 200);have y0 := Cel.new (W.alloc (.cells #[.slice ga ng gc, .slice pa 3 cp, .slice ta nt tc, .bool false] 223)) [.int .i64 (p : Int), .slice g.a g.n g.cap, .slice g.c g.m g.cap', .int .i64 g.K] 200;rw [qA] at y0;have t0 := is_add_test;have t1 := is_add_add;have t2 := is_add_print;refine callsIn_of_wp Tryz.func175 rfl trivial ?_ rfl;simp only [Tryz.ntmps175, qG, qB, qE, Nat.reduceAdd, Nat.reduceSub, Array.replicate_succ, Array.replicate_zero, List.push_toArray, List.append_toArray, List.nil_append, List.cons_append]
 gi_wp2_with fail
 obtain ⟨W0, hW0⟩ : ∃ W0, W0 = (W.alloc (.cells #[.slice ga ng gc, .slice pa 3 cp, .slice ta nt tc, .bool false] 223)).alloc (.cells #[.int .i64 (p : Int), .slice g.a g.n g.cap, .slice g.c g.m g.cap', .int .i64 g.K] 200) := ⟨_, rfl⟩
 rw [<- hW0] at A0 x0 y0 ⊢;clear hW0;have KA : Hid (∀ X, KpR W0 X -> Cel X W.heap.size [.slice ga ng gc, .slice pa 3 cp, .slice ta nt tc, .bool false] 223) := fun X hX => x0.keepR hX (by decide) (by decide);have KB : Hid (∀ X, KpR W0 X -> Cel X (W.heap.size + 1) [.int .i64 (p : Int), .slice g.a g.n g.cap, .slice g.c g.m g.cap', .int .i64 g.K] 200) := fun X hX => y0.keepR hX (by decide) (by decide);have KP : Hid (∀ X, KpR W0 X -> ((X.cell? ⟨W.heap.size, 0, none⟩ = some (.slice ga ng gc) /\ X.cell? ⟨W.heap.size, 1, none⟩ = some (.slice pa 3 cp) /\ X.cell? ⟨W.heap.size, 2, none⟩ = some (.slice ta nt tc) /\ X.cell? ⟨W.heap.size, 3, none⟩ = some (.bool false)) /\ (X.cell? ⟨W.heap.size + 1, 0, none⟩ = some (.int .i64 (p : Int)) /\ X.cell? ⟨W.heap.size + 1, 1, none⟩ = some (.slice g.a g.n g.cap) /\ X.cell? ⟨W.heap.size + 1, 2, none⟩ = some (.slice g.c g.m g.cap') /\ X.cell? ⟨W.heap.size + 1, 3, none⟩ = some (.int .i64 g.K)))) := fun X hX => ⟨(KA.out X hX).four, (KB.out X hX).cell 0, (KB.out X hX).cell 1, (KB.out X hX).cell 2, (KB.out X hX).cell 3⟩
 have e0 : Below W0.heap.size W0 W0.drew := (Below.refl _ _).drew;have hSS := KP.out _ (KpR.of e0);refine wpIn_region_S (fun w' => (w'.cell? ⟨W.heap.size, 0, none⟩ = some (.slice ga ng gc) /\ w'.cell? ⟨W.heap.size, 1, none⟩ = some (.slice pa 3 cp) /\ w'.cell? ⟨W.heap.size, 2, none⟩ = some (.slice ta nt tc) /\ w'.cell? ⟨W.heap.size, 3, none⟩ = some (.bool false)) /\ (w'.cell? ⟨W.heap.size + 1, 0, none⟩ = some (.int .i64 (p : Int)) /\ w'.cell? ⟨W.heap.size + 1, 1, none⟩ = some (.slice g.a g.n g.cap) /\ w'.cell? ⟨W.heap.size + 1, 2, none⟩ = some (.slice g.c g.m g.cap') /\ w'.cell? ⟨W.heap.size + 1, 3, none⟩ = some (.int .i64 g.K))) (by kernel_rfl) ?_;refine tks 0 rfl rfl hSS ?_;refine tks 1 rfl rfl hSS ?_;refine tks 2 rfl rfl hSS ?_;refine tks 3 rfl rfl hSS ?_;refine tks 4 rfl rfl hSS ?_;refine tks 5 rfl rfl hSS ?_;refine tks 6 rfl rfl hSS ?_;refine tks 7 rfl rfl hSS ?_;refine tks 8 rfl rfl hSS ?_;clear hSS;refine wpAnyS_one (i := 9) (by kernel_rfl) rfl (fun K hK => ?_);go_simp;refine ⟨trivial, hdd _, (callsIn_wide.2 (iintoW_any HY.out (by omega) g hs (hA.below (btr A0 e0)) (hP.keep (btr A0 e0)))).mono ?_⟩;rintro e w1 ⟨B1, B2, c1, c2, rfl, bd1, y1, y2, y3, k1, k2⟩;rw [HFX.out] at k1 k2 ⊢;have b1 : Below W0.heap.size W0 w1 := below_of_drew bd1;have E1 := btr A0 b1;clear bd1 y1 y2 y3;(try dsimp only);refine hK.out _ _ (KP.out _ (KpR.of b1)) ?_;refine wpAnyS_one (i := 10) (by kernel_rfl) rfl (fun K hK => ?_);go_simp
 refine ⟨trivial, hdd _, (callsIn_wide.2 (iadding_any y p hp FX HY.out.pl (hP.keep E1) (k1.ints' lXC) (k2.ints' lXD) HQ1.out (by rw [<- HFX.out]; exact HF2.out) (by rw [<- HFX.out]; exact HQ3.out))).mono ?_⟩;rintro e w2 ⟨G, cG, rfl, b2', F2⟩;have b2 := btr b1 b2';have E2 := btr A0 b2;have HG2 : Hid _ := hgo w2 _ cG E2 (by rw [HFX.out]; exact F2);clear k1 k2;(try dsimp only);refine hK.out _ _ (KP.out _ (KpR.of b2)) ?_;refine wpAnyS_one (i := 11) (by kernel_rfl) rfl (fun K hK => ?_);go_simp;refine ⟨trivial, hdd _, (HG2.out _).mono ?_⟩;rintro e w3 ⟨z3, rfl, j3, k3⟩;have K3 := (KpR.of b2).trans k3;have KK := (KpR.of A0).trans K3;(try dsimp only);refine hK.out _ _ (KP.out _ K3) ?_;refine wpAnyS_one (i := 12) (by kernel_rfl) rfl (fun K hK => ?_);go_simp;refine hK.out _ _ (KP.out _ K3) ?_;refine wpAnyS_done (by kernel_rfl) ?_ _;clear KP KA KB x0 y0 HG2
 gi_wp2
 go_ret
 exact ⟨z3, rfl, j3, KK⟩
end Go.Proofs.YtpmihhbgjimpmaaGreatDoor
