/-
  Lemmas that the claim's last text rests on.
-/
import Derived.BigRegion
import Derived.Deep.RegionHeld3
import Derived.Test.YtfmpcihghlnlnaaGreatDoorQC
namespace Go.Proofs.YtfmpcihghlnlnaaGreatDoor
open Go.RowKit
open World renaming size_alloc → qA
open List renaming getElem?_eq_getElem → qB, getElem?_cons_zero → qC, getElem?_cons_succ → qD
open Nat renaming le_refl → qE
set_option linter.unusedVariables false
set_option maxRecDepth 100000
set_option maxHeartbeats 25600000
variable {K k n : Int} {W w : World} {a c : Option Addr} {cap cap' : Nat} {ys : List Int}
def lin (xs ys : List Int) (n : Int) : List Int := List.zipWith (fun x y => x + n * y) xs ys
theorem lin_len {xs : List Int} {k : Nat} (hx : xs.length = k) (hy : ys.length = k) : (lin xs ys n).length = k := by simp [lin, hx, hy]
theorem lin_get {xs : List Int} {k i : Nat} (hx : xs.length = k) (hy : ys.length = k) (hi : i < k) : (lin xs ys n)[i]?.getD 0 = xs[i]?.getD 0 + n * ys[i]?.getD 0 := by
 have h1 : i < xs.length := by omega
 have h2 : i < ys.length := by omega
 have h3 : i < (lin xs ys n).length := by rw [lin_len hx hy]; exact hi
 rw [qB h1, qB h2, qB h3];simp [lin]
def bndT (P n : Int) (ys : List Int) : Prop := ∀ i : Nat, -P <= n * ys[i]?.getD 0 /\ n * ys[i]?.getD 0 <= P
theorem bndT_of {M N : Int} (hy : bnd M ys) (h1 : -N <= n) (h2 : n <= N) (h0 : 0 <= M) (h3 : 0 <= N) : bndT (N * M) n ys := by
 intro i;obtain ⟨b1, b2⟩ := hy i;generalize ys[i]?.getD 0 = y at *;have hx' : n.natAbs <= N.toNat := by omega
 have hy' : y.natAbs <= M.toNat := by omega
 have hm : (n * y).natAbs <= N.toNat * M.toNat := by rw [Int.natAbs_mul]; exact Nat.mul_le_mul hx' hy'
 have e : ((N.toNat * M.toNat : Nat) : Int) = N * M := by rw [Int.natCast_mul, Int.toNat_of_nonneg h3, Int.toNat_of_nonneg h0]
 omega
theorem l1sum_any (C D : List Int) {a' : Option Addr} {cap2 : Nat} {c' : Option Addr} {cap3 : Nat} {K' : Int} (C' D' : List Int) {n : Int} {w : World}
  (hC : Ints w a 3 C) (hD : Ints w c 2 D) (hC' : Ints w a' 3 C') (hD' : Ints w c' 2 D') (bC : bnd 1000000000000000000 C) (bD : bnd 1000000000000000000 D) (bK : -1000000000000000000 <= K /\ K <= 1000000000000000000)
  (tC : bndT 1000000000000000000 n C') (tD : bndT 1000000000000000000 n D') (tK : -1000000000000000000 <= n * K' /\ n * K' <= 1000000000000000000) :
  Calls Tryz.prog 132 #[formV a 3 cap c 2 cap' K, formV a' 3 cap2 c' 2 cap3 K', .int .i64 n] w fun e w' => ∃ B1 B2, e = .returned (formV (some ⟨B1, 0, none⟩) 3 3 (some ⟨B2, 0, none⟩) 2 2 (K + n * K')) /\ Below w.heap.size w w' /\ w.heap.size <= B1 /\ B1 ≠ B2 /\ w.heap.size <= B2 /\ Blk w' B1 (lin C C' n) /\ Blk w' B2 (lin D D' n) := by
 have LC := lin_len (n := n) hC.1 hC'.1;have LD := lin_len (n := n) hD.1 hD'.1;have HC : Hid _ := hC.1;have HC' : Hid _ := hC'.1;have HD : Hid _ := hD.1;have HD' : Hid _ := hD'.1;obtain ⟨L1, hL1⟩ : ∃ L, L = lin C C' n := ⟨_, rfl⟩
 obtain ⟨L2, hL2⟩ : ∃ L, L = lin D D' n := ⟨_, rfl⟩
 have G1 : ∀ i, i < 3 -> L1[i]?.getD 0 = C[i]?.getD 0 + n * C'[i]?.getD 0 := fun i hi => by rw [hL1]; exact lin_get HC.out HC'.out hi
 have G2 : ∀ i, i < 2 -> L2[i]?.getD 0 = D[i]?.getD 0 + n * D'[i]?.getD 0 := fun i hi => by rw [hL2]; exact lin_get HD.out HD'.out hi
 rw [<- hL1] at LC;rw [<- hL2] at LD;rw [<- hL1, <- hL2];have HL1 : Hid (L1.length = 3) := LC;have HL2 : Hid (L2.length = 2) := LD;have GG1 : Hid _ := G1;have GG2 : Hid _ := G2;clear LC LD hL1 hL2 G1 G2;obtain ⟨bK1, bK2⟩ := bK;obtain ⟨tK1, tK2⟩ := tK
 go_enter Tryz.func132, Tryz.ntmps132
 go_wp2_with fail
 refine (szero_any).mono ?_;rintro e w1 ⟨B1, B2, rfl, b1, h1, h2, h3, k1, k2⟩;rw [qA, qA, qA] at h1 h3;have p0 := (((Cel.new w _ _).alloc _).alloc _).below b1;have p1 := ((Cel.new (w.alloc _) _ _).alloc _).below b1;have p2 := (Cel.new ((w.alloc _).alloc _) _ _).below b1;rw [qA] at p1;rw [qA, qA] at p2;have hb : Below w.heap.size w w1 := (((bal).alloc (by simp) _).alloc (by simp; omega) _).trans (b1.mono (by simp; omega));have hX1 := k1.lt;have hX2 := k2.lt;have hX0 : w.heap.size + 1 + 1 < w1.heap.size := p2.lt;clear b1
 go_wp2_with fail
 go_loopw [8] (fun i wr => ∃ k : Nat, k <= 3 /\ i = .int .i64 k /\ Below w.heap.size w wr /\ w1.heap.size < wr.heap.size /\ Cel wr w.heap.size [.slice a 3 cap, .slice c 2 cap', .int .i64 K] 106 /\ Cel wr (w.heap.size + 1) [.slice a' 3 cap2, .slice c' 2 cap3, .int .i64 K'] 106 /\ Cel wr (w.heap.size + 1 + 1) [.slice none 0 0, .slice none 0 0, .int .i64 0] 106 /\ Cel wr w1.heap.size [.slice (some ⟨B1, 0, none⟩) 3 3, .slice (some ⟨B2, 0, none⟩) 2 2, .int .i64 0] 106 /\ Blk wr B1 (upTo L1 3 k) /\ Blk wr B2 [0, 0]) (fun i _ => 3 - (intOf i).toNat)
 case atStart => exact ⟨0, by omega, rfl, hb.alloc hb.size _, by simp, p0.alloc _, p1.alloc _, p2.alloc _, Cel.new w1 _ _, by rw [upTo_zero]; exact k1.alloc _, k2.alloc _⟩
 case round =>
  clear p0 p1 p2 hb k1 k2;obtain ⟨k, hk, rfl, hb, hz, p0, p1, p2, x0, k1, k2⟩ := hrel
  by_cases hlt : k < 3
  ·obtain ⟨b, off, rfl, hcell⟩ := (hC.below hb).pos (by omega);obtain ⟨b', off', rfl, hcell'⟩ := (hC'.below hb).pos (by omega);have hck := hcell k hlt;have hck' := hcell' k hlt;have hlt' : (k : Int) < 3 := by omega
   have s0 := p0.cell 0;have s1 := p1.cell 0;have s2 := x0.cell 0;simp only [qC] at s0 s1 s2;have hco := k1.cell k (by rw [upTo_len HL1.out hk]; exact hlt);have hfo := k1.free k;obtain ⟨d1, d2⟩ := bC k;obtain ⟨d3, d4⟩ := tC k;have e1 := GG1.out k hlt;have R := k1.set k (L1[k]?.getD 0);rw [upTo_succ HL1.out hlt, e1] at R;have Rb := hb.setCell (p := ⟨B1, k, none⟩) (by show w.heap.size <= B1; omega) (.int .i64 (C[k]?.getD 0 + n * C'[k]?.getD 0));have R0 := p0.setOther (B' := B1) (by omega) k (.int .i64 (C[k]?.getD 0 + n * C'[k]?.getD 0));have R1 := p1.setOther (B' := B1) (by omega) k (.int .i64 (C[k]?.getD 0 + n * C'[k]?.getD 0));have R2 := p2.setOther (B' := B1) (by omega) k (.int .i64 (C[k]?.getD 0 + n * C'[k]?.getD 0));have R3 := x0.setOther (B' := B1) (by omega) k (.int .i64 (C[k]?.getD 0 + n * C'[k]?.getD 0));have R4 := k2.setOther (B' := B1) (by omega) k (.int .i64 (C[k]?.getD 0 + n * C'[k]?.getD 0));clear hcell hcell' hC hD hC' hD' e1 p0 p1 p2 x0 k1 k2 hb bC bD tC tD
   go_wp2_with fail
   go_region
   go_wp2
   go_roundw
   case rel => exact ⟨k + 1, by omega, by go_num, Rb.drew, by show w1.heap.size < (World.setCell _ _ _).heap.size; rw [size_setCell]; exact hz, R0, R1, R2, R3, R, R4⟩
   case measure => simp [intOf]; omega
  obtain rfl : k = 3 := by omega
  rw [upTo_end HL1.out (qE _)] at k1;clear hC hC' bC tC
  go_wp2_with fail
  go_loopw [9] (fun i wr => ∃ k : Nat, k <= 2 /\ i = .int .i64 k /\ Below w.heap.size w wr /\ w1.heap.size < wr.heap.size /\ Cel wr w.heap.size [.slice a 3 cap, .slice c 2 cap', .int .i64 K] 106 /\ Cel wr (w.heap.size + 1) [.slice a' 3 cap2, .slice c' 2 cap3, .int .i64 K'] 106 /\ Cel wr (w.heap.size + 1 + 1) [.slice none 0 0, .slice none 0 0, .int .i64 0] 106 /\ Cel wr w1.heap.size [.slice (some ⟨B1, 0, none⟩) 3 3, .slice (some ⟨B2, 0, none⟩) 2 2, .int .i64 0] 106 /\ Blk wr B1 L1 /\ Blk wr B2 (upTo L2 2 k)) (fun i _ => 2 - (intOf i).toNat)
  case atStart => exact ⟨0, by omega, rfl, hb, hz, p0, p1, p2, x0, k1, by rw [upTo_zero]; exact k2⟩
  case round =>
   clear p0 p1 p2 hb k1 k2 x0 hz;obtain ⟨k, hk, rfl, hb, hz, p0, p1, p2, x0, k1, k2⟩ := hrel
   by_cases hlt : k < 2
   ·obtain ⟨b, off, rfl, hcell⟩ := (hD.below hb).pos (by omega);obtain ⟨b', off', rfl, hcell'⟩ := (hD'.below hb).pos (by omega);have hck := hcell k hlt;have hck' := hcell' k hlt;have hlt' : (k : Int) < 2 := by omega
    have s0 := p0.cell 1;have s1 := p1.cell 1;have s2 := x0.cell 1;simp only [qC, qD] at s0 s1 s2;have hco := k2.cell k (by rw [upTo_len HL2.out hk]; exact hlt);have hfo := k2.free k;obtain ⟨d1, d2⟩ := bD k;obtain ⟨d3, d4⟩ := tD k;have e1 := GG2.out k hlt;have R := k2.set k (L2[k]?.getD 0);rw [upTo_succ HL2.out hlt, e1] at R;have Rb := hb.setCell (p := ⟨B2, k, none⟩) (by show w.heap.size <= B2; omega) (.int .i64 (D[k]?.getD 0 + n * D'[k]?.getD 0));have R0 := p0.setOther (B' := B2) (by omega) k (.int .i64 (D[k]?.getD 0 + n * D'[k]?.getD 0));have R1 := p1.setOther (B' := B2) (by omega) k (.int .i64 (D[k]?.getD 0 + n * D'[k]?.getD 0));have R2 := p2.setOther (B' := B2) (by omega) k (.int .i64 (D[k]?.getD 0 + n * D'[k]?.getD 0));have R3 := x0.setOther (B' := B2) (by omega) k (.int .i64 (D[k]?.getD 0 + n * D'[k]?.getD 0));have R4 := k1.setOther (B' := B2) (by omega) k (.int .i64 (D[k]?.getD 0 + n * D'[k]?.getD 0));clear hcell hcell' hD hD' e1 p0 p1 p2 x0 k1 k2 hb bD tD
    go_wp2_with fail
    go_region
    go_wp2
    go_roundw
    case rel => exact ⟨k + 1, by omega, by go_num, Rb.drew, by show w1.heap.size < (World.setCell _ _ _).heap.size; rw [size_setCell]; exact hz, R0, R1, R2, R3, R4, R⟩
    case measure => simp [intOf]; omega
   obtain rfl : k = 2 := by omega
   rw [upTo_end HL2.out (qE _)] at k2;have s0 := p0.cell 2;have s1 := p1.cell 2;have s2 := x0.cell 2;have s3 := x0.free 2;have s4 := x0.cell 0;have s5 := x0.cell 1;have r0 := p2.cell 0;have r1 := p2.cell 1;have r2 := p2.cell 2;have r3 := p2.free 0;have r4 := p2.free 1;have r5 := p2.free 2;simp only [qC, qD] at s0 s1 s2 s4 s5 r0 r1 r2;clear hD hD' bD tD p0 p1 p2 x0
   go_wp2
   refine bodyPost_ret (v := formV (some ⟨B1, 0, none⟩) 3 3 (some ⟨B2, 0, none⟩) 2 2 (K + n * K')) (by simp [results, Tryz.results132, go_sem, r0, r1, r2]) rfl ⟨B1, B2, rfl, ?_, by omega, h2, by omega, ?_, ?_⟩
   ·exact (((hb.setCell (by simp only []; omega) _).setCell (by simp only []; omega) _).setCell (by simp only []; omega) _).setCell (by simp only []; omega) _
   ·exact (((k1.so).so).so).so
   exact (((k2.so).so).so).so
def mulL (n : Int) (zs : List Int) : List Int := zs.map fun z => n * z
theorem mulL_get {zs : List Int} {i : Nat} (h : i < zs.length) : (mulL n zs)[i]?.getD 0 = n * zs[i]?.getD 0 := by
 simp [mulL, h]
theorem timesEach_any {l : Nat} (zs : List Int) {n : Int} {w : World} (h : Ints w a l zs) (hl : l <= 1048576) (ht : bndT 1000000000000000000 n zs) :
  Calls Tryz.prog 154 #[.slice a l cap, .int .i64 n] w fun e w' => e = .returned (.slice (some ⟨w.heap.size, 0, none⟩) l l) /\ Below w.heap.size w w' /\ Blk w' w.heap.size (mulL n zs) := by
 have HZ : Hid (zs.length = l) := h.1;have HM : Hid ((mulL n zs).length = l) := by show (mulL n zs).length = l; simp [mulL, h.1]
 obtain ⟨i0, hi, hz0, hz1, hz2⟩ := info_parts Tryz.infoInt
 go_enter Tryz.func154, Tryz.ntmps154
 go_wp2_with (at_make; refine wpList_make_full _ rfl (.tmp 9) (.tmp 9) 23 rfl w.heap.size 3 i0 (.int .i64 0) 1 Tryz.underlying23 hi hz0 hz1 .i64 .i64 _ _ l rfl rfl rfl rfl (by rw [hz2]; omega) (by unfold maxLen; omega) (qE _) ?_; intro w1 hown hgrow)
 have hb1 := Blk.made w l w1 hown;have HB : Below w.heap.size w w1 := (Below.refl _ _).grown hgrow (qE _) (by simp);clear hown hgrow hi hz0 hz1 hz2
 go_loopw [6, 7, 13] (fun _ _ i wr => ∃ k : Nat, k <= l /\ i = .int .i64 k /\ Below w.heap.size w wr /\ Blk wr w.heap.size (upTo (mulL n zs) l k)) (fun _ _ i _ => l - (intOf i).toNat)
 case atStart => exact ⟨0, Nat.zero_le _, rfl, HB, by rw [upTo_zero]; exact hb1⟩
 case round =>
  obtain ⟨k, hk, rfl, hnx, hblk⟩ := hrel
  by_cases hlt : k < l
  ·obtain ⟨b, off, rfl, hcell⟩ := (h.below hnx).pos (by omega);have hck := hcell k hlt;have hco := hblk.cell k (by rw [upTo_len HM.out hk]; exact hlt);have hfo := hblk.free k;obtain ⟨d1, d2⟩ := ht k;have R := hblk.set k ((mulL n zs)[k]?.getD 0);rw [upTo_succ HM.out hlt, mulL_get (by rw [HZ.out]; exact hlt)] at R;have R2 := hnx.setCell (p := ⟨w.heap.size, k, none⟩) (qE _) (.int .i64 (n * zs[k]?.getD 0));clear hcell hb1 HB h ht hblk hnx
   go_wp2
   go_roundw
   case rel => exact ⟨k + 1, by omega, by go_num, R2, R⟩
   case measure => simp [intOf]; omega
  go_wp2
  go_ret
  exact ⟨rfl, hnx, by rw [upTo_end HM.out (by omega)] at hblk; exact hblk⟩
theorem mulL_len (n : Int) (zs : List Int) : (mulL n zs).length = zs.length := by simp [mulL]
theorem wrap_id {x : Int} (h1 : -1000000000000000000 <= x) (h2 : x <= 1000000000000000000) : IntKind.i64.wrap x = x := by
 simp only [IntKind.wrap, IntKind.signed, IntKind.bits];simp
 omega
structure TimesH (w : World) (a : Option Addr) (cap : Nat) (c : Option Addr) (cap' : Nat) (K : Int) (w' : World) : Prop where
 p : Cel w' w.heap.size [.slice a 3 cap, .slice c 2 cap', .int .i64 K] 106
 r : Cel w' (w.heap.size + 1) [.slice none 0 0, .slice none 0 0, .int .i64 0] 106
 b : Below w.heap.size w w'
theorem TimesH.below {w3 : World} (h : TimesH w a cap c cap' K W) (b : Below W.heap.size W w3) : TimesH w a cap c cap' K w3 :=
 ⟨h.p.below b, h.r.below b, h.b.trans (b.mono h.b.size)⟩
theorem TimesH.drew (h : TimesH w a cap c cap' K W) : TimesH w a cap c cap' K W.drew := ⟨h.p, h.r, h.b.drew⟩
theorem TimesH.alloc (h : TimesH w a cap c cap' K W) (o : Obj) : TimesH w a cap c cap' K (W.alloc o) := h.below (bal)
theorem TimesH.set (h : TimesH w a cap c cap' K W) {X : Nat} (hX : w.heap.size + 1 < X) (i : Nat) (v : Value) : TimesH w a cap c cap' K (W.setCell ⟨X, i, none⟩ v) :=
 ⟨h.p.setOther (by omega) i v, h.r.setOther (by omega) i v, h.b.setCell (by show w.heap.size <= X; omega) v⟩
theorem Cel.trio {B : Nat} {x y z : Value} {t : TypeId} (h : Cel w B [x, y, z] t) : w.cell? ⟨B, 0, none⟩ = some x /\ w.cell? ⟨B, 1, none⟩ = some y /\ w.cell? ⟨B, 2, none⟩ = some z /\ w.frozen? ⟨B, 0, none⟩ = false /\ w.frozen? ⟨B, 1, none⟩ = false /\ w.frozen? ⟨B, 2, none⟩ = false := ⟨h.cell 0, h.cell 1, h.cell 2, h.free 0, h.free 1, h.free 2⟩
theorem TimesH.cells {w' : World} (h : TimesH w a cap c cap' K w') :
  w'.cell? ⟨w.heap.size, 0, none⟩ = some (.slice a 3 cap) /\ w'.cell? ⟨w.heap.size, 1, none⟩ = some (.slice c 2 cap') /\ w'.cell? ⟨w.heap.size, 2, none⟩ = some (.int .i64 K) := ⟨h.p.cell 0, h.p.cell 1, h.p.cell 2⟩
theorem TimesH.room {w' : World} (h : TimesH w a cap c cap' K w') :
  w'.cell? ⟨w.heap.size + 1, 0, none⟩ = some (.slice none 0 0) /\ w'.cell? ⟨w.heap.size + 1, 1, none⟩ = some (.slice none 0 0) /\ w'.cell? ⟨w.heap.size + 1, 2, none⟩ = some (.int .i64 0) /\ w'.frozen? ⟨w.heap.size + 1, 0, none⟩ = false /\ w'.frozen? ⟨w.heap.size + 1, 1, none⟩ = false /\ w'.frozen? ⟨w.heap.size + 1, 2, none⟩ = false := ⟨h.r.cell 0, h.r.cell 1, h.r.cell 2, h.r.free 0, h.r.free 1, h.r.free 2⟩
theorem times_any (C D : List Int) {n : Int} {w : World}
  (hC : Ints w a 3 C) (hD : Ints w c 2 D) (tC : bndT 1000000000000000000 n C) (tD : bndT 1000000000000000000 n D) (tK : -1000000000000000000 <= n * K /\ n * K <= 1000000000000000000) :
  Calls Tryz.prog 183 #[formV a 3 cap c 2 cap' K, .int .i64 n] w fun e w' => ∃ B1 B2, e = .returned (formV (some ⟨B1, 0, none⟩) 3 3 (some ⟨B2, 0, none⟩) 2 2 (n * K)) /\ Below w.heap.size w w' /\ w.heap.size <= B1 /\ B1 ≠ B2 /\ w.heap.size <= B2 /\ Blk w' B1 (mulL n C) /\ Blk w' B2 (mulL n D) := by
 obtain ⟨tK1, tK2⟩ := tK
 go_enter Tryz.func183, Tryz.ntmps183
 go_wp2_with fail
 have H0 : TimesH w a cap c cap' K (((w.alloc (Obj.cells #[Value.slice a 3 cap, Value.slice c 2 cap', Value.int IntKind.i64 K] 106)).alloc (Obj.cells #[Value.slice none 0 0, Value.slice none 0 0, Value.int IntKind.i64 0] 106)).drew) :=
  ⟨(Cel.new w _ _).alloc _, by have := Cel.new (w.alloc (Obj.cells #[Value.slice a 3 cap, Value.slice c 2 cap', Value.int IntKind.i64 K] 106)) [.slice none 0 0, .slice none 0 0, .int .i64 0] 106; rw [qA] at this; exact this, ((bal).alloc (by simp) _).drew⟩
 go_region_held3 (fun w' => w'.cell? ⟨w.heap.size, 0, none⟩ = some (.slice a 3 cap) /\ w'.cell? ⟨w.heap.size, 1, none⟩ = some (.slice c 2 cap') /\ w'.cell? ⟨w.heap.size, 2, none⟩ = some (.int .i64 K)) (first | assumption | go_keep)
  (first
   | (go_at_call_of 154 (Value.slice a 3 cap); refine (timesEach_any C (hC.below (TimesH.b (a := a) (c := c) (cap := cap) (cap' := cap') (K := K) (by assumption))) (by omega) tC).mono ?_; rintro e w3 ⟨rfl, b3, k3⟩; have h3 := TimesH.below (w := w) (a := a) (c := c) (cap := cap) (cap' := cap') (K := K) (by assumption) b3; have g3 := h3.cells; obtain ⟨x0, x1, x2, x3, x4, x5⟩ := h3.room)
   | (go_at_call_of 154 (Value.slice c 2 cap'); refine (timesEach_any D (hD.below (TimesH.b (a := a) (c := c) (cap := cap) (cap' := cap') (K := K) (by assumption))) (by omega) tD).mono ?_; rintro e w4 ⟨rfl, b4, k4⟩; have h4 := TimesH.below (w := w) (a := a) (c := c) (cap := cap) (cap' := cap') (K := K) (by assumption) b4; have g4 := h4.cells; obtain ⟨y0, y1, y2, y3, y4, y5⟩ := h4.room))
 have hw := wrap_id tK1 tK2;have e3 : ((w.alloc (Obj.cells #[Value.slice a 3 cap, Value.slice c 2 cap', Value.int IntKind.i64 K] 106)).alloc (Obj.cells #[Value.slice none 0 0, Value.slice none 0 0, Value.int IntKind.i64 0] 106)).drew.heap.size = w.heap.size + 1 + 1 := by show (World.alloc _ _).heap.size = _; rw [qA, qA]
 rw [e3] at k3;have k3' := k3.below b4;have l3 := k3.lt;have l4 := k4.lt;have q0 := h4.r.free 0;clear e3 b3 b4 h3 g3 H0 k3
 go_wp2
 refine bodyPost_ret (v := formV (some ⟨w.heap.size + 1 + 1, 0, none⟩) 3 3 (some ⟨w3.heap.size, 0, none⟩) 2 2 (n * K)) (by simp [results, Tryz.results183, go_sem, y0, y1, y2, hw]) rfl ⟨_, _, rfl, ?_, by omega, by omega, by omega, ?_, ?_⟩
 ·exact ((h4.b.setCell (by simp only []; omega) _).setCell (by simp only []; omega) _).setCell (by simp only []; omega) _
 ·exact ((k3'.so).so).so
 exact ((k4.so).so).so
def keepL (b : Bool) (L : List Int) : List Int := if b then L else []
def keepK (b : Bool) (K : Int) : Int := if b then K else 0
theorem keepL_no (L : List Int) : keepL false L = [] := rfl
theorem keepK_no (K : Int) : keepK false K = 0 := rfl
theorem orN_yes {n : Nat} {m : Nat} (C D : List Int) {w : World} (hC : Ints w a n C) (hD : Ints w c m D) (hn : n <= 1048576) (hm : m <= 1048576) (h : formB n m C D K = true) :
  Calls Tryz.prog 184 #[formV a n cap c m cap' K] w fun e w' => e = .returned (formV a n cap c m cap' K) /\ Below w.heap.size w w' := by
 go_enter Tryz.func184, Tryz.ntmps184
 go_wp2_with fail
 refine (iok_any C D ((hC.alloc _).alloc _) ((hD.alloc _).alloc _) hn hm).mono ?_;rintro e w1 ⟨rfl, b1⟩;have p0 := ((Cel.new w _ _).alloc _).below b1;have p1 := (Cel.new (w.alloc _) _ _).below b1;rw [qA] at p1;have hb : Below w.heap.size w w1 := ((bal).alloc (by simp) _).trans (b1.mono (by simp; omega));have c0 := p0.cell 0;have c1 := p0.cell 1;have c2 := p0.cell 2;have r0 := p1.cell 0;have r1 := p1.cell 1;have r2 := p1.cell 2;have r3 := p1.free 0;have r4 := p1.free 1;have r5 := p1.free 2;simp only [qC, qD] at c0 c1 c2 r0 r1 r2
 go_wp2
 refine bodyPost_ret (v := formV a n cap c m cap' K) (by simp [results, Tryz.results184, go_sem, r0, r1, r2]) rfl ⟨rfl, ?_⟩
 exact ((hb.setCell (by simp only []; omega) _).setCell (by simp only []; omega) _).setCell (by simp only []; omega) _
theorem orN_no {n : Nat} {m : Nat} (C D : List Int) {w : World} (hC : Ints w a n C) (hD : Ints w c m D) (hn : n <= 1048576) (hm : m <= 1048576) (h : formB n m C D K = false) :
  Calls Tryz.prog 184 #[formV a n cap c m cap' K] w fun e w' => e = .returned (formV none 0 0 none 0 0 0) /\ Below w.heap.size w w' := by
 go_enter Tryz.func184, Tryz.ntmps184
 go_wp2_with fail
 refine (iok_any C D ((hC.alloc _).alloc _) ((hD.alloc _).alloc _) hn hm).mono ?_;rintro e w1 ⟨rfl, b1⟩;have p1 := (Cel.new (w.alloc _) _ _).below b1;rw [qA] at p1;have hb : Below w.heap.size w w1 := ((bal).alloc (by simp) _).trans (b1.mono (by simp; omega));have r0 := p1.cell 0;have r1 := p1.cell 1;have r2 := p1.cell 2;have r3 := p1.free 0;have r4 := p1.free 1;have r5 := p1.free 2;simp only [qC, qD] at r0 r1 r2
 go_wp2
 refine bodyPost_ret (v := formV none 0 0 none 0 0 0) (by simp [results, Tryz.results184, go_sem, r0, r1, r2]) rfl ⟨rfl, ?_⟩
 exact ((hb.setCell (by simp only []; omega) _).setCell (by simp only []; omega) _).setCell (by simp only []; omega) _
def timOk (n m : Nat) (C D : List Int) (K k : Int) : Bool := formB n m C D K && inB k (-10000000) 10000000 && formB 3 2 (mulL k C) (mulL k D) (k * K)
theorem tim_bnd {C : List Int} (h : bnd 10000000 C) (h1 : -10000000 <= k) (h2 : k <= 10000000) : bndT 1000000000000000000 k C := by
 intro i;have := bndT_of h h1 h2 (by omega) (by omega) i
 omega
theorem tim_num (a1 : -10000000 <= K) (a2 : K <= 10000000) (h1 : -10000000 <= k) (h2 : k <= 10000000) : -1000000000000000000 <= k * K /\ k * K <= 1000000000000000000 := by
 have hx' : k.natAbs <= 10000000 := by omega
 have hy' : K.natAbs <= 10000000 := by omega
 have hm : (k * K).natAbs <= 10000000 * 10000000 := by rw [Int.natAbs_mul]; exact Nat.mul_le_mul hx' hy'
 omega
theorem itim_any (a : Option Addr) (n cap : Nat) (c : Option Addr) (m cap' : Nat) (K : Int) {C D : List Int} (k : Int) (w : World) (hC : Ints w a n C) (hD : Ints w c m D) (hn : n <= 1048576) (hm : m <= 1048576) :
  Calls Tryz.prog 180 #[formV a n cap c m cap' K, .int .i64 k] w fun e w' => Res w w' e (keepL (timOk n m C D K k) (mulL k C)) (keepL (timOk n m C D K k) (mulL k D)) (keepK (timOk n m C D K k) (k * K)) := by
 have bo : ∀ o o' : Obj, Below w.heap.size w ((w.alloc o).alloc o') := fun o o' => (bal).alloc (by simp) _
 cases h1 : formB n m C D K
 ·have ht : timOk n m C D K k = false := by simp [timOk, h1]
  rw [ht, keepL_no, keepL_no, keepK_no]
  go_enter Tryz.func180, Tryz.ntmps180
  go_wp2_with fail
  refine (iok_any C D ((hC.alloc _).alloc _) ((hD.alloc _).alloc _) hn hm).mono ?_;rintro e w1 ⟨rfl, b1⟩;have p1 := (Cel.new (w.alloc _) _ _).below b1;rw [qA] at p1;have hb : Below w.heap.size w w1 := (bo _ _).trans (b1.mono (by simp; omega));have r0 := p1.cell 0;have r1 := p1.cell 1;have r2 := p1.cell 2;have r3 := p1.free 0;have r4 := p1.free 1;have r5 := p1.free 2;simp only [qC, qD] at r0 r1 r2
  go_wp2
  refine bodyPost_ret (v := formV none 0 0 none 0 0 0) (by simp [results, Tryz.results180, go_sem, r0, r1, r2]) rfl (Res.none rfl ?_)
  exact ((hb.setCell (by simp only []; omega) _).setCell (by simp only []; omega) _).setCell (by simp only []; omega) _
 cases h2 : inB k (-10000000) 10000000
 ·have ht : timOk n m C D K k = false := by simp [timOk, h2]
  rw [ht, keepL_no, keepL_no, keepK_no];have ha : allB 10000000 [k] = false := by rw [allB_one]; exact h2
  go_enter Tryz.func180, Tryz.ntmps180
  go_wp2_with fail
  refine (iok_any C D ((hC.alloc _).alloc _) ((hD.alloc _).alloc _) hn hm).mono ?_;rintro e w1 ⟨rfl, b1⟩;have p1 := (Cel.new (w.alloc _) _ _).below b1;rw [qA] at p1;have hb : Below w.heap.size w w1 := (bo _ _).trans (b1.mono (by simp; omega));have l1 := p1.lt
  go_wp2_with fail
  refine (within_any (some ⟨w1.heap.size, 0, none⟩) 1 1 [k] ?_ (by omega)).mono ?_
  ·refine ⟨rfl, fun i hi => ⟨w1.heap.size, 0, rfl, ?_⟩⟩;obtain rfl : i = 0 := by omega
   simp [go_sem]
  rintro e w2 ⟨rfl, rfl⟩;have r0 := p1.cell 0;have r1 := p1.cell 1;have r2 := p1.cell 2;have r3 := p1.free 0;have r4 := p1.free 1;have r5 := p1.free 2;simp only [qC, qD] at r0 r1 r2
  go_wp2
  refine bodyPost_ret (v := formV none 0 0 none 0 0 0) (by simp [results, Tryz.results180, go_sem, r0, r1, r2, l1]) rfl (Res.none rfl ?_)
  exact (((hb.setCell (by simp only []; omega) _).setCell (by simp only []; omega) _).setCell (by simp only []; omega) _).alloc (by have := hb.size; rw [size_setCell, size_setCell, size_setCell]; omega) _
 obtain ⟨rfl, rfl, bC, bD, bK1, bK2⟩ := formB_elim h1;obtain ⟨hk1, hk2⟩ := inB_iff.1 h2;have ha : allB 10000000 [k] = true := by rw [allB_one]; exact h2
 have tC := tim_bnd bC hk1 hk2;have tD := tim_bnd bD hk1 hk2;have tK := tim_num bK1 bK2 hk1 hk2;have LC : (mulL k C).length = 3 := by rw [mulL_len]; exact hC.1
 have LD : (mulL k D).length = 2 := by rw [mulL_len]; exact hD.1
 have ht : timOk 3 2 C D K k = formB 3 2 (mulL k C) (mulL k D) (k * K) := by simp [timOk, h1, h2]
 cases h3 : formB 3 2 (mulL k C) (mulL k D) (k * K)
 all_goals
  rw [ht, h3];clear ht
  go_enter Tryz.func180, Tryz.ntmps180
  go_wp2_with fail
  refine (iok_any C D ((hC.alloc _).alloc _) ((hD.alloc _).alloc _) hn hm).mono ?_;rintro e w1 ⟨rfl, b1⟩;have p0 := ((Cel.new w _ _).alloc _).below b1;have p1 := (Cel.new (w.alloc _) _ _).below b1;rw [qA] at p1;have hb : Below w.heap.size w w1 := (bo _ _).trans (b1.mono (by simp; omega));have l1 := p1.lt;clear b1
  go_wp2_with fail
  refine (within_any (some ⟨w1.heap.size, 0, none⟩) 1 1 [k] ?_ (by omega)).mono ?_
  ·refine ⟨rfl, fun i hi => ⟨w1.heap.size, 0, rfl, ?_⟩⟩;obtain rfl : i = 0 := by omega
   simp [go_sem]
  rintro e w2 ⟨rfl, rfl⟩;have c0 := p0.cell 0;have c1 := p0.cell 1;have c2 := p0.cell 2;simp only [qC, qD] at c0 c1 c2;have l0 := p0.lt
  go_wp2_with fail
  refine (times_any C D ((hC.below hb).alloc _) ((hD.below hb).alloc _) tC tD tK).mono ?_;rintro e w3 ⟨B1, B2, rfl, b3, g1, g2, g3, k1, k2⟩;rw [qA] at g1 g3;have p3 := (p1.alloc _).below b3;have hb3 : Below w.heap.size w w3 := (hb.alloc hb.size _).trans (b3.mono (by have := hb.size; simp; omega));clear b3 c0 c1 c2 p0 p1
  go_wp2_with fail
  first
   | (refine (orN_no (mulL k C) (mulL k D) (k1.ints' LC) (k2.ints' LD) hn hm h3).mono ?_)
   | (refine (orN_yes (mulL k C) (mulL k D) (k1.ints' LC) (k2.ints' LD) hn hm h3).mono ?_)
  rintro e w4 ⟨rfl, b4⟩;have p4 := p3.below b4;have k1' := k1.below b4;have k2' := k2.below b4;have hb4 := btr hb3 b4;have hw1 := hb.size;have r0 := p4.cell 0;have r1 := p4.cell 1;have r2 := p4.cell 2;have r3 := p4.free 0;have r4 := p4.free 1;have r5 := p4.free 2;simp only [qC, qD] at r0 r1 r2;clear b4 p3 p4 k1 k2 hb3 tC tD tK bC bD
  go_wp2
 ·refine bodyPost_ret (v := formV none 0 0 none 0 0 0) (by simp [results, Tryz.results180, go_sem, r0, r1, r2]) rfl (Res.none rfl ?_)
  exact ((hb4.setCell (by simp only []; omega) _).setCell (by simp only []; omega) _).setCell (by simp only []; omega) _
 refine bodyPost_ret (v := formV (some ⟨B1, 0, none⟩) 3 3 (some ⟨B2, 0, none⟩) 2 2 (k * K)) (by simp [results, Tryz.results180, go_sem, r0, r1, r2]) rfl (Res.of (B1 := B1) (B2 := B2) rfl LC LD ?_ (by omega) g2 (by omega) ?_ ?_)
 ·exact ((hb4.setCell (by simp only []; omega) _).setCell (by simp only []; omega) _).setCell (by simp only []; omega) _
 ·exact ((k1'.so).so).so
 exact ((k2'.so).so).so
theorem lin_zero3 {C : List Int} (h : C.length = 3) : lin [0, 0, 0] C k = mulL k C := by
 match C, h with
 | [x, y, z], _ => simp [lin, mulL]
theorem lin_zero2 {D : List Int} (h : D.length = 2) : lin [0, 0] D k = mulL k D := by
 match D, h with
 | [x, y], _ => simp [lin, mulL]
theorem bnd_lit3 : bnd 1000000000000000000 [0, 0, 0] := fun i => by have := bnd_zeros 3 i; simp only [List.replicate] at this; omega
theorem bnd_lit2 : bnd 1000000000000000000 [0, 0] := fun i => by have := bnd_zeros 2 i; simp only [List.replicate] at this; omega
end Go.Proofs.YtfmpcihghlnlnaaGreatDoor
