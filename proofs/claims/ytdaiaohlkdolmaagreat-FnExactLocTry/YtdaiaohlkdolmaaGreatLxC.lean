/-
  Lemmas that the claim's last text rests on.
-/
import Derived.BigRegion
import Derived.Deep.AppendLies
import Derived.Test.YtdaiaohlkdolmaaGreatLxB
namespace Go.Proofs.YtdaiaohlkdolmaaGreat
open Go.RowKit
open World renaming size_alloc → qA
open List renaming getElem?_eq_getElem → qB, getElem?_cons_zero → qC, getElem?_cons_succ → qD
open Nat renaming le_refl → qE
set_option linter.unusedVariables false
set_option maxRecDepth 100000
set_option maxHeartbeats 25600000
variable {C D xs ys : List Int} {K n : Int} {W w w' : World} {a ad c : Option Addr} {cap cap' k m : Nat}
def lin (xs ys : List Int) (n : Int) : List Int := List.zipWith (fun x y => x + n * y) xs ys
theorem lin_len (hx : xs.length = k) (hy : ys.length = k) : (lin xs ys n).length = k := by simp [lin, hx, hy]
theorem lin_get {i : Nat} (hx : xs.length = k) (hy : ys.length = k) (hi : i < k) : (lin xs ys n)[i]?.getD 0 = xs[i]?.getD 0 + n * ys[i]?.getD 0 := by
 have h1 : i < xs.length := by omega
 have h2 : i < ys.length := by omega
 have h3 : i < (lin xs ys n).length := by rw [lin_len hx hy]; exact hi
 rw [qB h1, qB h2, qB h3];simp [lin]
def bndT (P n : Int) (ys : List Int) : Prop := ∀ i : Nat, -P <= n * ys[i]?.getD 0 /\ n * ys[i]?.getD 0 <= P
theorem bndT_of {M N : Int} (hy : bnd M ys) (h1 : -N <= n) (h2 : n <= N) (h0 : 0 <= M) (h3 : 0 <= N) : bndT (N * M) n ys := by
 intro i;obtain ⟨b1, b2⟩ := hy i;generalize ys[i]?.getD 0 = y at *;have hx' : n.natAbs <= N.toNat := by omega
 have hy' : y.natAbs <= M.toNat := by omega
 have hm : (n * y).natAbs <= N.toNat * M.toNat := by rw [Int.natAbs_mul]; exact Nat.mul_le_mul hx' hy'
 have e : ((N.toNat * M.toNat : Nat) : Int) = N * M := by rw [Int.natCast_mul, Int.toNat_of_nonneg h3, Int.toNat_of_nonneg h0]
 omega
theorem l1sum_any (C D : List Int) {a' : Option Addr} {cap2 : Nat} {c' : Option Addr} {cap3 : Nat} {K' : Int} (C' D' : List Int) {n : Int} {w : World}
  (hC : Ints w a 3 C) (hD : Ints w c 2 D) (hC' : Ints w a' 3 C') (hD' : Ints w c' 2 D') (bC : bnd 1000000000000000000 C) (bD : bnd 1000000000000000000 D) (bK : -1000000000000000000 <= K /\ K <= 1000000000000000000)
  (tC : bndT 1000000000000000000 n C') (tD : bndT 1000000000000000000 n D') (tK : -1000000000000000000 <= n * K' /\ n * K' <= 1000000000000000000) :
  Calls Tryz.prog 107 #[formV a 3 cap c 2 cap' K, formV a' 3 cap2 c' 2 cap3 K', .int .i64 n] w fun e w' => ∃ B1 B2, e = .returned (formV (some ⟨B1, 0, none⟩) 3 3 (some ⟨B2, 0, none⟩) 2 2 (K + n * K')) /\ Below w.heap.size w w' /\ w.heap.size <= B1 /\ B1 ≠ B2 /\ w.heap.size <= B2 /\ Blk w' B1 (lin C C' n) /\ Blk w' B2 (lin D D' n) := by
 have LC := lin_len (n := n) hC.1 hC'.1;have LD := lin_len (n := n) hD.1 hD'.1;have HC : Hid _ := hC.1;have HC' : Hid _ := hC'.1;have HD : Hid _ := hD.1;have HD' : Hid _ := hD'.1;obtain ⟨L1, hL1⟩ : ∃ L, L = lin C C' n := ⟨_, rfl⟩
 obtain ⟨L2, hL2⟩ : ∃ L, L = lin D D' n := ⟨_, rfl⟩
 have G1 : ∀ i, i < 3 -> L1[i]?.getD 0 = C[i]?.getD 0 + n * C'[i]?.getD 0 := fun i hi => by rw [hL1]; exact lin_get HC.out HC'.out hi
 have G2 : ∀ i, i < 2 -> L2[i]?.getD 0 = D[i]?.getD 0 + n * D'[i]?.getD 0 := fun i hi => by rw [hL2]; exact lin_get HD.out HD'.out hi
 rw [<- hL1] at LC;rw [<- hL2] at LD;rw [<- hL1, <- hL2];have HL1 : Hid (L1.length = 3) := LC;have HL2 : Hid (L2.length = 2) := LD;have GG1 : Hid _ := G1;have GG2 : Hid _ := G2;clear LC LD hL1 hL2 G1 G2;obtain ⟨bK1, bK2⟩ := bK;obtain ⟨tK1, tK2⟩ := tK
 go_enter Tryz.func107, Tryz.ntmps107
 go_wp2_with fail
 refine (szero_any).mono ?_;rintro e w1 ⟨B1, B2, rfl, b1, h1, h2, h3, k1, k2⟩;rw [qA, qA, qA] at h1 h3;have p0 := (((Cel.new w _ _).alloc _).alloc _).below b1;have p1 := ((Cel.new (w.alloc _) _ _).alloc _).below b1;have p2 := (Cel.new ((w.alloc _).alloc _) _ _).below b1;rw [qA] at p1;rw [qA, qA] at p2;have hb : Below w.heap.size w w1 := (((bal).alloc (by simp) _).alloc (by simp; omega) _).trans (b1.mono (by simp; omega));have hX1 := k1.lt;have hX2 := k2.lt;have hX0 : w.heap.size + 1 + 1 < w1.heap.size := p2.lt;clear b1
 go_wp2_with fail
 go_loopw [8] (fun i wr => ∃ k : Nat, k <= 3 /\ i = .int .i64 k /\ Below w.heap.size w wr /\ w1.heap.size < wr.heap.size /\ Cel wr w.heap.size [.slice a 3 cap, .slice c 2 cap', .int .i64 K] 81 /\ Cel wr (w.heap.size + 1) [.slice a' 3 cap2, .slice c' 2 cap3, .int .i64 K'] 81 /\ Cel wr (w.heap.size + 1 + 1) [.slice none 0 0, .slice none 0 0, .int .i64 0] 81 /\ Cel wr w1.heap.size [.slice (some ⟨B1, 0, none⟩) 3 3, .slice (some ⟨B2, 0, none⟩) 2 2, .int .i64 0] 81 /\ Blk wr B1 (upTo L1 3 k) /\ Blk wr B2 [0, 0]) (fun i _ => 3 - (intOf i).toNat)
 case atStart => exact ⟨0, by omega, rfl, hb.alloc hb.size _, by simp, p0.alloc _, p1.alloc _, p2.alloc _, Cel.new w1 _ _, by rw [upTo_zero]; exact k1.alloc _, k2.alloc _⟩
 case round =>
  clear p0 p1 p2 hb k1 k2;obtain ⟨k, hk, rfl, hb, hz, p0, p1, p2, x0, k1, k2⟩ := hrel
  by_cases hlt : k < 3
  ·obtain ⟨b, off, rfl, hcell⟩ := (hC.below hb).pos (by omega);obtain ⟨b', off', rfl, hcell'⟩ := (hC'.below hb).pos (by omega);have hck := hcell k hlt;have hck' := hcell' k hlt;have hlt' : (k : Int) < 3 := by omega
   have s0 := p0.cell 0;have s1 := p1.cell 0;have s2 := x0.cell 0;simp only [qC] at s0 s1 s2;have hco := k1.cell k (by rw [upTo_len HL1.out hk]; exact hlt);have hfo := k1.free k;obtain ⟨d1, d2⟩ := bC k;obtain ⟨d3, d4⟩ := tC k;have e1 := GG1.out k hlt;have R := k1.set k (L1[k]?.getD 0);rw [upTo_succ HL1.out hlt, e1] at R;have Rb := hb.setCell (p := ⟨B1, k, none⟩) (by show w.heap.size <= B1; omega) (.int .i64 (C[k]?.getD 0 + n * C'[k]?.getD 0));have R0 := p0.setOther (B' := B1) (by omega) k (.int .i64 (C[k]?.getD 0 + n * C'[k]?.getD 0));have R1 := p1.setOther (B' := B1) (by omega) k (.int .i64 (C[k]?.getD 0 + n * C'[k]?.getD 0));have R2 := p2.setOther (B' := B1) (by omega) k (.int .i64 (C[k]?.getD 0 + n * C'[k]?.getD 0));have R3 := x0.setOther (B' := B1) (by omega) k (.int .i64 (C[k]?.getD 0 + n * C'[k]?.getD 0));have R4 := k2.setOther (B' := B1) (by omega) k (.int .i64 (C[k]?.getD 0 + n * C'[k]?.getD 0));clear hcell hcell' hC hD hC' hD' e1 p0 p1 p2 x0 k1 k2 hb bC bD tC tD
   go_wp2_with fail
   go_region
   go_wp2
   go_roundw
   case rel => exact ⟨k + 1, by omega, by go_num, Rb.drew, by show w1.heap.size < (World.setCell _ _ _).heap.size; rw [size_setCell]; exact hz, R0, R1, R2, R3, R, R4⟩
   case measure => simp [intOf]; omega
  obtain rfl : k = 3 := by omega
  rw [upTo_end HL1.out (qE _)] at k1;clear hC hC' bC tC
  go_wp2_with fail
  go_loopw [9] (fun i wr => ∃ k : Nat, k <= 2 /\ i = .int .i64 k /\ Below w.heap.size w wr /\ w1.heap.size < wr.heap.size /\ Cel wr w.heap.size [.slice a 3 cap, .slice c 2 cap', .int .i64 K] 81 /\ Cel wr (w.heap.size + 1) [.slice a' 3 cap2, .slice c' 2 cap3, .int .i64 K'] 81 /\ Cel wr (w.heap.size + 1 + 1) [.slice none 0 0, .slice none 0 0, .int .i64 0] 81 /\ Cel wr w1.heap.size [.slice (some ⟨B1, 0, none⟩) 3 3, .slice (some ⟨B2, 0, none⟩) 2 2, .int .i64 0] 81 /\ Blk wr B1 L1 /\ Blk wr B2 (upTo L2 2 k)) (fun i _ => 2 - (intOf i).toNat)
  case atStart => exact ⟨0, by omega, rfl, hb, hz, p0, p1, p2, x0, k1, by rw [upTo_zero]; exact k2⟩
  case round =>
   clear p0 p1 p2 hb k1 k2 x0 hz;obtain ⟨k, hk, rfl, hb, hz, p0, p1, p2, x0, k1, k2⟩ := hrel
   by_cases hlt : k < 2
   ·obtain ⟨b, off, rfl, hcell⟩ := (hD.below hb).pos (by omega);obtain ⟨b', off', rfl, hcell'⟩ := (hD'.below hb).pos (by omega);have hck := hcell k hlt;have hck' := hcell' k hlt;have hlt' : (k : Int) < 2 := by omega
    have s0 := p0.cell 1;have s1 := p1.cell 1;have s2 := x0.cell 1;simp only [qC, qD] at s0 s1 s2;have hco := k2.cell k (by rw [upTo_len HL2.out hk]; exact hlt);have hfo := k2.free k;obtain ⟨d1, d2⟩ := bD k;obtain ⟨d3, d4⟩ := tD k;have e1 := GG2.out k hlt;have R := k2.set k (L2[k]?.getD 0);rw [upTo_succ HL2.out hlt, e1] at R;have Rb := hb.setCell (p := ⟨B2, k, none⟩) (by show w.heap.size <= B2; omega) (.int .i64 (D[k]?.getD 0 + n * D'[k]?.getD 0));have R0 := p0.setOther (B' := B2) (by omega) k (.int .i64 (D[k]?.getD 0 + n * D'[k]?.getD 0));have R1 := p1.setOther (B' := B2) (by omega) k (.int .i64 (D[k]?.getD 0 + n * D'[k]?.getD 0));have R2 := p2.setOther (B' := B2) (by omega) k (.int .i64 (D[k]?.getD 0 + n * D'[k]?.getD 0));have R3 := x0.setOther (B' := B2) (by omega) k (.int .i64 (D[k]?.getD 0 + n * D'[k]?.getD 0));have R4 := k1.setOther (B' := B2) (by omega) k (.int .i64 (D[k]?.getD 0 + n * D'[k]?.getD 0));clear hcell hcell' hD hD' e1 p0 p1 p2 x0 k1 k2 hb bD tD
    go_wp2_with fail
    go_region
    go_wp2
    go_roundw
    case rel => exact ⟨k + 1, by omega, by go_num, Rb.drew, by show w1.heap.size < (World.setCell _ _ _).heap.size; rw [size_setCell]; exact hz, R0, R1, R2, R3, R4, R⟩
    case measure => simp [intOf]; omega
   obtain rfl : k = 2 := by omega
   rw [upTo_end HL2.out (qE _)] at k2;have s0 := p0.cell 2;have s1 := p1.cell 2;have s2 := x0.cell 2;have s3 := x0.free 2;have s4 := x0.cell 0;have s5 := x0.cell 1;have r0 := p2.cell 0;have r1 := p2.cell 1;have r2 := p2.cell 2;have r3 := p2.free 0;have r4 := p2.free 1;have r5 := p2.free 2;simp only [qC, qD] at s0 s1 s2 s4 s5 r0 r1 r2;clear hD hD' bD tD p0 p1 p2 x0
   go_wp2
   refine bodyPost_ret (v := formV (some ⟨B1, 0, none⟩) 3 3 (some ⟨B2, 0, none⟩) 2 2 (K + n * K')) (by simp [results, Tryz.results107, go_sem, r0, r1, r2]) rfl ⟨B1, B2, rfl, ?_, by omega, h2, by omega, ?_, ?_⟩
   ·exact (((hb.setCell (by simp only []; omega) _).setCell (by simp only []; omega) _).setCell (by simp only []; omega) _).setCell (by simp only []; omega) _
   ·exact (((k1.so).so).so).so
   exact (((k2.so).so).so).so
def mulL (n : Int) (zs : List Int) : List Int := zs.map fun z => n * z
theorem mulL_get {zs : List Int} {i : Nat} (h : i < zs.length) : (mulL n zs)[i]?.getD 0 = n * zs[i]?.getD 0 := by
 simp [mulL, h]
theorem timesEach_any {l : Nat} (zs : List Int) {n : Int} {w : World} (h : Ints w a l zs) (hl : l <= 1048576) (ht : bndT 1000000000000000000 n zs) :
  Calls Tryz.prog 112 #[.slice a l cap, .int .i64 n] w fun e w' => e = .returned (.slice (some ⟨w.heap.size, 0, none⟩) l l) /\ Below w.heap.size w w' /\ Blk w' w.heap.size (mulL n zs) := by
 have HZ : Hid (zs.length = l) := h.1;have HM : Hid ((mulL n zs).length = l) := by show (mulL n zs).length = l; simp [mulL, h.1]
 obtain ⟨i0, hi, hz0, hz1, hz2⟩ := info_parts Tryz.infoInt
 go_enter Tryz.func112, Tryz.ntmps112
 go_wp2_with (at_make; refine wpList_make_full _ rfl (.tmp 9) (.tmp 9) 23 rfl w.heap.size 3 i0 (.int .i64 0) 1 Tryz.underlying23 hi hz0 hz1 .i64 .i64 _ _ l rfl rfl rfl rfl (by rw [hz2]; omega) (by unfold maxLen; omega) (qE _) ?_; intro w1 hown hgrow)
 have hb1 := Blk.made w l w1 hown;have HB : Below w.heap.size w w1 := (Below.refl _ _).grown hgrow (qE _) (by simp);clear hown hgrow hi hz0 hz1 hz2
 go_loopw [6, 7, 13] (fun _ _ i wr => ∃ k : Nat, k <= l /\ i = .int .i64 k /\ Below w.heap.size w wr /\ Blk wr w.heap.size (upTo (mulL n zs) l k)) (fun _ _ i _ => l - (intOf i).toNat)
 case atStart => exact ⟨0, Nat.zero_le _, rfl, HB, by rw [upTo_zero]; exact hb1⟩
 case round =>
  obtain ⟨k, hk, rfl, hnx, hblk⟩ := hrel
  by_cases hlt : k < l
  ·obtain ⟨b, off, rfl, hcell⟩ := (h.below hnx).pos (by omega);have hck := hcell k hlt;have hco := hblk.cell k (by rw [upTo_len HM.out hk]; exact hlt);have hfo := hblk.free k;obtain ⟨d1, d2⟩ := ht k;have R := hblk.set k ((mulL n zs)[k]?.getD 0);rw [upTo_succ HM.out hlt, mulL_get (by rw [HZ.out]; exact hlt)] at R;have R2 := hnx.setCell (p := ⟨w.heap.size, k, none⟩) (qE _) (.int .i64 (n * zs[k]?.getD 0));clear hcell hb1 HB h ht hblk hnx
   go_wp2
   go_roundw
   case rel => exact ⟨k + 1, by omega, by go_num, R2, R⟩
   case measure => simp [intOf]; omega
  go_wp2
  go_ret
  exact ⟨rfl, hnx, by rw [upTo_end HM.out (by omega)] at hblk; exact hblk⟩
theorem mulL_len (n : Int) (zs : List Int) : (mulL n zs).length = zs.length := by simp [mulL]
theorem wrap_id {x : Int} (h1 : -1000000000000000000 <= x) (h2 : x <= 1000000000000000000) : IntKind.i64.wrap x = x := by
 simp only [IntKind.wrap, IntKind.signed, IntKind.bits];simp
 omega
structure TimesH (w : World) (a : Option Addr) (cap : Nat) (c : Option Addr) (cap' : Nat) (K : Int) (w' : World) : Prop where
 p : Cel w' w.heap.size [.slice a 3 cap, .slice c 2 cap', .int .i64 K] 81
 r : Cel w' (w.heap.size + 1) [.slice none 0 0, .slice none 0 0, .int .i64 0] 81
 b : Below w.heap.size w w'
theorem TimesH.below {w3 : World} (h : TimesH w a cap c cap' K W) (b : Below W.heap.size W w3) : TimesH w a cap c cap' K w3 :=
 ⟨h.p.below b, h.r.below b, h.b.trans (b.mono h.b.size)⟩
theorem TimesH.drew (h : TimesH w a cap c cap' K W) : TimesH w a cap c cap' K W.drew := ⟨h.p, h.r, h.b.drew⟩
theorem TimesH.alloc (h : TimesH w a cap c cap' K W) (o : Obj) : TimesH w a cap c cap' K (W.alloc o) := h.below (bal)
theorem TimesH.set (h : TimesH w a cap c cap' K W) {X : Nat} (hX : w.heap.size + 1 < X) (i : Nat) (v : Value) : TimesH w a cap c cap' K (W.setCell ⟨X, i, none⟩ v) :=
 ⟨h.p.setOther (by omega) i v, h.r.setOther (by omega) i v, h.b.setCell (by show w.heap.size <= X; omega) v⟩
theorem Cel.trio {B : Nat} {x y z : Value} {t : TypeId} (h : Cel w B [x, y, z] t) : w.cell? ⟨B, 0, none⟩ = some x /\ w.cell? ⟨B, 1, none⟩ = some y /\ w.cell? ⟨B, 2, none⟩ = some z /\ w.frozen? ⟨B, 0, none⟩ = false /\ w.frozen? ⟨B, 1, none⟩ = false /\ w.frozen? ⟨B, 2, none⟩ = false := ⟨h.cell 0, h.cell 1, h.cell 2, h.free 0, h.free 1, h.free 2⟩
theorem TimesH.cells (h : TimesH w a cap c cap' K w') :
  w'.cell? ⟨w.heap.size, 0, none⟩ = some (.slice a 3 cap) /\ w'.cell? ⟨w.heap.size, 1, none⟩ = some (.slice c 2 cap') /\ w'.cell? ⟨w.heap.size, 2, none⟩ = some (.int .i64 K) := ⟨h.p.cell 0, h.p.cell 1, h.p.cell 2⟩
theorem TimesH.room (h : TimesH w a cap c cap' K w') :
  w'.cell? ⟨w.heap.size + 1, 0, none⟩ = some (.slice none 0 0) /\ w'.cell? ⟨w.heap.size + 1, 1, none⟩ = some (.slice none 0 0) /\ w'.cell? ⟨w.heap.size + 1, 2, none⟩ = some (.int .i64 0) /\ w'.frozen? ⟨w.heap.size + 1, 0, none⟩ = false /\ w'.frozen? ⟨w.heap.size + 1, 1, none⟩ = false /\ w'.frozen? ⟨w.heap.size + 1, 2, none⟩ = false := ⟨h.r.cell 0, h.r.cell 1, h.r.cell 2, h.r.free 0, h.r.free 1, h.r.free 2⟩
theorem times_any (C D : List Int) {n : Int} {w : World}
  (hC : Ints w a 3 C) (hD : Ints w c 2 D) (tC : bndT 1000000000000000000 n C) (tD : bndT 1000000000000000000 n D) (tK : -1000000000000000000 <= n * K /\ n * K <= 1000000000000000000) :
  Calls Tryz.prog 133 #[formV a 3 cap c 2 cap' K, .int .i64 n] w fun e w' => ∃ B1 B2, e = .returned (formV (some ⟨B1, 0, none⟩) 3 3 (some ⟨B2, 0, none⟩) 2 2 (n * K)) /\ Below w.heap.size w w' /\ w.heap.size <= B1 /\ B1 ≠ B2 /\ w.heap.size <= B2 /\ Blk w' B1 (mulL n C) /\ Blk w' B2 (mulL n D) := by
 obtain ⟨tK1, tK2⟩ := tK
 go_enter Tryz.func133, Tryz.ntmps133
 go_wp2_with fail
 have H0 : TimesH w a cap c cap' K (((w.alloc (Obj.cells #[Value.slice a 3 cap, Value.slice c 2 cap', Value.int IntKind.i64 K] 81)).alloc (Obj.cells #[Value.slice none 0 0, Value.slice none 0 0, Value.int IntKind.i64 0] 81)).drew) :=
  ⟨(Cel.new w _ _).alloc _, by have := Cel.new (w.alloc (Obj.cells #[Value.slice a 3 cap, Value.slice c 2 cap', Value.int IntKind.i64 K] 81)) [.slice none 0 0, .slice none 0 0, .int .i64 0] 81; rw [qA] at this; exact this, ((bal).alloc (by simp) _).drew⟩
 go_region_held3 (fun w' => w'.cell? ⟨w.heap.size, 0, none⟩ = some (.slice a 3 cap) /\ w'.cell? ⟨w.heap.size, 1, none⟩ = some (.slice c 2 cap') /\ w'.cell? ⟨w.heap.size, 2, none⟩ = some (.int .i64 K)) (first | assumption | go_keep)
  (first
   | (go_at_call_of 112 (Value.slice a 3 cap); refine (timesEach_any C (hC.below (TimesH.b (a := a) (c := c) (cap := cap) (cap' := cap') (K := K) (by assumption))) (by omega) tC).mono ?_; rintro e w3 ⟨rfl, b3, k3⟩; have h3 := TimesH.below (w := w) (a := a) (c := c) (cap := cap) (cap' := cap') (K := K) (by assumption) b3; have g3 := h3.cells; obtain ⟨x0, x1, x2, x3, x4, x5⟩ := h3.room)
   | (go_at_call_of 112 (Value.slice c 2 cap'); refine (timesEach_any D (hD.below (TimesH.b (a := a) (c := c) (cap := cap) (cap' := cap') (K := K) (by assumption))) (by omega) tD).mono ?_; rintro e w4 ⟨rfl, b4, k4⟩; have h4 := TimesH.below (w := w) (a := a) (c := c) (cap := cap) (cap' := cap') (K := K) (by assumption) b4; have g4 := h4.cells; obtain ⟨y0, y1, y2, y3, y4, y5⟩ := h4.room))
 have hw := wrap_id tK1 tK2;have e3 : ((w.alloc (Obj.cells #[Value.slice a 3 cap, Value.slice c 2 cap', Value.int IntKind.i64 K] 81)).alloc (Obj.cells #[Value.slice none 0 0, Value.slice none 0 0, Value.int IntKind.i64 0] 81)).drew.heap.size = w.heap.size + 1 + 1 := by show (World.alloc _ _).heap.size = _; rw [qA, qA]
 rw [e3] at k3;have k3' := k3.below b4;have l3 := k3.lt;have l4 := k4.lt;have q0 := h4.r.free 0;clear e3 b3 b4 h3 g3 H0 k3
 go_wp2
 refine bodyPost_ret (v := formV (some ⟨w.heap.size + 1 + 1, 0, none⟩) 3 3 (some ⟨w3.heap.size, 0, none⟩) 2 2 (n * K)) (by simp [results, Tryz.results133, go_sem, y0, y1, y2, hw]) rfl ⟨_, _, rfl, ?_, by omega, by omega, by omega, ?_, ?_⟩
 ·exact ((h4.b.setCell (by simp only []; omega) _).setCell (by simp only []; omega) _).setCell (by simp only []; omega) _
 ·exact ((k3'.so).so).so
 exact ((k4.so).so).so
def keepL (b : Bool) (L : List Int) : List Int := if b then L else []
def keepK (b : Bool) (K : Int) : Int := if b then K else 0
theorem keepL_no (L : List Int) : keepL false L = [] := rfl
theorem keepK_no (K : Int) : keepK false K = 0 := rfl
theorem orN_yes {n : Nat} (C D : List Int) {w : World} (hC : Ints w a n C) (hD : Ints w c m D) (hn : n <= 1048576) (hm : m <= 1048576) (h : formB n m C D K = true) :
  Calls Tryz.prog 134 #[formV a n cap c m cap' K] w fun e w' => e = .returned (formV a n cap c m cap' K) /\ Below w.heap.size w w' := by
 go_enter Tryz.func134, Tryz.ntmps134
 go_wp2_with fail
 refine (iok_any C D ((hC.alloc _).alloc _) ((hD.alloc _).alloc _) hn hm).mono ?_;rintro e w1 ⟨rfl, b1⟩;have p0 := ((Cel.new w _ _).alloc _).below b1;have p1 := (Cel.new (w.alloc _) _ _).below b1;rw [qA] at p1;have hb : Below w.heap.size w w1 := ((bal).alloc (by simp) _).trans (b1.mono (by simp; omega));have c0 := p0.cell 0;have c1 := p0.cell 1;have c2 := p0.cell 2;have r0 := p1.cell 0;have r1 := p1.cell 1;have r2 := p1.cell 2;have r3 := p1.free 0;have r4 := p1.free 1;have r5 := p1.free 2;simp only [qC, qD] at c0 c1 c2 r0 r1 r2
 go_wp2
 refine bodyPost_ret (v := formV a n cap c m cap' K) (by simp [results, Tryz.results134, go_sem, r0, r1, r2]) rfl ⟨rfl, ?_⟩
 exact ((hb.setCell (by simp only []; omega) _).setCell (by simp only []; omega) _).setCell (by simp only []; omega) _
theorem orN_no {n : Nat} (C D : List Int) {w : World} (hC : Ints w a n C) (hD : Ints w c m D) (hn : n <= 1048576) (hm : m <= 1048576) (h : formB n m C D K = false) :
  Calls Tryz.prog 134 #[formV a n cap c m cap' K] w fun e w' => e = .returned (formV none 0 0 none 0 0 0) /\ Below w.heap.size w w' := by
 go_enter Tryz.func134, Tryz.ntmps134
 go_wp2_with fail
 refine (iok_any C D ((hC.alloc _).alloc _) ((hD.alloc _).alloc _) hn hm).mono ?_;rintro e w1 ⟨rfl, b1⟩;have p1 := (Cel.new (w.alloc _) _ _).below b1;rw [qA] at p1;have hb : Below w.heap.size w w1 := ((bal).alloc (by simp) _).trans (b1.mono (by simp; omega));have r0 := p1.cell 0;have r1 := p1.cell 1;have r2 := p1.cell 2;have r3 := p1.free 0;have r4 := p1.free 1;have r5 := p1.free 2;simp only [qC, qD] at r0 r1 r2
 go_wp2
 refine bodyPost_ret (v := formV none 0 0 none 0 0 0) (by simp [results, Tryz.results134, go_sem, r0, r1, r2]) rfl ⟨rfl, ?_⟩
 exact ((hb.setCell (by simp only []; omega) _).setCell (by simp only []; omega) _).setCell (by simp only []; omega) _
def timOk (n m : Nat) (C D : List Int) (K k : Int) : Bool := formB n m C D K && inB k (-10000000) 10000000 && formB 3 2 (mulL k C) (mulL k D) (k * K)
theorem tim_bnd {k : Int} (h : bnd 10000000 C) (h1 : -10000000 <= k) (h2 : k <= 10000000) : bndT 1000000000000000000 k C := by
 intro i;have := bndT_of h h1 h2 (by omega) (by omega) i
 omega
theorem tim_num {k : Int} (a1 : -10000000 <= K) (a2 : K <= 10000000) (h1 : -10000000 <= k) (h2 : k <= 10000000) : -1000000000000000000 <= k * K /\ k * K <= 1000000000000000000 := by
 have hx' : k.natAbs <= 10000000 := by omega
 have hy' : K.natAbs <= 10000000 := by omega
 have hm : (k * K).natAbs <= 10000000 * 10000000 := by rw [Int.natAbs_mul]; exact Nat.mul_le_mul hx' hy'
 omega
theorem itim_any (a : Option Addr) (n cap : Nat) (c : Option Addr) (m cap' : Nat) (K : Int) {C D : List Int} (k : Int) (w : World) (hC : Ints w a n C) (hD : Ints w c m D) (hn : n <= 1048576) (hm : m <= 1048576) :
  Calls Tryz.prog 130 #[formV a n cap c m cap' K, .int .i64 k] w fun e w' => Res w w' e (keepL (timOk n m C D K k) (mulL k C)) (keepL (timOk n m C D K k) (mulL k D)) (keepK (timOk n m C D K k) (k * K)) := by
 have bo : ∀ o o' : Obj, Below w.heap.size w ((w.alloc o).alloc o') := fun o o' => (bal).alloc (by simp) _
 cases h1 : formB n m C D K
 ·have ht : timOk n m C D K k = false := by simp [timOk, h1]
  rw [ht, keepL_no, keepL_no, keepK_no]
  go_enter Tryz.func130, Tryz.ntmps130
  go_wp2_with fail
  refine (iok_any C D ((hC.alloc _).alloc _) ((hD.alloc _).alloc _) hn hm).mono ?_;rintro e w1 ⟨rfl, b1⟩;have p1 := (Cel.new (w.alloc _) _ _).below b1;rw [qA] at p1;have hb : Below w.heap.size w w1 := (bo _ _).trans (b1.mono (by simp; omega));have r0 := p1.cell 0;have r1 := p1.cell 1;have r2 := p1.cell 2;have r3 := p1.free 0;have r4 := p1.free 1;have r5 := p1.free 2;simp only [qC, qD] at r0 r1 r2
  go_wp2
  refine bodyPost_ret (v := formV none 0 0 none 0 0 0) (by simp [results, Tryz.results130, go_sem, r0, r1, r2]) rfl (Res.none rfl ?_)
  exact ((hb.setCell (by simp only []; omega) _).setCell (by simp only []; omega) _).setCell (by simp only []; omega) _
 cases h2 : inB k (-10000000) 10000000
 ·have ht : timOk n m C D K k = false := by simp [timOk, h2]
  rw [ht, keepL_no, keepL_no, keepK_no];have ha : allB 10000000 [k] = false := by rw [allB_one]; exact h2
  go_enter Tryz.func130, Tryz.ntmps130
  go_wp2_with fail
  refine (iok_any C D ((hC.alloc _).alloc _) ((hD.alloc _).alloc _) hn hm).mono ?_;rintro e w1 ⟨rfl, b1⟩;have p1 := (Cel.new (w.alloc _) _ _).below b1;rw [qA] at p1;have hb : Below w.heap.size w w1 := (bo _ _).trans (b1.mono (by simp; omega));have l1 := p1.lt
  go_wp2_with fail
  refine (within_any (some ⟨w1.heap.size, 0, none⟩) 1 1 [k] ?_ (by omega)).mono ?_
  ·refine ⟨rfl, fun i hi => ⟨w1.heap.size, 0, rfl, ?_⟩⟩;obtain rfl : i = 0 := by omega
   simp [go_sem]
  rintro e w2 ⟨rfl, rfl⟩;have r0 := p1.cell 0;have r1 := p1.cell 1;have r2 := p1.cell 2;have r3 := p1.free 0;have r4 := p1.free 1;have r5 := p1.free 2;simp only [qC, qD] at r0 r1 r2
  go_wp2
  refine bodyPost_ret (v := formV none 0 0 none 0 0 0) (by simp [results, Tryz.results130, go_sem, r0, r1, r2, l1]) rfl (Res.none rfl ?_)
  exact (((hb.setCell (by simp only []; omega) _).setCell (by simp only []; omega) _).setCell (by simp only []; omega) _).alloc (by have := hb.size; rw [size_setCell, size_setCell, size_setCell]; omega) _
 obtain ⟨rfl, rfl, bC, bD, bK1, bK2⟩ := formB_elim h1;obtain ⟨hk1, hk2⟩ := inB_iff.1 h2;have ha : allB 10000000 [k] = true := by rw [allB_one]; exact h2
 have tC := tim_bnd bC hk1 hk2;have tD := tim_bnd bD hk1 hk2;have tK := tim_num bK1 bK2 hk1 hk2;have LC : (mulL k C).length = 3 := by rw [mulL_len]; exact hC.1
 have LD : (mulL k D).length = 2 := by rw [mulL_len]; exact hD.1
 have ht : timOk 3 2 C D K k = formB 3 2 (mulL k C) (mulL k D) (k * K) := by simp [timOk, h1, h2]
 cases h3 : formB 3 2 (mulL k C) (mulL k D) (k * K)
 all_goals
  rw [ht, h3];clear ht
  go_enter Tryz.func130, Tryz.ntmps130
  go_wp2_with fail
  refine (iok_any C D ((hC.alloc _).alloc _) ((hD.alloc _).alloc _) hn hm).mono ?_;rintro e w1 ⟨rfl, b1⟩;have p0 := ((Cel.new w _ _).alloc _).below b1;have p1 := (Cel.new (w.alloc _) _ _).below b1;rw [qA] at p1;have hb : Below w.heap.size w w1 := (bo _ _).trans (b1.mono (by simp; omega));have l1 := p1.lt;clear b1
  go_wp2_with fail
  refine (within_any (some ⟨w1.heap.size, 0, none⟩) 1 1 [k] ?_ (by omega)).mono ?_
  ·refine ⟨rfl, fun i hi => ⟨w1.heap.size, 0, rfl, ?_⟩⟩;obtain rfl : i = 0 := by omega
   simp [go_sem]
  rintro e w2 ⟨rfl, rfl⟩;have c0 := p0.cell 0;have c1 := p0.cell 1;have c2 := p0.cell 2;simp only [qC, qD] at c0 c1 c2;have l0 := p0.lt
  go_wp2_with fail
  refine (times_any C D ((hC.below hb).alloc _) ((hD.below hb).alloc _) tC tD tK).mono ?_;rintro e w3 ⟨B1, B2, rfl, b3, g1, g2, g3, k1, k2⟩;rw [qA] at g1 g3;have p3 := (p1.alloc _).below b3;have hb3 : Below w.heap.size w w3 := (hb.alloc hb.size _).trans (b3.mono (by have := hb.size; simp; omega));clear b3 c0 c1 c2 p0 p1
  go_wp2_with fail
  first
   | (refine (orN_no (mulL k C) (mulL k D) (k1.ints' LC) (k2.ints' LD) hn hm h3).mono ?_)
   | (refine (orN_yes (mulL k C) (mulL k D) (k1.ints' LC) (k2.ints' LD) hn hm h3).mono ?_)
  rintro e w4 ⟨rfl, b4⟩;have p4 := p3.below b4;have k1' := k1.below b4;have k2' := k2.below b4;have hb4 := btr hb3 b4;have hw1 := hb.size;have r0 := p4.cell 0;have r1 := p4.cell 1;have r2 := p4.cell 2;have r3 := p4.free 0;have r4 := p4.free 1;have r5 := p4.free 2;simp only [qC, qD] at r0 r1 r2;clear b4 p3 p4 k1 k2 hb3 tC tD tK bC bD
  go_wp2
 ·refine bodyPost_ret (v := formV none 0 0 none 0 0 0) (by simp [results, Tryz.results130, go_sem, r0, r1, r2]) rfl (Res.none rfl ?_)
  exact ((hb4.setCell (by simp only []; omega) _).setCell (by simp only []; omega) _).setCell (by simp only []; omega) _
 refine bodyPost_ret (v := formV (some ⟨B1, 0, none⟩) 3 3 (some ⟨B2, 0, none⟩) 2 2 (k * K)) (by simp [results, Tryz.results130, go_sem, r0, r1, r2]) rfl (Res.of (B1 := B1) (B2 := B2) rfl LC LD ?_ (by omega) g2 (by omega) ?_ ?_)
 ·exact ((hb4.setCell (by simp only []; omega) _).setCell (by simp only []; omega) _).setCell (by simp only []; omega) _
 ·exact ((k1'.so).so).so
 exact ((k2'.so).so).so
theorem lin_zero3 {k : Int} (h : C.length = 3) : lin [0, 0, 0] C k = mulL k C := by
 match C, h with
 | [x, y, z], _ => simp [lin, mulL]
theorem lin_zero2 {k : Int} (h : D.length = 2) : lin [0, 0] D k = mulL k D := by
 match D, h with
 | [x, y], _ => simp [lin, mulL]
theorem bnd_lit3 : bnd 1000000000000000000 [0, 0, 0] := fun i => by have := bnd_zeros 3 i; simp only [List.replicate] at this; omega
theorem bnd_lit2 : bnd 1000000000000000000 [0, 0] := fun i => by have := bnd_zeros 2 i; simp only [List.replicate] at this; omega
structure FV where
 a : Option Addr
 n : Nat
 cap : Nat
 c : Option Addr
 m : Nat
 cap' : Nat
 K : Int
 C : List Int
 D : List Int
def FV.cs (f : FV) : List Value := [.slice f.a f.n f.cap, .slice f.c f.m f.cap', .int .i64 f.K]
def FV.ok (f : FV) : Bool := formB f.n f.m f.C f.D f.K
def FV.frm (f : FV) : Frm := (f.C, f.D, f.K)
def noFV : FV := ⟨none, 0, 0, none, 0, 0, 0, [], []⟩
structure FV.At (f : FV) (w : World) : Prop where
 C : Ints w f.a f.n f.C
 D : Ints w f.c f.m f.D
 hn : f.n <= 1048576
 hm : f.m <= 1048576
theorem FV.At.below {f : FV} (h : f.At w) (b : Below w.heap.size w w') : f.At w' := ⟨h.C.below b, h.D.below b, h.hn, h.hm⟩
def FormsG (w : World) (ad : Option Addr) (fs : List FV) : Prop :=
 ∀ i, i < fs.length -> ∃ b off, ad = some ⟨b, off, none⟩ /\ w.cell? ⟨b, off + i * 3, none⟩ = some (.slice (fs[i]?.getD noFV).a (fs[i]?.getD noFV).n (fs[i]?.getD noFV).cap) /\ w.cell? ⟨b, off + i * 3 + 1, none⟩ = some (.slice (fs[i]?.getD noFV).c (fs[i]?.getD noFV).m (fs[i]?.getD noFV).cap') /\ w.cell? ⟨b, off + i * 3 + 2, none⟩ = some (.int .i64 (fs[i]?.getD noFV).K) /\ (fs[i]?.getD noFV).At w
theorem FormsG.below {fs : List FV} (h : FormsG w ad fs) (hb : Below w.heap.size w w') : FormsG w' ad fs := by
 intro i hi;obtain ⟨b, off, e, e0, e1, e2, e3⟩ := h i hi
 exact ⟨b, off, e, (hb.cell (p := ⟨b, off + i * 3, none⟩) (block_lt e0)).trans e0, (hb.cell (p := ⟨b, off + i * 3 + 1, none⟩) (block_lt e0)).trans e1, (hb.cell (p := ⟨b, off + i * 3 + 2, none⟩) (block_lt e0)).trans e2, e3.below hb⟩
theorem FormsG.at {fs : List FV} (h : FormsG w ad fs) (hok : fs.all FV.ok = true) : FormsAt w ad (fs.map FV.frm) /\ ∀ i, i < (fs.map FV.frm).length -> fits 10000000 ((fs.map FV.frm)[i]?.getD ([], [], 0)) := by
 have key : ∀ i, i < fs.length -> (fs.map FV.frm)[i]?.getD ([], [], 0) = (fs[i]?.getD noFV).frm /\ (fs[i]?.getD noFV).ok = true := by
  intro i hi;rw [List.getElem?_map, qB hi];refine ⟨rfl, ?_⟩;rw [List.all_eq_true] at hok
  exact hok _ (List.getElem_mem hi)
 refine ⟨fun i hi => ?_, fun i hi => ?_⟩
 ·rw [List.length_map] at hi;obtain ⟨b, off, e, e0, e1, e2, e3⟩ := h i hi;obtain ⟨k1, k2⟩ := key i hi;obtain ⟨n3, m2, _⟩ := formB_elim k2;have hC := e3.C;have hD := e3.D;rw [n3] at e0 hC;rw [m2] at e1 hD;rw [k1]
  exact ⟨b, off, e, _, _, _, _, e0, e1, e2, hC, hD⟩
 rw [List.length_map] at hi;obtain ⟨b, off, e, e0, e1, e2, e3⟩ := h i hi;obtain ⟨k1, k2⟩ := key i hi;obtain ⟨n3, m2, bC, bD, bK1, bK2⟩ := formB_elim k2;rw [k1]
 exact ⟨by have := e3.C.1; simp only [FV.frm]; omega, by have := e3.D.1; simp only [FV.frm]; omega, bC, bD, bK1, bK2⟩
theorem all_take_succ {fs : List FV} (h : k < fs.length) (h1 : (fs.take k).all FV.ok = true) (h2 : (fs[k]?.getD noFV).ok = true) : (fs.take (k + 1)).all FV.ok = true := by
 rw [List.take_succ_eq_append_getElem h, List.all_append, h1];rw [qB h] at h2;simpa using h2
theorem all_no {fs : List FV} (h : k < fs.length) (h2 : (fs[k]?.getD noFV).ok = false) : fs.all FV.ok = false := by
 rw [List.all_eq_false];rw [qB h] at h2
 exact ⟨fs[k], List.getElem_mem h, by simpa using h2⟩
theorem allForms_any (N : Nat) {cap : Nat} (fs : List FV) {w : World} (hN : fs.length = N) (hF : FormsG w ad fs) (hN1 : N <= 1048576) :
  Calls Tryz.prog 131 #[.slice ad N cap] w fun e w' => e = .returned (.bool (fs.all FV.ok)) /\ Below w.heap.size w w' := by
 have HN : Hid (fs.length = N) := hN;clear hN
 go_enter Tryz.func131, Tryz.ntmps131
 go_wp2_with fail
 go_loopw [4, 7] (fun _ i wr => ∃ k : Nat, k <= N /\ i = .int .i64 k /\ Below w.heap.size w wr /\ (fs.take k).all FV.ok = true) (fun _ i _ => N - (intOf i).toNat)
 case atStart => exact ⟨0, Nat.zero_le _, rfl, Below.refl _ _, by simp⟩
 case round =>
  obtain ⟨k, hk, rfl, hb, hall⟩ := hrel;have HA : Hid ((fs.take k).all FV.ok = true) := hall;clear hall
  by_cases hlt : k < N
  ·obtain ⟨b, off, rfl, e0, e1, e2, e3⟩ := (hF.below hb) k (by rw [HN.out]; exact hlt);generalize HG : fs[k]?.getD noFV = g at *;have HG' : Hid (fs[k]?.getD noFV = g) := HG;clear HG hF;obtain ⟨ga, gn, gcap, gc, gm, gcap', gK, gC, gD⟩ := g;obtain ⟨iC, iD, hn, hm⟩ := e3;simp only at e0 e1 e2 iC iD hn hm
   cases hf : formB gn gm gC gD gK
   ·go_wp2_with fail
    refine (iok_any gC gD (iC.alloc _) (iD.alloc _) hn hm).mono ?_;rintro e w1 ⟨rfl, b1⟩;have B1 := (hb.alloc hb.size _).trans (b1.mono (by have := hb.size; simp; omega))
    go_wp2
    go_ret
    exact ⟨ret_bool (all_no (k := k) (by rw [HN.out]; exact hlt) (by rw [HG'.out]; exact hf)).symm, B1⟩
   go_wp2_with fail
   refine (iok_any gC gD (iC.alloc _) (iD.alloc _) hn hm).mono ?_;rintro e w1 ⟨rfl, b1⟩;have B1 := (hb.alloc hb.size _).trans (b1.mono (by have := hb.size; simp; omega));clear b1 hb iC iD e0 e1 e2
   go_wp2
   go_roundw
   case rel => exact ⟨k + 1, by omega, by go_num, B1, all_take_succ (by rw [HN.out]; exact hlt) HA.out (by rw [HG'.out]; exact hf)⟩
   case measure => simp [intOf]; omega
  go_wp2
  go_ret
  exact ⟨ret_bool (by have := HA.out; rw [List.take_of_length_le (by rw [HN.out]; omega)] at this; exact this.symm), hb⟩
def addOk (n m : Nat) (C D : List Int) (K : Int) (n2 m2 : Nat) (C2 D2 : List Int) (K2 : Int) : Bool := formB n m C D K && formB n2 m2 C2 D2 K2 && formB 3 2 (lin C C2 1) (lin D D2 1) (K + 1 * K2)
structure H2 (w : World) (a : Option Addr) (n cap : Nat) (c : Option Addr) (m cap' : Nat) (K : Int) (a2 : Option Addr) (n2 cap2 : Nat) (c2 : Option Addr) (m2 cap2' : Nat) (K2 : Int) (w' : World) : Prop where
 p : Cel w' w.heap.size [.slice a n cap, .slice c m cap', .int .i64 K] 81
 q : Cel w' (w.heap.size + 1) [.slice a2 n2 cap2, .slice c2 m2 cap2', .int .i64 K2] 81
 r : Cel w' (w.heap.size + 1 + 1) [.slice none 0 0, .slice none 0 0, .int .i64 0] 81
 b : Below w.heap.size w w'
section
variable {w W w3 : World} {a c a2 c2 : Option Addr} {n cap m cap' n2 cap2 m2 cap2' : Nat} {K K2 : Int}
theorem H2.below (h : H2 w a n cap c m cap' K a2 n2 cap2 c2 m2 cap2' K2 W) (b : Below W.heap.size W w3) : H2 w a n cap c m cap' K a2 n2 cap2 c2 m2 cap2' K2 w3 :=
 ⟨h.p.below b, h.q.below b, h.r.below b, h.b.trans (b.mono h.b.size)⟩
theorem H2.alloc (h : H2 w a n cap c m cap' K a2 n2 cap2 c2 m2 cap2' K2 W) (o : Obj) : H2 w a n cap c m cap' K a2 n2 cap2 c2 m2 cap2' K2 (W.alloc o) := h.below (bal)
theorem H2.new : H2 w a n cap c m cap' K a2 n2 cap2 c2 m2 cap2' K2 (((w.alloc (Obj.cells #[Value.slice a n cap, Value.slice c m cap', Value.int IntKind.i64 K] 81)).alloc (Obj.cells #[Value.slice a2 n2 cap2, Value.slice c2 m2 cap2', Value.int IntKind.i64 K2] 81)).alloc (Obj.cells #[Value.slice none 0 0, Value.slice none 0 0, Value.int IntKind.i64 0] 81)) := by
 have q := (Cel.new (w.alloc (Obj.cells #[Value.slice a n cap, Value.slice c m cap', Value.int IntKind.i64 K] 81)) [.slice a2 n2 cap2, .slice c2 m2 cap2', .int .i64 K2] 81).alloc (Obj.cells #[Value.slice none 0 0, Value.slice none 0 0, Value.int IntKind.i64 0] 81);have r := Cel.new ((w.alloc (Obj.cells #[Value.slice a n cap, Value.slice c m cap', Value.int IntKind.i64 K] 81)).alloc (Obj.cells #[Value.slice a2 n2 cap2, Value.slice c2 m2 cap2', Value.int IntKind.i64 K2] 81)) [.slice none 0 0, .slice none 0 0, .int .i64 0] 81;rw [qA] at q;rw [qA, qA] at r
 exact ⟨((Cel.new w _ _).alloc _).alloc _, q, r, ((bal).alloc (by simp) _).alloc (by simp; omega) _⟩
theorem H2.cells (h : H2 w a n cap c m cap' K a2 n2 cap2 c2 m2 cap2' K2 W) :
  W.cell? ⟨w.heap.size, 0, none⟩ = some (.slice a n cap) /\ W.cell? ⟨w.heap.size, 1, none⟩ = some (.slice c m cap') /\ W.cell? ⟨w.heap.size, 2, none⟩ = some (.int .i64 K) /\
  W.cell? ⟨w.heap.size + 1, 0, none⟩ = some (.slice a2 n2 cap2) /\ W.cell? ⟨w.heap.size + 1, 1, none⟩ = some (.slice c2 m2 cap2') /\ W.cell? ⟨w.heap.size + 1, 2, none⟩ = some (.int .i64 K2) := ⟨h.p.cell 0, h.p.cell 1, h.p.cell 2, h.q.cell 0, h.q.cell 1, h.q.cell 2⟩
theorem H2.room (h : H2 w a n cap c m cap' K a2 n2 cap2 c2 m2 cap2' K2 W) :
  W.cell? ⟨w.heap.size + 1 + 1, 0, none⟩ = some (.slice none 0 0) /\ W.cell? ⟨w.heap.size + 1 + 1, 1, none⟩ = some (.slice none 0 0) /\ W.cell? ⟨w.heap.size + 1 + 1, 2, none⟩ = some (.int .i64 0) /\ W.frozen? ⟨w.heap.size + 1 + 1, 0, none⟩ = false /\ W.frozen? ⟨w.heap.size + 1 + 1, 1, none⟩ = false /\ W.frozen? ⟨w.heap.size + 1 + 1, 2, none⟩ = false := ⟨h.r.cell 0, h.r.cell 1, h.r.cell 2, h.r.free 0, h.r.free 1, h.r.free 2⟩
end
theorem sum_two {C2 D2 : List Int} {K2 : Int} (hC : C.length = 3) (hD : D.length = 2) (hC2 : C2.length = 3) (hD2 : D2.length = 2) :
  sumC [(C, D, K), (C2, D2, K2)] 2 = lin C C2 1 /\ sumD [(C, D, K), (C2, D2, K2)] 2 = lin D D2 1 /\ sumK [(C, D, K), (C2, D2, K2)] 2 = K + 1 * K2 := by
 match C, hC, C2, hC2, D, hD, D2, hD2 with
 | [x, y, z], _, [x', y', z'], _, [u, v], _, [u', v'], _ => simp [sumC, sumD, sumK, lin]
theorem iadd_any (a : Option Addr) (n cap : Nat) (c : Option Addr) (m cap' : Nat) (K : Int) (C D : List Int) (a2 : Option Addr) (n2 cap2 : Nat) (c2 : Option Addr) (m2 cap2' : Nat) (K2 : Int) (C2 D2 : List Int) (w : World) (hC : Ints w a n C) (hD : Ints w c m D) (hC2 : Ints w a2 n2 C2) (hD2 : Ints w c2 m2 D2) (hn : n <= 1048576) (hm : m <= 1048576) (hn2 : n2 <= 1048576) (hm2 : m2 <= 1048576) :
  Calls Tryz.prog 129 #[formV a n cap c m cap' K, formV a2 n2 cap2 c2 m2 cap2' K2] w fun e w' => Res w w' e (keepL (addOk n m C D K n2 m2 C2 D2 K2) (lin C C2 1)) (keepL (addOk n m C D K n2 m2 C2 D2 K2) (lin D D2 1)) (keepK (addOk n m C D K n2 m2 C2 D2 K2) (K + 1 * K2)) := by
 have n0 := H2.new (w := w) (a := a) (n := n) (cap := cap) (c := c) (m := m) (cap' := cap') (K := K) (a2 := a2) (n2 := n2) (cap2 := cap2) (c2 := c2) (m2 := m2) (cap2' := cap2') (K2 := K2);obtain ⟨fs, hfs⟩ : ∃ fs : List FV, fs = [⟨a, n, cap, c, m, cap', K, C, D⟩, ⟨a2, n2, cap2, c2, m2, cap2', K2, C2, D2⟩] := ⟨_, rfl⟩
 have hall : fs.all FV.ok = (formB n m C D K && formB n2 m2 C2 D2 K2) := by rw [hfs]; simp [FV.ok]
 have hlen : fs.length = 2 := by rw [hfs]; rfl
 have hG : ∀ W : World, Below w.heap.size w W -> FormsG (W.alloc (Obj.cells #[Value.slice a n cap, Value.slice c m cap', Value.int IntKind.i64 K, Value.slice a2 n2 cap2, Value.slice c2 m2 cap2', Value.int IntKind.i64 K2] 81)) (some ⟨W.heap.size, 0, none⟩) fs := by
  intro W hb i hi;rw [hfs] at hi ⊢;have hq := Cel.new W [Value.slice a n cap, Value.slice c m cap', Value.int IntKind.i64 K, Value.slice a2 n2 cap2, Value.slice c2 m2 cap2', Value.int IntKind.i64 K2] 81
  match i, hi with
  | 0, _ => exact ⟨_, 0, rfl, hq.cell 0, hq.cell 1, hq.cell 2, ⟨(hC.below hb).alloc _, (hD.below hb).alloc _, hn, hm⟩⟩
  | 1, _ => exact ⟨_, 0, rfl, hq.cell 3, hq.cell 4, hq.cell 5, ⟨(hC2.below hb).alloc _, (hD2.below hb).alloc _, hn2, hm2⟩⟩
 have HG : Hid _ := hG;have HF : Hid _ := hfs;clear hfs hG
 cases h1 : (formB n m C D K && formB n2 m2 C2 D2 K2)
 ·have ht : addOk n m C D K n2 m2 C2 D2 K2 = false := by simp only [addOk, h1, Bool.false_and]
  rw [ht, keepL_no, keepL_no, keepK_no];rw [h1] at hall
  go_enter Tryz.func129, Tryz.ntmps129
  have gg := HG.out _ n0.b;simp only [qA] at gg
  go_wp2_with fail
  refine (allForms_any 2 fs hlen gg (by omega)).mono ?_;rintro e w1 ⟨rfl, b1⟩;have H := (n0.alloc _).below b1;obtain ⟨r0, r1, r2, r3, r4, r5⟩ := H.room;rw [hall]
  go_wp2
  refine bodyPost_ret (v := formV none 0 0 none 0 0 0) (by simp [results, Tryz.results129, go_sem, r0, r1, r2]) rfl (Res.none rfl ?_)
  exact ((H.b.setCell (by simp only []; omega) _).setCell (by simp only []; omega) _).setCell (by simp only []; omega) _
 have h1' := h1;rw [Bool.and_eq_true] at h1';obtain ⟨rfl, rfl, bC, bD, bK1, bK2⟩ := formB_elim h1'.1;obtain ⟨rfl, rfl, bC2, bD2, bK3, bK4⟩ := formB_elim h1'.2;have LC := lin_len (n := 1) hC.1 hC2.1;have LD := lin_len (n := 1) hD.1 hD2.1;have ht : addOk 3 2 C D K 3 2 C2 D2 K2 = formB 3 2 (lin C C2 1) (lin D D2 1) (K + 1 * K2) := by simp only [addOk, h1, Bool.true_and]
 rw [ht];clear ht;rw [h1] at hall;obtain ⟨sC, sD, sK⟩ := sum_two (K := K) (K2 := K2) hC.1 hD.1 hC2.1 hD2.1;have hmap : fs.map FV.frm = [(C, D, K), (C2, D2, K2)] := by rw [HF.out]; rfl
 have HM : Hid _ := hmap;have SC : Hid _ := sC;have SD : Hid _ := sD;have SK : Hid _ := sK;clear hmap sC sD sK h1 h1' bC bD bC2 bD2;obtain ⟨S, hS⟩ : ∃ S, S = K + 1 * K2 := ⟨_, rfl⟩
 have HS : Hid (S = K + 1 * K2) := hS;rw [<- hS];clear hS
 cases h3 : formB 3 2 (lin C C2 1) (lin D D2 1) S
 all_goals
  go_enter Tryz.func129, Tryz.ntmps129
  have gg := HG.out _ n0.b;simp only [qA] at gg
  go_wp2_with fail
  refine (allForms_any 2 fs hlen gg (by omega)).mono ?_;rintro e w1 ⟨rfl, b1⟩;have H1 := (n0.alloc _).below b1;obtain ⟨c0, c1, c2x, c3, c4, c5⟩ := H1.cells;have A1 := H1.r.lt;rw [hall];have fa := (HG.out _ H1.b).at hall;rw [HM.out] at fa;clear gg b1
  go_wp2_with fail
  refine (sum_any _ 2 _ [(C, D, K), (C2, D2, K2)] 10000000 rfl fa.1 fa.2).mono ?_;rintro e w2 ⟨B1, B2, rfl, b2, g1, g2, g3, k1, k2⟩;rw [SC.out] at k1;rw [SD.out] at k2;rw [SK.out, <- HS.out];rw [qA] at g1 g3;have H2' := (H1.alloc _).below b2;clear c0 c1 c2x c3 c4 c5 fa b2
  go_wp2_with fail
  first
   | (refine (orN_no (lin C C2 1) (lin D D2 1) (k1.ints' LC) (k2.ints' LD) hn hm h3).mono ?_)
   | (refine (orN_yes (lin C C2 1) (lin D D2 1) (k1.ints' LC) (k2.ints' LD) hn hm h3).mono ?_)
  rintro e w3 ⟨rfl, b3⟩;have H := H2'.below b3;have k1' := k1.below b3;have k2' := k2.below b3;obtain ⟨r0, r1, r2, r3, r4, r5⟩ := H.room;have A2 := H1.b.size;clear H1 H2' k1 k2 b3 n0 hall
  go_wp2
 ·refine bodyPost_ret (v := formV none 0 0 none 0 0 0) (by simp [results, Tryz.results129, go_sem, r0, r1, r2]) rfl (Res.none rfl ?_)
  exact ((H.b.setCell (by simp only []; omega) _).setCell (by simp only []; omega) _).setCell (by simp only []; omega) _
 refine bodyPost_ret (v := formV (some ⟨B1, 0, none⟩) 3 3 (some ⟨B2, 0, none⟩) 2 2 S) (by simp [results, Tryz.results129, go_sem, r0, r1, r2]) rfl (Res.of (B1 := B1) (B2 := B2) rfl LC LD ?_ (by omega) g2 (by omega) ?_ ?_)
 ·exact ((H.b.setCell (by simp only []; omega) _).setCell (by simp only []; omega) _).setCell (by simp only []; omega) _
 ·exact ((k1'.so).so).so
 exact ((k2'.so).so).so
def three (cs : List (List Value)) : Prop := ∀ c ∈ cs, c.length = 3
theorem Tryz.infoForm : (Tryz.prog.info? 81).map (fun i => (i.zero, i.size, i.bytes)) = some (some (.agg #[.slice none 0 0, .slice none 0 0, .int .i64 0]), 3, 56) := by kernel_rfl
def intoC (C : List Int) (fs : List FV) : Nat -> List Int
 | 0 => [0, 0, 0]
 | k + 1 => lin (intoC C fs k) (fs[k]?.getD noFV).C (C[k]?.getD 0)
def intoD (C D : List Int) (fs : List FV) : Nat -> List Int
 | 0 => D
 | k + 1 => lin (intoD C D fs k) (fs[k]?.getD noFV).D (C[k]?.getD 0)
def intoK (C : List Int) (K : Int) (fs : List FV) : Nat -> Int
 | 0 => K
 | k + 1 => intoK C K fs k + C[k]?.getD 0 * (fs[k]?.getD noFV).K
theorem lin_mul (xs ys : List Int) (n : Int) : List.zipWith (· + ·) xs (mulL n ys) = lin xs ys n := by
 simp [lin, mulL, List.zipWith_map_right]
def terms (C D : List Int) (K : Int) (fs : List FV) : List Frm := ([0, 0, 0], D, K) :: (List.range 3).map fun i => (mulL (C[i]?.getD 0) (fs[i]?.getD noFV).C, mulL (C[i]?.getD 0) (fs[i]?.getD noFV).D, C[i]?.getD 0 * (fs[i]?.getD noFV).K)
theorem zip0 (h : xs.length = 3) : List.zipWith (· + ·) [0, 0, 0] xs = xs := by
 match xs, h with
 | [x, y, z], _ => simp
theorem zip02 (h : xs.length = 2) : List.zipWith (· + ·) [0, 0] xs = xs := by
 match xs, h with
 | [x, y], _ => simp
theorem terms_sum {fs : List FV} (hD : D.length = 2) :
  sumC (terms C D K fs) 4 = intoC C fs 3 /\ sumD (terms C D K fs) 4 = intoD C D fs 3 /\ sumK (terms C D K fs) 4 = intoK C K fs 3 := by
 have t0 : (terms C D K fs)[0]? = some ([0, 0, 0], D, K) := rfl;have t1 : (terms C D K fs)[1]? = some (mulL (C[0]?.getD 0) (fs[0]?.getD noFV).C, mulL (C[0]?.getD 0) (fs[0]?.getD noFV).D, C[0]?.getD 0 * (fs[0]?.getD noFV).K) := rfl;have t2 : (terms C D K fs)[2]? = some (mulL (C[1]?.getD 0) (fs[1]?.getD noFV).C, mulL (C[1]?.getD 0) (fs[1]?.getD noFV).D, C[1]?.getD 0 * (fs[1]?.getD noFV).K) := rfl;have t3 : (terms C D K fs)[3]? = some (mulL (C[2]?.getD 0) (fs[2]?.getD noFV).C, mulL (C[2]?.getD 0) (fs[2]?.getD noFV).D, C[2]?.getD 0 * (fs[2]?.getD noFV).K) := rfl;refine ⟨?_, ?_, ?_⟩
 ·simp only [sumC, t0, t1, t2, t3, Option.getD_some, intoC];rw [zip0 (xs := [0, 0, 0]) rfl, lin_mul, lin_mul, lin_mul]
 ·simp only [sumD, t0, t1, t2, t3, Option.getD_some, intoD];rw [zip02 hD, lin_mul, lin_mul, lin_mul]
 simp only [sumK, t0, t1, t2, t3, Option.getD_some, intoK]
 omega
theorem without_any {n : Nat} :
  Calls Tryz.prog 132 #[formV a n cap c m cap' K] w fun e w' => ∃ P, e = .returned (formV (some ⟨P, 0, none⟩) 3 3 c m cap' K) /\ Below w.heap.size w w' /\ w.heap.size <= P /\ Blk w' P [0, 0, 0] := by
 have hm3 := make3
 go_enter Tryz.func132, Tryz.ntmps132
 go_wp2_with fail
 go_region
 go_wp2
 exact bodyPost_ret (v := formV (some ⟨w.heap.size + 1 + 1, 0, none⟩) 3 3 c m cap' K) (by simp [results, Tryz.results132, go_sem]) rfl ⟨_, rfl, (((bal).alloc (by simp) _).alloc (by simp; omega) _).drew, by omega, three2 w⟩
theorem lin_bnd {M P : Int} (h1 : xs.length = k) (h2 : ys.length = k) (hx : bnd M xs) (hy : bndT P n ys) (h0 : 0 <= M + P) : bnd (M + P) (lin xs ys n) := by
 intro i
 by_cases hi : i < k
 ·rw [lin_get h1 h2 hi];have := hx i;have := hy i
  omega
 have : (lin xs ys n)[i]? = none := List.getElem?_eq_none (by rw [lin_len h1 h2]; omega);rw [this];simp only [Option.getD_none]
 omega
theorem mul_bnd {x y : Int} (a1 : -10000000 <= x) (a2 : x <= 10000000) (h1 : -10000000 <= y) (h2 : y <= 10000000) : -100000000000000 <= x * y /\ x * y <= 100000000000000 := by
 have hx' : x.natAbs <= 10000000 := by omega
 have hy' : y.natAbs <= 10000000 := by omega
 have hm : (x * y).natAbs <= 10000000 * 10000000 := by rw [Int.natAbs_mul]; exact Nat.mul_le_mul hx' hy'
 omega
theorem mulT_bnd {k : Int} (h : bnd 10000000 C) (h1 : -10000000 <= k) (h2 : k <= 10000000) : bndT 100000000000000 k C := by
 intro i;have := h i
 exact mul_bnd h1 h2 this.1 this.2
structure OkF (g : FV) : Prop where
 n : g.n = 3
 m : g.m = 2
 lC : g.C.length = 3
 lD : g.D.length = 2
 bC : bnd 10000000 g.C
 bD : bnd 10000000 g.D
 k1 : -10000000 <= g.K
 k2 : g.K <= 10000000
theorem OkF.of {g : FV} (h : g.At w) (ok : g.ok = true) : OkF g := by
 obtain ⟨n3, m2, bC, bD, bK1, bK2⟩ := formB_elim ok
 exact ⟨n3, m2, by have := h.C.1; omega, by have := h.D.1; omega, bC, bD, bK1, bK2⟩
structure IntoF (C D : List Int) (K : Int) (fs : List FV) (k : Nat) : Prop where
 lC : (intoC C fs k).length = 3
 lD : (intoD C D fs k).length = 2
 bC : bnd (k * 100000000000000) (intoC C fs k)
 bD : bnd (10000000 + k * 100000000000000) (intoD C D fs k)
 k1 : -(10000000 + k * 100000000000000) <= intoK C K fs k
 k2 : intoK C K fs k <= 10000000 + k * 100000000000000
theorem IntoF.of {fs : List FV} (hD : D.length = 2) (bC : bnd 10000000 C) (bD : bnd 10000000 D) (k1 : -10000000 <= K) (k2 : K <= 10000000) (ho : ∀ i, i < 3 -> OkF (fs[i]?.getD noFV)) : ∀ k : Nat, k <= 3 -> IntoF C D K fs k
 | 0, _ => ⟨rfl, hD, by simpa [intoC] using bnd_zeros 3, by simpa [intoD] using bD, by simpa [intoK] using k1, by simpa [intoK] using k2⟩
 | k + 1, hk => by
  have ih := IntoF.of hD bC bD k1 k2 ho k (by omega);have g := ho k (by omega);have bc := bC k;have e : ((k + 1 : Nat) : Int) = k + 1 := by omega
  have tC := mulT_bnd g.bC bc.1 bc.2;have tD := mulT_bnd g.bD bc.1 bc.2;have tK := mul_bnd bc.1 bc.2 g.k1 g.k2;have i1 := ih.k1;have i2 := ih.k2;refine ⟨lin_len ih.lC g.lC, lin_len ih.lD g.lD, ?_, ?_, ?_, ?_⟩
  ·have := lin_bnd ih.lC g.lC ih.bC tC (by omega);intro i;have := this i;simp only [intoC]
   omega
  ·have := lin_bnd ih.lD g.lD ih.bD tD (by omega);intro i;have := this i;simp only [intoD]
   omega
  ·simp only [intoK]; omega
  simp only [intoK]; omega
def intoOk (n m : Nat) (C D : List Int) (K : Int) (N : Nat) (fs : List FV) : Bool := formB n m C D K && decide (N = 3) && fs.all FV.ok && formB 3 2 (intoC C fs 3) (intoD C D fs 3) (intoK C K fs 3)
structure IH (w : World) (a : Option Addr) (n cap : Nat) (c : Option Addr) (m cap' : Nat) (K : Int) (w' : World) : Prop where
 p : Cel w' w.heap.size [.slice a n cap, .slice c m cap', .int .i64 K] 81
 r : Cel w' (w.heap.size + 1) [.slice none 0 0, .slice none 0 0, .int .i64 0] 81
 b : Below w.heap.size w w'
section
variable {w W w3 : World} {a c : Option Addr} {n cap m cap' : Nat} {K : Int}
theorem IH.below (h : IH w a n cap c m cap' K W) (b : Below W.heap.size W w3) : IH w a n cap c m cap' K w3 := ⟨h.p.below b, h.r.below b, h.b.trans (b.mono h.b.size)⟩
theorem IH.drew (h : IH w a n cap c m cap' K W) : IH w a n cap c m cap' K W.drew := ⟨h.p, h.r, h.b.drew⟩
theorem IH.alloc (h : IH w a n cap c m cap' K W) (o : Obj) : IH w a n cap c m cap' K (W.alloc o) := h.below (bal)
theorem IH.set (h : IH w a n cap c m cap' K W) {X : Nat} (hX : w.heap.size + 1 < X) (i : Nat) (v : Value) : IH w a n cap c m cap' K (W.setCell ⟨X, i, none⟩ v) :=
 ⟨h.p.setOther (by omega) i v, h.r.setOther (by omega) i v, h.b.setCell (by show w.heap.size <= X; omega) v⟩
theorem IH.new : IH w a n cap c m cap' K ((w.alloc (Obj.cells #[Value.slice a n cap, Value.slice c m cap', Value.int IntKind.i64 K] 81)).alloc (Obj.cells #[Value.slice none 0 0, Value.slice none 0 0, Value.int IntKind.i64 0] 81)) :=
 ⟨(Cel.new w _ _).alloc _, by have := Cel.new (w.alloc (Obj.cells #[Value.slice a n cap, Value.slice c m cap', Value.int IntKind.i64 K] 81)) [.slice none 0 0, .slice none 0 0, .int .i64 0] 81; rw [qA] at this; exact this, (bal).alloc (by simp) _⟩
theorem IH.cells (h : IH w a n cap c m cap' K W) :
  W.cell? ⟨w.heap.size, 0, none⟩ = some (.slice a n cap) /\ W.cell? ⟨w.heap.size, 1, none⟩ = some (.slice c m cap') /\ W.cell? ⟨w.heap.size, 2, none⟩ = some (.int .i64 K) := ⟨h.p.cell 0, h.p.cell 1, h.p.cell 2⟩
theorem IH.room (h : IH w a n cap c m cap' K W) :
  W.cell? ⟨w.heap.size + 1, 0, none⟩ = some (.slice none 0 0) /\ W.cell? ⟨w.heap.size + 1, 1, none⟩ = some (.slice none 0 0) /\ W.cell? ⟨w.heap.size + 1, 2, none⟩ = some (.int .i64 0) /\ W.frozen? ⟨w.heap.size + 1, 0, none⟩ = false /\ W.frozen? ⟨w.heap.size + 1, 1, none⟩ = false /\ W.frozen? ⟨w.heap.size + 1, 2, none⟩ = false := ⟨h.r.cell 0, h.r.cell 1, h.r.cell 2, h.r.free 0, h.r.free 1, h.r.free 2⟩
theorem IH.none (h : IH w a n cap c m cap' K W) : Res w (((W.setCell ⟨w.heap.size + 1, 0, Option.none⟩ (.slice Option.none 0 0)).setCell ⟨w.heap.size + 1, 1, Option.none⟩ (.slice Option.none 0 0)).setCell ⟨w.heap.size + 1, 2, Option.none⟩ (.int .i64 0)) (.returned (formV Option.none 0 0 Option.none 0 0 0)) [] [] 0 :=
 Res.none rfl (((h.b.setCell (by simp only []; omega) _).setCell (by simp only []; omega) _).setCell (by simp only []; omega) _)
end
theorem sinto_no (a : Option Addr) (n cap : Nat) (c : Option Addr) (m cap' : Nat) (K : Int) (C D : List Int) (ad : Option Addr) (N capN : Nat) (fs : List FV) (w : World) (hC : Ints w a n C) (hD : Ints w c m D) (hn : n <= 1048576) (hm : m <= 1048576)
  (hN : fs.length = N) (hF : FormsG w ad fs) (hN1 : N <= 1048576) (hno : (formB n m C D K && decide (N = 3) && fs.all FV.ok) = false) :
  Calls Tryz.prog 105 #[formV a n cap c m cap' K, .slice ad N capN] w fun e w' => Res w w' e [] [] 0 := by
 have n0 := IH.new (w := w) (a := a) (n := n) (cap := cap) (c := c) (m := m) (cap' := cap') (K := K);have HN : Hid (fs.length = N) := hN;clear hN
 cases h1 : formB n m C D K
 ·clear hno
  go_enter Tryz.func105, Tryz.ntmps105
  go_wp2_with fail
  refine (sok_any C D (hC.below n0.b) (hD.below n0.b) hn hm).mono ?_;rintro e w1 ⟨rfl, b1⟩;have H := n0.below b1;obtain ⟨r0, r1, r2, r3, r4, r5⟩ := H.room
  go_wp2
  exact bodyPost_ret (v := formV none 0 0 none 0 0 0) (by simp [results, Tryz.results105, go_sem, r0, r1, r2]) rfl H.none
 by_cases h2 : (N : Int) = 3
 ·obtain rfl : N = 3 := by omega
  have hno' : fs.all FV.ok = false := by simpa [h1] using hno
  clear hno h2;have f0 := hF 0 (by rw [HN.out]; omega);have f1 := hF 1 (by rw [HN.out]; omega);have f2 := hF 2 (by rw [HN.out]; omega);obtain ⟨b, off, rfl, p0, p1, p2, A0⟩ := f0;obtain ⟨b', off', hb', q0, q1, q2, A1⟩ := f1;simp only [Option.some.injEq, Addr.mk.injEq, and_true] at hb';obtain ⟨rfl, rfl⟩ := hb';obtain ⟨b', off', hb', r0, r1, r2, A2⟩ := f2;simp only [Option.some.injEq, Addr.mk.injEq, and_true] at hb';obtain ⟨rfl, rfl⟩ := hb'
  have hor : (fs[0]?.getD noFV).ok = false \/ (fs[1]?.getD noFV).ok = false \/ (fs[2]?.getD noFV).ok = false := by
   match fs, HN.out with
   | [x, y, z], _ =>
    simp only [List.all_cons, List.all_nil, Bool.and_true] at hno';simp only [qC, qD, Option.getD_some]
    revert hno'
    cases x.ok <;> cases y.ok <;> cases z.ok <;> simp
  generalize fs[0]?.getD noFV = x at *;generalize fs[1]?.getD noFV = y at *;generalize fs[2]?.getD noFV = z at *;obtain ⟨xa, xn, xcap, xc, xm, xcap', xK, xC, xD⟩ := x;obtain ⟨ya, yn, ycap, yc, ym, ycap', yK, yC, yD⟩ := y;obtain ⟨za, zn, zcap, zc, zm, zcap', zK, zC, zD⟩ := z;obtain ⟨x1, x2, x3, x4⟩ := A0;obtain ⟨y1, y2, y3, y4⟩ := A1;obtain ⟨z1, z2, z3, z4⟩ := A2;simp only [FV.ok] at p0 p1 p2 q0 q1 q2 r0 r1 r2 hor x1 x2 x3 x4 y1 y2 y3 y4 z1 z2 z3 z4;have lb := block_lt p0;have nb := n0.b;clear hF hno';rw [Nat.zero_mul, Nat.add_zero] at p0 p1 p2;rw [Nat.one_mul] at q0 q1 q2;have e6 : off + 2 * 3 = off + 6 := rfl;rw [e6] at r0 r1 r2
  cases hx : formB xn xm xC xD xK
  ·go_enter Tryz.func105, Tryz.ntmps105
   go_wp2_with fail
   refine (sok_any C D (hC.below n0.b) (hD.below n0.b) hn hm).mono ?_;rintro e w1 ⟨rfl, b1⟩;have H1 := n0.below b1;have s0 := (H1.b.cell (p := ⟨b, off, none⟩) lb).trans p0;have s1 := (H1.b.cell (p := ⟨b, off + 1, none⟩) lb).trans p1;have s2 := (H1.b.cell (p := ⟨b, off + 2, none⟩) lb).trans p2
   go_wp2_with fail
   refine (sok_any xC xD (x1.below H1.b) (x2.below H1.b) x3 x4).mono ?_;rintro e w2 ⟨rfl, b2⟩;have H2 := H1.below b2;obtain ⟨g0, g1, g2, g3, g4, g5⟩ := H2.room
   go_wp2
   exact bodyPost_ret (v := formV none 0 0 none 0 0 0) (by simp [results, Tryz.results105, go_sem, g0, g1, g2]) rfl H2.none
  cases hy : formB yn ym yC yD yK
  ·go_enter Tryz.func105, Tryz.ntmps105
   go_wp2_with fail
   refine (sok_any C D (hC.below n0.b) (hD.below n0.b) hn hm).mono ?_;rintro e w1 ⟨rfl, b1⟩;have H1 := n0.below b1;have s0 := (H1.b.cell (p := ⟨b, off, none⟩) lb).trans p0;have s1 := (H1.b.cell (p := ⟨b, off + 1, none⟩) lb).trans p1;have s2 := (H1.b.cell (p := ⟨b, off + 2, none⟩) lb).trans p2
   go_wp2_with fail
   refine (sok_any xC xD (x1.below H1.b) (x2.below H1.b) x3 x4).mono ?_;rintro e w2 ⟨rfl, b2⟩;have H2 := H1.below b2;have t0 := (H2.b.cell (p := ⟨b, off + 3, none⟩) lb).trans q0;have t1 := (H2.b.cell (p := ⟨b, off + 3 + 1, none⟩) lb).trans q1;have t2 := (H2.b.cell (p := ⟨b, off + 3 + 2, none⟩) lb).trans q2
   go_wp2_with fail
   refine (sok_any yC yD (y1.below H2.b) (y2.below H2.b) y3 y4).mono ?_;rintro e w3 ⟨rfl, b3⟩;have H3 := H2.below b3;obtain ⟨g0, g1, g2, g3, g4, g5⟩ := H3.room
   go_wp2
   exact bodyPost_ret (v := formV none 0 0 none 0 0 0) (by simp [results, Tryz.results105, go_sem, g0, g1, g2]) rfl H3.none
  have hz : formB zn zm zC zD zK = false := by simpa [hx, hy] using hor
  go_enter Tryz.func105, Tryz.ntmps105
  go_wp2_with fail
  refine (sok_any C D (hC.below n0.b) (hD.below n0.b) hn hm).mono ?_;rintro e w1 ⟨rfl, b1⟩;have H1 := n0.below b1;have s0 := (H1.b.cell (p := ⟨b, off, none⟩) lb).trans p0;have s1 := (H1.b.cell (p := ⟨b, off + 1, none⟩) lb).trans p1;have s2 := (H1.b.cell (p := ⟨b, off + 2, none⟩) lb).trans p2
  go_wp2_with fail
  refine (sok_any xC xD (x1.below H1.b) (x2.below H1.b) x3 x4).mono ?_;rintro e w2 ⟨rfl, b2⟩;have H2 := H1.below b2;have t0 := (H2.b.cell (p := ⟨b, off + 3, none⟩) lb).trans q0;have t1 := (H2.b.cell (p := ⟨b, off + 3 + 1, none⟩) lb).trans q1;have t2 := (H2.b.cell (p := ⟨b, off + 3 + 2, none⟩) lb).trans q2
  go_wp2_with fail
  refine (sok_any yC yD (y1.below H2.b) (y2.below H2.b) y3 y4).mono ?_;rintro e w3 ⟨rfl, b3⟩;have H3 := H2.below b3;have u0 := (H3.b.cell (p := ⟨b, off + 6, none⟩) lb).trans r0;have u1 := (H3.b.cell (p := ⟨b, off + 6 + 1, none⟩) lb).trans r1;have u2 := (H3.b.cell (p := ⟨b, off + 6 + 2, none⟩) lb).trans r2
  go_wp2_with fail
  refine (sok_any zC zD (z1.below H3.b) (z2.below H3.b) z3 z4).mono ?_;rintro e w4 ⟨rfl, b4⟩;have H4 := H3.below b4;obtain ⟨g0, g1, g2, g3, g4, g5⟩ := H4.room
  go_wp2
  exact bodyPost_ret (v := formV none 0 0 none 0 0 0) (by simp [results, Tryz.results105, go_sem, g0, g1, g2]) rfl H4.none
 clear hno;have h2' : ((N : Int) != 3) = true := by simpa using h2
 go_enter Tryz.func105, Tryz.ntmps105
 go_wp2_with fail
 refine (sok_any C D (hC.below n0.b) (hD.below n0.b) hn hm).mono ?_;rintro e w1 ⟨rfl, b1⟩;have H := n0.below b1;obtain ⟨r0, r1, r2, r3, r4, r5⟩ := H.room
 go_wp2
 exact bodyPost_ret (v := formV none 0 0 none 0 0 0) (by simp [results, Tryz.results105, go_sem, r0, r1, r2]) rfl H.none
end Go.Proofs.YtdaiaohlkdolmaaGreat
