/-
  One form and so many times another one; so many times a form; nothing, if what comes is not ok.
-/
import Derived.Test.YtdigmokjedckeaaGreatDoorAt
import Derived.BigRegion
import Derived.Deep.RegionHeld3
namespace Go.Proofs.YtdigmokjedckeaaGreatDoor
open Go.RowKit
set_option linter.unusedVariables false

/-- Each of one list, and so many times the other's. -/
def lin (xs ys : List Int) (n : Int) : List Int := List.zipWith (fun x y => x + n * y) xs ys
theorem lin_len {xs ys : List Int} {n : Int} {k : Nat} (hx : xs.length = k) (hy : ys.length = k) : (lin xs ys n).length = k := by simp [lin, hx, hy]
theorem lin_get {xs ys : List Int} {n : Int} {k i : Nat} (hx : xs.length = k) (hy : ys.length = k) (hi : i < k) : (lin xs ys n)[i]?.getD 0 = xs[i]?.getD 0 + n * ys[i]?.getD 0 := by
  have h1 : i < xs.length := by omega
  have h2 : i < ys.length := by omega
  have h3 : i < (lin xs ys n).length := by rw [lin_len hx hy]; exact hi
  rw [List.getElem?_eq_getElem h1, List.getElem?_eq_getElem h2, List.getElem?_eq_getElem h3]
  simp [lin]

/-- So many times each lies within a bound. -/
def bndT (P n : Int) (ys : List Int) : Prop := ∀ i : Nat, -P ≤ n * ys[i]?.getD 0 ∧ n * ys[i]?.getD 0 ≤ P
theorem bndT_of {M N n : Int} {ys : List Int} (hy : bnd M ys) (h1 : -N ≤ n) (h2 : n ≤ N) (h0 : 0 ≤ M) (h3 : 0 ≤ N) : bndT (N * M) n ys := by
  intro i
  obtain ⟨b1, b2⟩ := hy i
  generalize ys[i]?.getD 0 = y at *
  have hx' : n.natAbs ≤ N.toNat := by omega
  have hy' : y.natAbs ≤ M.toNat := by omega
  have hm : (n * y).natAbs ≤ N.toNat * M.toNat := by rw [Int.natAbs_mul]; exact Nat.mul_le_mul hx' hy'
  have e : ((N.toNat * M.toNat : Nat) : Int) = N * M := by rw [Int.natCast_mul, Int.toNat_of_nonneg h3, Int.toNat_of_nonneg h0]
  omega

set_option maxHeartbeats 1600000 in
theorem l1sum_any (a : Option Addr) (cap : Nat) (c : Option Addr) (cap' : Nat) (K : Int) (C D : List Int) (a' : Option Addr) (cap2 : Nat) (c' : Option Addr) (cap3 : Nat) (K' : Int) (C' D' : List Int) (n : Int) (w : World)
    (hC : Ints w a 3 C) (hD : Ints w c 2 D) (hC' : Ints w a' 3 C') (hD' : Ints w c' 2 D') (bC : bnd 1000000000000000000 C) (bD : bnd 1000000000000000000 D) (bK : -1000000000000000000 ≤ K ∧ K ≤ 1000000000000000000)
    (tC : bndT 1000000000000000000 n C') (tD : bndT 1000000000000000000 n D') (tK : -1000000000000000000 ≤ n * K' ∧ n * K' ≤ 1000000000000000000) :
    Calls Tryz.prog 126 #[formV a 3 cap c 2 cap' K, formV a' 3 cap2 c' 2 cap3 K', .int .i64 n] w fun e w' => ∃ B1 B2, e = .returned (formV (some ⟨B1, 0, none⟩) 3 3 (some ⟨B2, 0, none⟩) 2 2 (K + n * K')) ∧ Below w.heap.size w w' ∧ w.heap.size ≤ B1 ∧ B1 ≠ B2 ∧ w.heap.size ≤ B2 ∧ Blk w' B1 (lin C C' n) ∧ Blk w' B2 (lin D D' n) := by
  have LC := lin_len (n := n) hC.1 hC'.1
  have LD := lin_len (n := n) hD.1 hD'.1
  have HC : Hid _ := hC.1
  have HC' : Hid _ := hC'.1
  have HD : Hid _ := hD.1
  have HD' : Hid _ := hD'.1
  obtain ⟨L1, hL1⟩ : ∃ L, L = lin C C' n := ⟨_, rfl⟩
  obtain ⟨L2, hL2⟩ : ∃ L, L = lin D D' n := ⟨_, rfl⟩
  have G1 : ∀ i, i < 3 → L1[i]?.getD 0 = C[i]?.getD 0 + n * C'[i]?.getD 0 := fun i hi => by rw [hL1]; exact lin_get HC.out HC'.out hi
  have G2 : ∀ i, i < 2 → L2[i]?.getD 0 = D[i]?.getD 0 + n * D'[i]?.getD 0 := fun i hi => by rw [hL2]; exact lin_get HD.out HD'.out hi
  rw [← hL1] at LC
  rw [← hL2] at LD
  rw [← hL1, ← hL2]
  have HL1 : Hid (L1.length = 3) := LC
  have HL2 : Hid (L2.length = 2) := LD
  have GG1 : Hid _ := G1
  have GG2 : Hid _ := G2
  clear LC LD hL1 hL2 G1 G2
  obtain ⟨bK1, bK2⟩ := bK
  obtain ⟨tK1, tK2⟩ := tK
  go_enter Tryz.func126, Tryz.ntmps126
  go_wp2_with fail
  refine (szero_any _).mono ?_
  rintro e w1 ⟨B1, B2, rfl, b1, h1, h2, h3, k1, k2⟩
  rw [World.size_alloc, World.size_alloc, World.size_alloc] at h1 h3
  have p0 := (((Cel.new w _ _).alloc _).alloc _).below b1
  have p1 := ((Cel.new (w.alloc _) _ _).alloc _).below b1
  have p2 := (Cel.new ((w.alloc _).alloc _) _ _).below b1
  rw [World.size_alloc] at p1
  rw [World.size_alloc, World.size_alloc] at p2
  have hb : Below w.heap.size w w1 := ((((Below.refl _ _).alloc (Nat.le_refl _) _).alloc (by simp) _).alloc (by simp; omega) _).trans (b1.mono (by simp; omega))
  have hX1 := k1.lt
  have hX2 := k2.lt
  have hX0 : w.heap.size + 1 + 1 < w1.heap.size := p2.lt
  clear b1
  go_wp2_with fail
  go_loopw [8] (fun i wr => ∃ k : Nat, k ≤ 3 ∧ i = .int .i64 k ∧ Below w.heap.size w wr ∧ w1.heap.size < wr.heap.size ∧ Cel wr w.heap.size [.slice a 3 cap, .slice c 2 cap', .int .i64 K] 98 ∧ Cel wr (w.heap.size + 1) [.slice a' 3 cap2, .slice c' 2 cap3, .int .i64 K'] 98 ∧ Cel wr (w.heap.size + 1 + 1) [.slice none 0 0, .slice none 0 0, .int .i64 0] 98 ∧ Cel wr w1.heap.size [.slice (some ⟨B1, 0, none⟩) 3 3, .slice (some ⟨B2, 0, none⟩) 2 2, .int .i64 0] 98 ∧ Blk wr B1 (upTo L1 3 k) ∧ Blk wr B2 [0, 0]) (fun i _ => 3 - (intOf i).toNat)
  case atStart => exact ⟨0, by omega, rfl, hb.alloc hb.size _, by simp, p0.alloc _, p1.alloc _, p2.alloc _, Cel.new w1 _ _, by rw [upTo_zero]; exact k1.alloc _, k2.alloc _⟩
  case round =>
    clear p0 p1 p2 hb k1 k2
    obtain ⟨k, hk, rfl, hb, hz, p0, p1, p2, x0, k1, k2⟩ := hrel
    by_cases hlt : k < 3
    · obtain ⟨b, off, rfl, hcell⟩ := (hC.below hb).pos (by omega)
      obtain ⟨b', off', rfl, hcell'⟩ := (hC'.below hb).pos (by omega)
      have hck := hcell k hlt
      have hck' := hcell' k hlt
      have hlt' : (k : Int) < 3 := by omega
      have s0 := p0.cell 0
      have s1 := p1.cell 0
      have s2 := x0.cell 0
      simp only [List.getElem?_cons_zero] at s0 s1 s2
      have hco := k1.cell k (by rw [upTo_len HL1.out hk]; exact hlt)
      have hfo := k1.free k
      obtain ⟨d1, d2⟩ := bC k
      obtain ⟨d3, d4⟩ := tC k
      have e1 := GG1.out k hlt
      have R := k1.set k (L1[k]?.getD 0)
      rw [upTo_succ HL1.out hlt, e1] at R
      have Rb := hb.setCell (p := ⟨B1, k, none⟩) (by show w.heap.size ≤ B1; omega) (.int .i64 (C[k]?.getD 0 + n * C'[k]?.getD 0))
      have R0 := p0.setOther (B' := B1) (by omega) k (.int .i64 (C[k]?.getD 0 + n * C'[k]?.getD 0))
      have R1 := p1.setOther (B' := B1) (by omega) k (.int .i64 (C[k]?.getD 0 + n * C'[k]?.getD 0))
      have R2 := p2.setOther (B' := B1) (by omega) k (.int .i64 (C[k]?.getD 0 + n * C'[k]?.getD 0))
      have R3 := x0.setOther (B' := B1) (by omega) k (.int .i64 (C[k]?.getD 0 + n * C'[k]?.getD 0))
      have R4 := k2.setOther (B' := B1) (by omega) k (.int .i64 (C[k]?.getD 0 + n * C'[k]?.getD 0))
      clear hcell hcell' hC hD hC' hD' e1 p0 p1 p2 x0 k1 k2 hb bC bD tC tD
      go_wp2_with fail
      go_region
      go_wp2
      go_roundw
      case rel => exact ⟨k + 1, by omega, by go_num, Rb.drew, by show w1.heap.size < (World.setCell _ _ _).heap.size; rw [size_setCell]; exact hz, R0, R1, R2, R3, R, R4⟩
      case measure => simp [intOf]; omega
    · obtain rfl : k = 3 := by omega
      rw [upTo_end HL1.out (Nat.le_refl _)] at k1
      clear hC hC' bC tC
      go_wp2_with fail
      go_loopw [9] (fun i wr => ∃ k : Nat, k ≤ 2 ∧ i = .int .i64 k ∧ Below w.heap.size w wr ∧ w1.heap.size < wr.heap.size ∧ Cel wr w.heap.size [.slice a 3 cap, .slice c 2 cap', .int .i64 K] 98 ∧ Cel wr (w.heap.size + 1) [.slice a' 3 cap2, .slice c' 2 cap3, .int .i64 K'] 98 ∧ Cel wr (w.heap.size + 1 + 1) [.slice none 0 0, .slice none 0 0, .int .i64 0] 98 ∧ Cel wr w1.heap.size [.slice (some ⟨B1, 0, none⟩) 3 3, .slice (some ⟨B2, 0, none⟩) 2 2, .int .i64 0] 98 ∧ Blk wr B1 L1 ∧ Blk wr B2 (upTo L2 2 k)) (fun i _ => 2 - (intOf i).toNat)
      case atStart => exact ⟨0, by omega, rfl, hb, hz, p0, p1, p2, x0, k1, by rw [upTo_zero]; exact k2⟩
      case round =>
        clear p0 p1 p2 hb k1 k2 x0 hz
        obtain ⟨k, hk, rfl, hb, hz, p0, p1, p2, x0, k1, k2⟩ := hrel
        by_cases hlt : k < 2
        · obtain ⟨b, off, rfl, hcell⟩ := (hD.below hb).pos (by omega)
          obtain ⟨b', off', rfl, hcell'⟩ := (hD'.below hb).pos (by omega)
          have hck := hcell k hlt
          have hck' := hcell' k hlt
          have hlt' : (k : Int) < 2 := by omega
          have s0 := p0.cell 1
          have s1 := p1.cell 1
          have s2 := x0.cell 1
          simp only [List.getElem?_cons_zero, List.getElem?_cons_succ] at s0 s1 s2
          have hco := k2.cell k (by rw [upTo_len HL2.out hk]; exact hlt)
          have hfo := k2.free k
          obtain ⟨d1, d2⟩ := bD k
          obtain ⟨d3, d4⟩ := tD k
          have e1 := GG2.out k hlt
          have R := k2.set k (L2[k]?.getD 0)
          rw [upTo_succ HL2.out hlt, e1] at R
          have Rb := hb.setCell (p := ⟨B2, k, none⟩) (by show w.heap.size ≤ B2; omega) (.int .i64 (D[k]?.getD 0 + n * D'[k]?.getD 0))
          have R0 := p0.setOther (B' := B2) (by omega) k (.int .i64 (D[k]?.getD 0 + n * D'[k]?.getD 0))
          have R1 := p1.setOther (B' := B2) (by omega) k (.int .i64 (D[k]?.getD 0 + n * D'[k]?.getD 0))
          have R2 := p2.setOther (B' := B2) (by omega) k (.int .i64 (D[k]?.getD 0 + n * D'[k]?.getD 0))
          have R3 := x0.setOther (B' := B2) (by omega) k (.int .i64 (D[k]?.getD 0 + n * D'[k]?.getD 0))
          have R4 := k1.setOther (B' := B2) (by omega) k (.int .i64 (D[k]?.getD 0 + n * D'[k]?.getD 0))
          clear hcell hcell' hD hD' e1 p0 p1 p2 x0 k1 k2 hb bD tD
          go_wp2_with fail
          go_region
          go_wp2
          go_roundw
          case rel => exact ⟨k + 1, by omega, by go_num, Rb.drew, by show w1.heap.size < (World.setCell _ _ _).heap.size; rw [size_setCell]; exact hz, R0, R1, R2, R3, R4, R⟩
          case measure => simp [intOf]; omega
        · obtain rfl : k = 2 := by omega
          rw [upTo_end HL2.out (Nat.le_refl _)] at k2
          have s0 := p0.cell 2
          have s1 := p1.cell 2
          have s2 := x0.cell 2
          have s3 := x0.free 2
          have s4 := x0.cell 0
          have s5 := x0.cell 1
          have r0 := p2.cell 0
          have r1 := p2.cell 1
          have r2 := p2.cell 2
          have r3 := p2.free 0
          have r4 := p2.free 1
          have r5 := p2.free 2
          simp only [List.getElem?_cons_zero, List.getElem?_cons_succ] at s0 s1 s2 s4 s5 r0 r1 r2
          clear hD hD' bD tD p0 p1 p2 x0
          go_wp2
          refine bodyPost_ret (v := formV (some ⟨B1, 0, none⟩) 3 3 (some ⟨B2, 0, none⟩) 2 2 (K + n * K')) (by simp [results, Tryz.results126, go_sem, r0, r1, r2]) rfl ⟨B1, B2, rfl, ?_, by omega, h2, by omega, ?_, ?_⟩
          · exact (((hb.setCell (by simp only []; omega) _).setCell (by simp only []; omega) _).setCell (by simp only []; omega) _).setCell (by simp only []; omega) _
          · exact (((k1.setOther (by omega) _ _).setOther (by omega) _ _).setOther (by omega) _ _).setOther (by omega) _ _
          · exact (((k2.setOther (by omega) _ _).setOther (by omega) _ _).setOther (by omega) _ _).setOther (by omega) _ _

/-- So many times each of a list. -/
def mulL (n : Int) (zs : List Int) : List Int := zs.map fun z => n * z
theorem mulL_get {n : Int} {zs : List Int} {i : Nat} (h : i < zs.length) : (mulL n zs)[i]?.getD 0 = n * zs[i]?.getD 0 := by
  simp [mulL, h]

set_option maxHeartbeats 400000 in
theorem timesEach_any (a : Option Addr) (l cap : Nat) (zs : List Int) (n : Int) (w : World) (h : Ints w a l zs) (hl : l ≤ 1048576) (ht : bndT 1000000000000000000 n zs) :
    Calls Tryz.prog 149 #[.slice a l cap, .int .i64 n] w fun e w' => e = .returned (.slice (some ⟨w.heap.size, 0, none⟩) l l) ∧ Below w.heap.size w w' ∧ Blk w' w.heap.size (mulL n zs) := by
  have HZ : Hid (zs.length = l) := h.1
  have HM : Hid ((mulL n zs).length = l) := by show (mulL n zs).length = l; simp [mulL, h.1]
  obtain ⟨i0, hi, hz0, hz1, hz2⟩ := info_parts Tryz.infoInt
  go_enter Tryz.func149, Tryz.ntmps149
  go_wp2_with (at_make; refine wpList_make_full _ rfl (.tmp 9) (.tmp 9) 23 rfl w.heap.size 3 i0 (.int .i64 0) 1 Tryz.underlying23 hi hz0 hz1 .i64 .i64 _ _ l rfl rfl rfl rfl (by rw [hz2]; omega) (by unfold maxLen; omega) (Nat.le_refl _) ?_; intro w1 hown hgrow)
  have hb1 := Blk.made w l w1 hown
  have HB : Below w.heap.size w w1 := (Below.refl _ _).grown hgrow (Nat.le_refl _) (by simp)
  clear hown hgrow hi hz0 hz1 hz2
  go_loopw [6, 7, 13] (fun _ _ i wr => ∃ k : Nat, k ≤ l ∧ i = .int .i64 k ∧ Below w.heap.size w wr ∧ Blk wr w.heap.size (upTo (mulL n zs) l k)) (fun _ _ i _ => l - (intOf i).toNat)
  case atStart => exact ⟨0, Nat.zero_le _, rfl, HB, by rw [upTo_zero]; exact hb1⟩
  case round =>
    obtain ⟨k, hk, rfl, hnx, hblk⟩ := hrel
    by_cases hlt : k < l
    · obtain ⟨b, off, rfl, hcell⟩ := (h.below hnx).pos (by omega)
      have hck := hcell k hlt
      have hco := hblk.cell k (by rw [upTo_len HM.out hk]; exact hlt)
      have hfo := hblk.free k
      obtain ⟨d1, d2⟩ := ht k
      have R := hblk.set k ((mulL n zs)[k]?.getD 0)
      rw [upTo_succ HM.out hlt, mulL_get (by rw [HZ.out]; exact hlt)] at R
      have R2 := hnx.setCell (p := ⟨w.heap.size, k, none⟩) (Nat.le_refl _) (.int .i64 (n * zs[k]?.getD 0))
      clear hcell hb1 HB h ht hblk hnx
      go_wp2
      go_roundw
      case rel => exact ⟨k + 1, by omega, by go_num, R2, R⟩
      case measure => simp [intOf]; omega
    · go_wp2
      go_ret
      exact ⟨rfl, hnx, by rw [upTo_end HM.out (by omega)] at hblk; exact hblk⟩

end Go.Proofs.YtdigmokjedckeaaGreatDoor
