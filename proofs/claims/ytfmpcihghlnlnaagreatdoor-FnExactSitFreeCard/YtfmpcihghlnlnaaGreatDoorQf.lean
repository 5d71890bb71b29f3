/-
  Lemmas that the claim's last text rests on.
-/
import Derived.Test.YtfmpcihghlnlnaaGreatDoorQe
namespace Go.Proofs.YtfmpcihghlnlnaaGreatDoor
open Go.RowKit
set_option linter.unusedVariables false
set_option maxRecDepth 100000
set_option maxHeartbeats 25600000
variable {N cap : Nat} {cl : Int}
def fullB (l : List UInt8) : Bool := !(⟨l.toArray⟩ : ByteArray).toList.isEmpty
theorem sresok_any {c : Int} {a : Option Addr} {n : Nat} (zs : List Int) {w : World} (hC : Ints w a n zs) (hn : n <= 1048576) :
  Calls Tryz.prog 96 #[resP c a n cap] w fun e w' => e = .returned (.bool (fullB (resText c n zs))) /\ Below w.heap.size w w' := by
 obtain ⟨T, hTx⟩ : ∃ T : ByteArray, T = ⟨(resText c n zs).toArray⟩ := ⟨_, rfl⟩
 have HTX : Hid _ := hTx;clear hTx;have B0 := (Below.refl w.heap.size w).alloc (Nat.le_refl _) (.cells #[.int .i64 c, .slice a n cap] 55)
 go_enter Tryz.func96, Tryz.ntmps96
 go_wp2_with fail
 refine (stext_any zs (hC.alloc _) hn).mono ?_;rintro e w1 ⟨rfl, b1⟩;rw [<- HTX.out]
 go_wp2
 go_ret
 exact ⟨by rw [fullB, <- HTX.out]; rfl, btr B0 b1⟩
theorem iresok_any {c : Int} {a : Option Addr} {n : Nat} (zs : List Int) {w : World} (hC : Ints w a n zs) (hn : n <= 1048576) (hT : Lib.TabBelow Tryz.prog w.heap.size w "internal/strconv.uint64pow10" .u64 Lib.pow10Tab) :
  Calls Tryz.prog 112 #[resP c a n cap] w fun e w' => e = .returned (.bool (fullB (resText c n zs))) /\ Below w.heap.size w w' := by
 obtain ⟨T, hTx⟩ : ∃ T : ByteArray, T = ⟨(resText c n zs).toArray⟩ := ⟨_, rfl⟩
 have HTX : Hid _ := hTx;have HT : Hid _ := hT;clear hTx hT;have B0 := (Below.refl w.heap.size w).alloc (Nat.le_refl _) (.cells #[.int .i64 c, .slice a n cap] 55)
 go_enter Tryz.func112, Tryz.ntmps112
 go_wp2_with fail
 refine (itext_any zs (hC.alloc _) hn (fun w' h' => HT.out w' (btr B0 h'))).mono ?_;rintro e w1 ⟨rfl, b1⟩;rw [<- HTX.out]
 go_wp2
 go_ret
 exact ⟨by rw [fullB, <- HTX.out]; rfl, btr B0 b1⟩
theorem one_ints (w : World) (x : Int) (t : TypeId) : Ints (w.alloc (.cells #[.int .i64 x] t)) (some ⟨w.heap.size, 0, none⟩) 1 [x] :=
 ⟨rfl, fun i hi => ⟨w.heap.size, 0, rfl, by
  obtain rfl : i = 0 := by omega
  simp [go_sem]⟩⟩
theorem bet_one (x lo hi : Int) : betB lo hi [x] = inB x lo hi := by simp [betB]
theorem pln_same {ss : List L2V} {gn : Nat} {G : List Int} {sn : Nat} {S : List Int} : (betB 1 4 [cl] && (catB N ss && (allB 1000 S && trtB sn gn S G))) = plnB cl N ss gn G sn S := by
 rw [plnB, bet_one]
 by_cases h : (sn : Int) = 3
 ·rw [okN_is h]
 rw [trtB, okN_not h, okN_not h];simp
theorem splnok_any {ad : Option Addr} (ss : List L2V) {ga : Option Addr} {gn gc : Nat} (G : List Int) {sa : Option Addr} {sn sc : Nat} (S : List Int) {w : World} (h : PlAt w ad N ss ga gn G sa sn S) :
  Calls Tryz.prog 33 #[plV cl ad N cap ga gn gc sa sn sc] w fun e w' => e = .returned (.bool (plnB cl N ss gn G sn S)) /\ Below w.heap.size w w' := by
 have n0 := BP.new w [.int .i64 cl, .slice ad N cap, .slice ga gn gc, .slice sa sn sc] 37;obtain ⟨x1, hx1⟩ : ∃ x, x = inB cl 1 4 := ⟨_, rfl⟩
 obtain ⟨x2, hx2⟩ : ∃ x, x = catB N ss := ⟨_, rfl⟩
 obtain ⟨x3, hx3⟩ : ∃ x, x = okN 3 1000 sn S := ⟨_, rfl⟩
 obtain ⟨x4, hx4⟩ : ∃ x, x = trtB sn gn S G := ⟨_, rfl⟩
 have HB : Hid (plnB cl N ss gn G sn S = (x1 && (x2 && (x3 && x4)))) := by show _ = _; rw [plnB, hx1, hx2, hx3, hx4]
 have H1 : Hid _ := hx1;have H2 : Hid _ := hx2;have H3 : Hid _ := hx3;have H4 : Hid _ := hx4;clear hx1 hx2 hx3 hx4
 go_enter Tryz.func33, Tryz.ntmps33
 go_wp2_with fail
 refine (in_any).mono ?_;rintro e w1 ⟨rfl, rfl⟩;rw [<- H1.out]
 cases x1
 ·go_wp2
  go_ret
  exact ⟨ret_bool (by rw [HB.out]; rfl), n0.b⟩
 go_wp2_with fail
 refine (scat_any ss h.ha (h.alloc _).a h.za).mono ?_;rintro e w1 ⟨rfl, b1⟩;rw [<- H2.out];have n1 := n0.below b1;obtain ⟨c0, c1, c2, c3⟩ := n1.p.quadP;clear b1 n0
 cases x2
 ·go_wp2
  go_ret
  exact ⟨ret_bool (by rw [HB.out]; rfl), n1.b⟩
 go_wp2_with fail
 refine (all_any S _ _ (h.below n1.b).s h.zs).mono ?_;rintro e w2 ⟨rfl, rfl⟩;rw [<- H3.out]
 cases x3
 ·go_wp2
  go_ret
  exact ⟨ret_bool (by rw [HB.out]; rfl), n1.b⟩
 go_wp2_with fail
 refine (strt_any S G (h.below n1.b).s (h.below n1.b).g h.zs h.zg).mono ?_;rintro e w2 ⟨rfl, b2⟩;rw [<- H4.out];have n2 := n1.below b2
 go_wp2
 go_ret
 exact ⟨ret_bool (by rw [HB.out]; rfl), n2.b⟩
theorem iplnok_any {ad : Option Addr} (ss : List L2V) {ga : Option Addr} {gn gc : Nat} (G : List Int) {sa : Option Addr} {sn sc : Nat} (S : List Int) {w : World} (h : PlAt w ad N ss ga gn G sa sn S) :
  Calls Tryz.prog 45 #[plV cl ad N cap ga gn gc sa sn sc] w fun e w' => e = .returned (.bool (plnB cl N ss gn G sn S)) /\ Below w.heap.size w w' := by
 have n0 := (BP.new w [.int .i64 cl, .slice ad N cap, .slice ga gn gc, .slice sa sn sc] 37).alloc (.cells #[.int .i64 cl] 3);obtain ⟨x1, hx1⟩ : ∃ x, x = betB 1 4 [cl] := ⟨_, rfl⟩
 obtain ⟨x2, hx2⟩ : ∃ x, x = catB N ss := ⟨_, rfl⟩
 obtain ⟨x3, hx3⟩ : ∃ x, x = allB 1000 S := ⟨_, rfl⟩
 obtain ⟨x4, hx4⟩ : ∃ x, x = trtB sn gn S G := ⟨_, rfl⟩
 have HB : Hid (plnB cl N ss gn G sn S = (x1 && (x2 && (x3 && x4)))) := by show _ = _; rw [<- pln_same, hx1, hx2, hx3, hx4]
 have H1 : Hid _ := hx1;have H2 : Hid _ := hx2;have H3 : Hid _ := hx3;have H4 : Hid _ := hx4;clear hx1 hx2 hx3 hx4
 go_enter Tryz.func45, Tryz.ntmps45
 go_wp2_with fail
 refine (between_any [cl] _ _ (by have := one_ints (w.alloc (.cells #[.int .i64 cl, .slice ad N cap, .slice ga gn gc, .slice sa sn sc] 37)) cl 3; rw [World.size_alloc] at this; exact this) (by omega)).mono ?_;rintro e w1 ⟨rfl, rfl⟩;rw [<- H1.out]
 cases x1
 ·go_wp2
  go_ret
  exact ⟨ret_bool (by rw [HB.out]; rfl), n0.b⟩
 go_wp2_with fail
 refine (icat_any _ _ _ ss h.ha ((h.alloc _).alloc _).a h.za).mono ?_;rintro e w1 ⟨rfl, b1⟩;rw [<- H2.out];have n1 := n0.below b1;obtain ⟨c0, c1, c2, c3⟩ := n1.p.quadP;clear b1 n0
 cases x2
 ·go_wp2
  go_ret
  exact ⟨ret_bool (by rw [HB.out]; rfl), n1.b⟩
 go_wp2_with fail
 refine (within_any _ _ _ S (h.below n1.b).s h.zs).mono ?_;rintro e w2 ⟨rfl, rfl⟩;rw [<- H3.out]
 cases x3
 ·go_wp2
  go_ret
  exact ⟨ret_bool (by rw [HB.out]; rfl), n1.b⟩
 go_wp2_with fail
 refine (itrt_any S G (h.below n1.b).s (h.below n1.b).g h.zs h.zg).mono ?_;rintro e w2 ⟨rfl, b2⟩;rw [<- H4.out];have n2 := n1.below b2
 go_wp2
 go_ret
 exact ⟨ret_bool (by rw [HB.out]; rfl), n2.b⟩
theorem pln_parts {ss : List L2V} {gn : Nat} {G : List Int} {sn : Nat} {S : List Int} (h : plnB cl N ss gn G sn S = true) : (1 <= cl /\ cl <= 4) /\ (1 <= gn /\ gn <= 3) := by
 simp only [plnB, trtB, Bool.and_eq_true] at h;have h1 := inB_iff.1 h.1;have h2 := inB_iff.1 h.2.2.2.2.1
 omega
end Go.Proofs.YtfmpcihghlnlnaaGreatDoor
