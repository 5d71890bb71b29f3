/-
  Lemmas that the claim's last text rests on.
-/
import Derived.Test.YtpmihhbgjimpmaaGreatDoorNxU
namespace Go.Proofs.YtpmihhbgjimpmaaGreatDoor
open Go.RowKit Go.Deep
open World renaming size_alloc → qB
open Nat renaming le_refl → qC, zero_le → qD
set_option linter.unusedVariables false
set_option maxRecDepth 100000
set_option maxHeartbeats 25600000
variable {N ec en : Nat} {cl : Int} {ea : Option Addr}
theorem ihasC_any {h : Bool} {ta : Option Addr} {tn tc : Nat} {ua : Option Addr} {un uc : Nat} {w : World} :
  Calls Tryz.prog 102 #[gtV h ta tn tc ua un uc] w fun e w' => e = .returned (.bool h) /\ Below w.heap.size w w' := by
 have B0 := (Below.refl w.heap.size w).alloc (qC _) (.cells #[.bool h, .slice ta tn tc, .slice ua un uc] 85)
 go_enter Tryz.func102, Tryz.ntmps102
 go_wp2
 go_ret
 exact ⟨rfl, B0⟩
theorem iindex_any (ex : List GV) {w : World} (hE : GSG w ea ex) (lE : ex.length = en) (zE : en <= 1048576) :
  Calls Tryz.prog 140 #[.slice ea en ec, .func (.func 102) #[] #[]] w fun e w' => ∃ x : Int, e = .returned (.int .i64 x) /\ decide (0 <= x) = decide (hasN ex ≠ 0) /\ Below w.heap.size w w' := by
 have LE : Hid (ex.length = en) := lE;clear lE
 go_enter Tryz.func140, Tryz.ntmps140
 go_wp2_with fail
 go_loopw [5, 8] (fun _ i wr => ∃ k : Nat, k <= en /\ i = .int .i64 k /\ Below w.heap.size w wr /\ hasN (ex.take k) = 0) (fun _ i _ => en - (intOf i).toNat)
 case atStart => exact ⟨0, qD _, rfl, Below.refl _ _, by simp [hasN]⟩
 case round =>
  obtain ⟨k, hk, rfl, hb, hall⟩ := hrel;have HA : Hid _ := hall;clear hall
  by_cases hlt : k < en
  ·obtain ⟨b, off, rfl, hc, hr⟩ := (hE.below hb) k (by rw [LE.out]; exact hlt);generalize HG : ex[k]?.getD noG = g at *;have HG' : Hid (ex[k]?.getD noG = g) := HG;clear HG;obtain ⟨e0, e1, e2⟩ := cellsG hc;obtain ⟨gh, ⟨gta, gtn, gtc, gtx⟩, ⟨gua, gun, guc, gux⟩⟩ := g;have e0' : wr.cell? ⟨b, off + k * 3, none⟩ = some (.bool gh) := e0;have e1' : wr.cell? ⟨b, off + k * 3 + 1, none⟩ = some (.slice gta gtn gtc) := e1;have e2' : wr.cell? ⟨b, off + k * 3 + 2, none⟩ = some (.slice gua gun guc) := e2;have hI : Ints wr gta gtn gtx := hr.1.1;have zI : gtn <= 1048576 := hr.1.2;have hJ : Ints wr gua gun gux := hr.2.1.1;have zJ : gun <= 1048576 := hr.2.1.2;clear e0 e1 e2 hc hr;have hlt' : (k : Int) < (en : Int) := by omega
   have HN : Hid (gh = true -> hasN ex ≠ 0) := fun h => has_none (k := k) (by rw [LE.out]; exact hlt) (by rw [HG'.out]; exact h);have HS : Hid (gh = false -> hasN (ex.take (k + 1)) = 0) := fun h => by rw [has_snoc (by rw [LE.out]; exact hlt), HA.out, HG'.out, h]; rfl
   clear HG'
   go_wp2_with fail
   refine (ihasC_any).mono ?_;rintro e w1 ⟨rfl, b1⟩;have B1 := btr hb b1
   cases gh
   ·go_wp2
    go_roundw
    case rel => exact ⟨k + 1, by omega, by go_num, B1, HS.out (by first | rfl | trivial)⟩
    case measure => simp [intOf]; omega
   go_wp2
   go_ret
   exact ⟨_, rfl, by have := HN.out (by first | rfl | trivial); simp [this], B1⟩
  obtain rfl : k = en := by omega
  go_wp2
  go_ret
  exact ⟨-1, rfl, by have h := HA.out; rw [List.take_of_length_le (by rw [LE.out]; exact qC _)] at h; simp [h], hb⟩
theorem icontains_any (ex : List GV) {w : World} (hE : GSG w ea ex) (lE : ex.length = en) (zE : en <= 1048576) :
  Calls Tryz.prog 101 #[.slice ea en ec, .func (.func 102) #[] #[]] w fun e w' => e = .returned (.bool (decide (hasN ex ≠ 0))) /\ Below w.heap.size w w' := by
 go_enter Tryz.func101, Tryz.ntmps101
 go_wp2_with fail
 refine (iindex_any ex hE lE zE).mono ?_;rintro e w1 ⟨x, rfl, hx, b1⟩;have HX : Hid _ := hx;clear hx
 go_wp2
 go_ret
 exact ⟨ret_bool HX.out, b1⟩
theorem ineeds_any {u : Bool} {r : Int} {ba : Option Addr} {bn bc : Nat} {da : Option Addr} {dn dc : Nat} {ka : Option Addr} {kn kc : Nat} (ex : List GV) {w : World} (hE : GSG w ea ex) (lE : ex.length = en) (zE : en <= 1048576) :
  Calls Tryz.prog 58 #[ckV u r ba bn bc da dn dc ka kn kc ea en ec] w fun e w' => e = .returned (.bool (decide (0 < kn) || decide (hasN ex ≠ 0))) /\ Below w.heap.size w w' := by
 have B0 := (Below.refl w.heap.size w).alloc (qC _) (.cells #[.bool u, .int .i64 r, .slice ba bn bc, .slice da dn dc, .slice ka kn kc, .slice ea en ec] 35)
 by_cases hk : 0 < kn
 ·have hd1 : decide ((0 : Int) < (kn : Int)) = true := by simp; omega
  have hd2 : decide (0 < kn) = true := by simp; omega
  have HK : Hid _ := hd2;clear hk
  go_enter Tryz.func58, Tryz.ntmps58
  go_wp2
  go_ret
  exact ⟨ret_bool (by rw [HK.out]; rfl), B0⟩
 obtain rfl : kn = 0 := by omega
 go_enter Tryz.func58, Tryz.ntmps58
 go_wp2_with fail
 refine (icontains_any ex (hE.below B0) lE zE).mono ?_;rintro e w1 ⟨rfl, b1⟩
 go_wp2
 go_ret
 exact ⟨ret_bool (by simp), btr B0 b1⟩
theorem iall_any {u : Bool} {r : Int} {ba : Option Addr} {bn bc : Nat} {da : Option Addr} {dn dc : Nat} {ka : Option Addr} {kn kc : Nat} (ex : List GV) {w : World} (hE : GSG w ea ex) (lE : ex.length = en) (zE : en <= 1048576) :
  Calls Tryz.prog 60 #[ckV u r ba bn bc da dn dc ka kn kc ea en ec] w fun e w' => e = .returned (.bool (hasAll ex)) /\ Below w.heap.size w w' := by
 have LE : Hid (ex.length = en) := lE;clear lE;have B0 := (Below.refl w.heap.size w).alloc (qC _) (.cells #[.bool u, .int .i64 r, .slice ba bn bc, .slice da dn dc, .slice ka kn kc, .slice ea en ec] 35)
 go_enter Tryz.func60, Tryz.ntmps60
 go_wp2_with fail
 obtain ⟨W0, hW0⟩ : ∃ W, W = w.alloc (.cells #[.bool u, .int .i64 r, .slice ba bn bc, .slice da dn dc, .slice ka kn kc, .slice ea en ec] 35) := ⟨_, rfl⟩
 rw [<- hW0] at B0 ⊢;clear hW0
 go_loopw [4, 8] (fun _ i wr => ∃ k : Nat, k <= en /\ i = .int .i64 k /\ Below w.heap.size w wr /\ hasAll (ex.take k) = true) (fun _ i _ => en - (intOf i).toNat)
 case atStart => exact ⟨0, qD _, rfl, B0, rfl⟩
 case round =>
  obtain ⟨k, hk, rfl, hb, hall⟩ := hrel;have HA : Hid _ := hall;clear hall
  by_cases hlt : k < en
  ·obtain ⟨b, off, rfl, hc, hr⟩ := (hE.below hb) k (by rw [LE.out]; exact hlt);generalize HG : ex[k]?.getD noG = g at *;have HG' : Hid (ex[k]?.getD noG = g) := HG;clear HG;obtain ⟨e0, e1, e2⟩ := cellsG hc;obtain ⟨gh, ⟨gta, gtn, gtc, gtx⟩, ⟨gua, gun, guc, gux⟩⟩ := g;have e0' : wr.cell? ⟨b, off + k * 3, none⟩ = some (.bool gh) := e0;have e1' : wr.cell? ⟨b, off + k * 3 + 1, none⟩ = some (.slice gta gtn gtc) := e1;have e2' : wr.cell? ⟨b, off + k * 3 + 2, none⟩ = some (.slice gua gun guc) := e2;have hI : Ints wr gta gtn gtx := hr.1.1;have zI : gtn <= 1048576 := hr.1.2;have hJ : Ints wr gua gun gux := hr.2.1.1;have zJ : gun <= 1048576 := hr.2.1.2;clear e0 e1 e2 hc hr;have hlt' : (k : Int) < (en : Int) := by omega
   have bA := hb.alloc hb.size (.cells #[.bool gh, .slice gta gtn gtc, .slice gua gun guc] 85)
   cases gh
   ·have HN : Hid (hasAll ex = false) := by
     show _ = _
     rw [hasAll, List.all_eq_false];have hl : k < ex.length := by rw [LE.out]; exact hlt
     have h := HG'.out;rw [List.getElem?_eq_getElem hl] at h
     exact ⟨ex[k], List.getElem_mem hl, by simp only [Option.getD_some] at h; rw [h]; simp⟩
    go_wp2
    go_ret
    exact ⟨ret_bool (by rw [HN.out]), bA⟩
   have HS : Hid (hasAll (ex.take (k + 1)) = true) := by
    show _ = _
    have hl : k < ex.length := by rw [LE.out]; exact hlt
    have h := HG'.out;rw [List.getElem?_eq_getElem hl] at h;simp only [Option.getD_some] at h;have h1 := HA.out;rw [hasAll] at h1 ⊢;rw [List.take_succ_eq_append_getElem hl, List.all_append, h1, h]; rfl
   go_wp2
   go_roundw
   case rel => exact ⟨k + 1, by omega, by go_num, bA, HS.out⟩
   case measure => simp [intOf]; omega
  obtain rfl : k = en := by omega
  go_wp2
  go_ret
  exact ⟨ret_bool (by have h := HA.out; rw [List.take_of_length_le (by rw [LE.out]; exact qC _)] at h; rw [h]), hb⟩
theorem igots_any {ad : Option Addr} {cap : Nat} {ga : Option Addr} {gn gc : Nat} {sa : Option Addr} {sn sc : Nat} (ss : List L2V) (G S : List Int) {u : Bool} {r : Int} {ba : Option Addr} {bn bc : Nat} {da : Option Addr} {dn dc : Nat} {ka : Option Addr} {kn kc : Nat} {ea : Option Addr} {en ec : Nat} (bx : List Int) (ex : List GV) {w : World} (hp : PlAt w ad N ss ga gn G sa sn S) (hcat : catB N ss = true) (hB : Ints w ba bn bx) (zb : bn <= 1048576) (hE : GSG w ea ex) (lE : ex.length = en) (zE : en <= 1048576) :
  Calls Tryz.prog 57 #[ckV u r ba bn bc da dn dc ka kn kc ea en ec, plV cl ad N cap ga gn gc sa sn sc] w fun e w' => e = .returned (.bool (gotsB cl gn bn bx G (catP ss) (pinsA ss) en ex)) /\ Below w.heap.size w w' := by
 have LE : Hid (ex.length = en) := lE;have HCT : Hid _ := hcat;clear lE hcat;have y0 := (Cel.new w [.bool u, .int .i64 r, .slice ba bn bc, .slice da dn dc, .slice ka kn kc, .slice ea en ec] 35).alloc (.cells #[.int .i64 cl, .slice ad N cap, .slice ga gn gc, .slice sa sn sc] 26);have q0 := Cel.new (w.alloc (.cells #[.bool u, .int .i64 r, .slice ba bn bc, .slice da dn dc, .slice ka kn kc, .slice ea en ec] 35)) [.int .i64 cl, .slice ad N cap, .slice ga gn gc, .slice sa sn sc] 26;rw [qB] at q0;have B0 := ((Below.refl w.heap.size w).alloc (qC _) (.cells #[.bool u, .int .i64 r, .slice ba bn bc, .slice da dn dc, .slice ka kn kc, .slice ea en ec] 35)).alloc (by simp) (.cells #[.int .i64 cl, .slice ad N cap, .slice ga gn gc, .slice sa sn sc] 26)
 by_cases hc : en = gn
 ·have hc' : ((en : Int) != (gn : Int)) = false := by simp [hc]
  have HC : Hid _ := hc;clear hc
  go_enter Tryz.func57, Tryz.ntmps57
  go_wp2_with fail
  obtain ⟨W0, hW0⟩ : ∃ W, W = (w.alloc (.cells #[.bool u, .int .i64 r, .slice ba bn bc, .slice da dn dc, .slice ka kn kc, .slice ea en ec] 35)).alloc (.cells #[.int .i64 cl, .slice ad N cap, .slice ga gn gc, .slice sa sn sc] 26) := ⟨_, rfl⟩
  rw [<- hW0] at q0 y0 B0 ⊢;clear hW0
  go_loopw [5, 6, 7, 18] (fun _ _ _ i wr => ∃ k : Nat, k <= en /\ i = .int .i64 k /\ Below W0.heap.size W0 wr /\ gotsTo cl gn bn bx G (catP ss) (pinsA ss) ex k = true) (fun _ _ _ i _ => en - (intOf i).toNat)
  case atStart => exact ⟨0, qD _, rfl, Below.refl _ _, rfl⟩
  case round =>
   obtain ⟨k, hk, rfl, hb0, hall⟩ := hrel;have HA : Hid _ := hall;clear hall;have hb := btr B0 hb0;obtain ⟨c0, c1, c2, c3⟩ := (q0.below hb0).quadP;obtain ⟨d0, d1, d2, d3, d4, d5⟩ := (y0.below hb0).sixP
   by_cases hlt : k < en
   ·obtain ⟨b, off, rfl, hc, hr⟩ := (hE.below hb) k (by rw [LE.out]; exact hlt);generalize HG : ex[k]?.getD noG = g at *;have HG' : Hid (ex[k]?.getD noG = g) := HG;clear HG;obtain ⟨e0, e1, e2⟩ := cellsG hc;obtain ⟨gh, ⟨gta, gtn, gtc, gtx⟩, ⟨gua, gun, guc, gux⟩⟩ := g;have e0' : wr.cell? ⟨b, off + k * 3, none⟩ = some (.bool gh) := e0;have e1' : wr.cell? ⟨b, off + k * 3 + 1, none⟩ = some (.slice gta gtn gtc) := e1;have e2' : wr.cell? ⟨b, off + k * 3 + 2, none⟩ = some (.slice gua gun guc) := e2;have hI : Ints wr gta gtn gtx := hr.1.1;have zI : gtn <= 1048576 := hr.1.2;have hJ : Ints wr gua gun gux := hr.2.1.1;have zJ : gun <= 1048576 := hr.2.1.2;clear e0 e1 e2 hc hr;have hlt' : (k : Int) < (en : Int) := by omega
    have NO : Hid (gotP cl gn bn bx G (catP ss) (pinsA ss) k ⟨gh, ⟨gta, gtn, gtc, gtx⟩, ⟨gua, gun, guc, gux⟩⟩ = false -> gotsB cl gn bn bx G (catP ss) (pinsA ss) en ex = false) := fun h => by rw [gotsB, gotsTo, range_no hlt (by rw [HG'.out]; exact h)]; simp
    have YES : Hid (gotP cl gn bn bx G (catP ss) (pinsA ss) k ⟨gh, ⟨gta, gtn, gtc, gtx⟩, ⟨gua, gun, guc, gux⟩⟩ = true -> gotsTo cl gn bn bx G (catP ss) (pinsA ss) ex (k + 1) = true) := fun h => range_go HA.out (by rw [HG'.out]; exact h);have bA := hb0.alloc hb0.size (.cells #[.bool gh, .slice gta gtn gtc, .slice gua gun guc] 85);have BA := hb.alloc hb.size (.cells #[.bool gh, .slice gta gtn gtc, .slice gua gun guc] 85);have qA := (q0.below hb0).alloc (.cells #[.bool gh, .slice gta gtn gtc, .slice gua gun guc] 85);have yA := (y0.below hb0).alloc (.cells #[.bool gh, .slice gta gtn gtc, .slice gua gun guc] 85);obtain ⟨v0, v1, v2, v3⟩ := qA.quadP;obtain ⟨r0, r1, r2, r3, r4, r5⟩ := yA.sixP;clear qA yA
    cases gh
    ·obtain ⟨x, hx⟩ : ∃ x, x = (decide (gtn = 0) && decide (gun = 0)) := ⟨_, rfl⟩
     have HX : Hid (x = (decide (gtn = 0) && decide (gun = 0))) := hx;clear hx
     go_wp2_with fail
     refine (inone_any).mono ?_;rintro e w1 ⟨rfl, b1⟩;rw [<- HX.out];have B1 := btr BA b1;have b01 := btr bA b1
     cases x
     ·have HV : Hid _ := NO.out (by rw [got_no]; exact HX.out.symm)
      go_wp2
      go_ret
      exact ⟨ret_bool (by rw [HV.out]), B1⟩
     have HY : Hid _ := YES.out (by rw [got_no]; exact HX.out.symm)
     go_wp2
     go_roundw
     case rel => exact ⟨k + 1, by omega, by go_num, b01, HY.out⟩
     case measure => simp [intOf]; omega
    obtain ⟨x1, hx1⟩ : ∃ x, x = seqsB cl gun gux := ⟨_, rfl⟩
    have H1 : Hid (x1 = seqsB cl gun gux) := hx1;obtain ⟨x2, hx2⟩ : ∃ x, x = (keepT bn gn bx G (catP ss) k gtn gtx && stillB (pinsA ss) gtx) := ⟨_, rfl⟩
    have H2 : Hid (x2 = (keepT bn gn bx G (catP ss) k gtn gtx && stillB (pinsA ss) gtx)) := hx2
    have HP2 : Hid (gotP cl gn bn bx G (catP ss) (pinsA ss) k ⟨true, ⟨gta, gtn, gtc, gtx⟩, ⟨gua, gun, guc, gux⟩⟩ = (x2 && x1)) := by
     show _ = _
     rw [got_yes, hx1, hx2]
     show (keepT bn gn bx G (catP ss) k gtn gtx && (stillB (pinsA ss) gtx && seqsB cl gun gux)) = _
     rw [Bool.and_assoc]
    clear hx1 hx2
    go_wp2_with fail
    refine (iseqs_any gux (hJ.alloc _) zJ).mono ?_;rintro e w1 ⟨rfl, b1⟩;rw [<- H1.out];have bg := (Cel.new wr [.bool true, .slice gta gtn gtc, .slice gua gun guc] 85).below b1;have B1 := btr BA b1;have b01 := btr bA b1;have q1 := q0.below b01;have y1 := y0.below b01;obtain ⟨i0, i1, i2⟩ := bg.three;obtain ⟨j0, j1, j2, j3⟩ := q1.quadP;obtain ⟨l0, l1, l2, l3, l4, l5⟩ := y1.sixP
    cases x1
    ·have HV : Hid _ := NO.out (by rw [HP2.out]; simp)
     go_wp2_with fail
     refine (inone_any).mono ?_;rintro e w2 ⟨rfl, b2⟩
     go_wp2
     go_ret
     exact ⟨ret_bool (by rw [HV.out]), btr B1 b2⟩
    go_wp2_with fail
    refine (ikeeps_any ss G S bx gtx (hp.below B1) HCT.out (hB.below B1) zb ((hI.alloc _).below b1) zI).mono ?_;rintro e w2 ⟨rfl, b2⟩;rw [<- H2.out];have bg2 := bg.below b2;have B2 := btr B1 b2;have b02 := btr b01 b2;obtain ⟨m0, m1, m2⟩ := bg2.three
    cases x2
    ·have HV : Hid _ := NO.out (by rw [HP2.out]; rfl)
     go_wp2_with fail
     refine (inone_any).mono ?_;rintro e w3 ⟨rfl, b3⟩
     go_wp2
     go_ret
     exact ⟨ret_bool (by rw [HV.out]), btr B2 b3⟩
    have HY : Hid _ := YES.out (by rw [HP2.out]; rfl)
    go_wp2
    go_roundw
    case rel => exact ⟨k + 1, by omega, by go_num, b02, HY.out⟩
    case measure => simp [intOf]; omega
   obtain rfl : k = en := by omega
   go_wp2
   go_ret
   exact ⟨ret_bool (by rw [gotsB, HA.out, HC.out]; simp), hb⟩
 have hc' : ((en : Int) != (gn : Int)) = true := by simp; omega
 go_enter Tryz.func57, Tryz.ntmps57
 go_wp2
 go_ret
 exact ⟨ret_bool (by rw [gotsB]; simp [hc]), B0⟩
def lastQ (fs : List QV) (k : Nat) : Int := if k = 0 then -1 else (fs[k - 1]?.getD noQ).x
theorem want_low {fs : List QV} {k : Nat} (h : (fs[k]?.getD noQ).x <= lastQ fs k) : wantP cl N fs k = false := by
 unfold lastQ at h
 by_cases hk : k = 0
 ·rw [if_pos hk] at h;rw [wantP, inCallB, inB_not.2 (by omega)]; rfl
 rw [if_neg hk] at h;rw [wantP];have : decide (k = 0 \/ (fs[k - 1]?.getD noQ).x < (fs[k]?.getD noQ).x) = false := by simp; omega
 rw [this]; simp
theorem want_high {fs : List QV} {k : Nat} (h : ¬ (fs[k]?.getD noQ).x <= lastQ fs k) : wantP cl N fs k = inCallB cl N (fs[k]?.getD noQ).x (fs[k]?.getD noQ).q (fs[k]?.getD noQ).c (fs[k]?.getD noQ).t.n (fs[k]?.getD noQ).t.x := by
 rw [wantP]
 have : decide (k = 0 \/ (fs[k - 1]?.getD noQ).x < (fs[k]?.getD noQ).x) = true := by
  unfold lastQ at h
  by_cases hk : k = 0
  ·simp [hk]
  rw [if_neg hk] at h;simp; omega
 rw [this]; simp
theorem last_succ (fs : List QV) (k : Nat) : lastQ fs (k + 1) = (fs[k]?.getD noQ).x := by rw [lastQ, if_neg (by omega)]; rfl
theorem iwants_any {ad : Option Addr} {cap : Nat} {ga : Option Addr} {gn gc : Nat} {sa : Option Addr} {sn sc : Nat} (ss : List L2V) (G S : List Int) {u : Bool} {r : Int} {ba : Option Addr} {bn bc : Nat} {da : Option Addr} {dn dc : Nat} {ka : Option Addr} {kn kc : Nat} {ea : Option Addr} {en ec : Nat} (kx : List QV) {w : World} (hp : PlAt w ad N ss ga gn G sa sn S) (hpl : plnB cl N ss gn G sn S = true) (hK : QSG w ka kx) (lK : kx.length = kn) (zK : kn <= 1048576) (hTB : Lib.TabBelow Tryz.prog w.heap.size w "internal/strconv.uint64pow10" .u64 Lib.pow10Tab) :
  Calls Tryz.prog 56 #[ckV u r ba bn bc da dn dc ka kn kc ea en ec, plV cl ad N cap ga gn gc sa sn sc] w fun e w' => e = .returned (.bool (wantsB cl N kn kx)) /\ Below w.heap.size w w' := by
 have LK : Hid (kx.length = kn) := lK;have HPL : Hid _ := hpl;have HTB : Hid _ := hTB;clear lK hpl hTB;have y0 := (Cel.new w [.bool u, .int .i64 r, .slice ba bn bc, .slice da dn dc, .slice ka kn kc, .slice ea en ec] 35).alloc (.cells #[.int .i64 cl, .slice ad N cap, .slice ga gn gc, .slice sa sn sc] 26);have q0 := Cel.new (w.alloc (.cells #[.bool u, .int .i64 r, .slice ba bn bc, .slice da dn dc, .slice ka kn kc, .slice ea en ec] 35)) [.int .i64 cl, .slice ad N cap, .slice ga gn gc, .slice sa sn sc] 26;rw [qB] at q0;have B0 := ((Below.refl w.heap.size w).alloc (qC _) (.cells #[.bool u, .int .i64 r, .slice ba bn bc, .slice da dn dc, .slice ka kn kc, .slice ea en ec] 35)).alloc (by simp) (.cells #[.int .i64 cl, .slice ad N cap, .slice ga gn gc, .slice sa sn sc] 26)
 go_enter Tryz.func56, Tryz.ntmps56
 go_wp2_with fail
 obtain ⟨W0, hW0⟩ : ∃ W, W = (w.alloc (.cells #[.bool u, .int .i64 r, .slice ba bn bc, .slice da dn dc, .slice ka kn kc, .slice ea en ec] 35)).alloc (.cells #[.int .i64 cl, .slice ad N cap, .slice ga gn gc, .slice sa sn sc] 26) := ⟨_, rfl⟩
 rw [<- hW0] at q0 y0 B0 ⊢;clear hW0
 go_loopw [5, 7, 11] (fun la _ i wr => ∃ k : Nat, k <= kn /\ i = .int .i64 k /\ la = .int .i64 (lastQ kx k) /\ Below W0.heap.size W0 wr /\ (List.range k).all (wantP cl N kx) = true) (fun _ _ i _ => kn - (intOf i).toNat)
 case atStart => exact ⟨0, qD _, rfl, rfl, Below.refl _ _, rfl⟩
 case round =>
  obtain ⟨k, hk, rfl, rfl, hb0, hall⟩ := hrel;have HA : Hid _ := hall;clear hall;have hb := btr B0 hb0
  by_cases hlt : k < kn
  ·obtain ⟨b, off, rfl, hc, hr⟩ := (hK.below hb) k (by rw [LK.out]; exact hlt);have LOW : Hid _ := want_low (cl := cl) (N := N) (fs := kx) (k := k);have HIGH : Hid _ := want_high (cl := cl) (N := N) (fs := kx) (k := k);have LS : Hid _ := last_succ kx k;generalize HG : kx[k]?.getD noQ = g at *;have HG' : Hid (kx[k]?.getD noQ = g) := HG;clear HG;obtain ⟨e0, e1, e2, e3⟩ := cellsQ hc;obtain ⟨gx, gq, gz, ⟨gta, gtn, gtc, gtx⟩⟩ := g;have e0' : wr.cell? ⟨b, off + k * 4, none⟩ = some (.int .i64 gx) := e0;have e1' : wr.cell? ⟨b, off + k * 4 + 1, none⟩ = some (.int .i64 gq) := e1;have e2' : wr.cell? ⟨b, off + k * 4 + 2, none⟩ = some (.int .i64 gz) := e2;have e3' : wr.cell? ⟨b, off + k * 4 + 3, none⟩ = some (.slice gta gtn gtc) := e3;have hI : Ints wr gta gtn gtx := hr.1.1;have zI : gtn <= 1048576 := hr.1.2;clear e0 e1 e2 e3 hc hr;have hlt' : (k : Int) < (kn : Int) := by omega
   obtain ⟨la, hla⟩ : ∃ la, la = lastQ kx k := ⟨_, rfl⟩
   have HLA : Hid (la = lastQ kx k) := hla;rw [<- hla];clear hla;have NO : Hid (wantP cl N kx k = false -> wantsB cl N kn kx = false) := fun h => range_no hlt h;have YES : Hid (wantP cl N kx k = true -> (List.range (k + 1)).all (wantP cl N kx) = true) := fun h => range_go HA.out h;have bA := hb0.alloc hb0.size (.cells #[.int .i64 gx, .int .i64 gq, .int .i64 gz, .slice gta gtn gtc] 59);have BA := hb.alloc hb.size (.cells #[.int .i64 gx, .int .i64 gq, .int .i64 gz, .slice gta gtn gtc] 59);have qA := (q0.below hb0).alloc (.cells #[.int .i64 gx, .int .i64 gq, .int .i64 gz, .slice gta gtn gtc] 59);obtain ⟨v0, v1, v2, v3⟩ := qA.quadP
   by_cases hle : gx <= la
   ·have HV : Hid _ := NO.out (LOW.out (by rw [<- HLA.out]; exact hle));clear qA
    go_wp2
    go_ret
    exact ⟨ret_bool (by rw [HV.out]), BA⟩
   have HE : Hid (wantP cl N kx k = inCallB cl N gx gq gz gtn gtx) := HIGH.out (by rw [<- HLA.out]; exact hle);obtain ⟨x, hx⟩ : ∃ x, x = inCallB cl N gx gq gz gtn gtx := ⟨_, rfl⟩
   have HX : Hid (x = inCallB cl N gx gq gz gtn gtx) := hx;have hle' : decide (gx <= la) = false := by simpa using hle
   clear hx hle LOW HIGH qA
   go_wp2_with fail
   refine (icallok_any ss G S gtx (hp.below BA) (hI.alloc _) zI (fun w' h' => HTB.out w' (btr BA h'))).mono ?_;rintro e w1 ⟨rfl, b1⟩;rw [HPL.out, <- HX.out];have bg := (Cel.new wr [.int .i64 gx, .int .i64 gq, .int .i64 gz, .slice gta gtn gtc] 59).below b1;have B1 := btr BA b1;have b01 := btr bA b1;obtain ⟨i0, i1, i2, i3⟩ := bg.quadP
   cases x
   ·have HV : Hid _ := NO.out (by rw [HE.out, <- HX.out])
    go_wp2
    go_ret
    exact ⟨ret_bool (by rw [HV.out]), B1⟩
   have HY : Hid _ := YES.out (by rw [HE.out, <- HX.out])
   go_wp2
   go_roundw
   case rel => exact ⟨k + 1, by omega, by go_num, by rw [LS.out], b01, HY.out⟩
   case measure => simp [intOf]; omega
  obtain rfl : k = kn := by omega
  go_wp2
  go_ret
  exact ⟨ret_bool (by rw [wantsB, HA.out]), hb⟩
theorem iclkok_any (cl : Int) (ad : Option Addr) (N cap : Nat) (ga : Option Addr) (gn gc : Nat) (sa : Option Addr) (sn sc : Nat) (ss : List L2V) (G S : List Int) (u : Bool) (r : Int) (ba : Option Addr) (bn bc : Nat) (bx : List Int) (da : Option Addr) (dn dc : Nat) (dx : List DV) (ka : Option Addr) (kn kc : Nat) (kx : List QV) (ea : Option Addr) (en ec : Nat) (ex : List GV) {w : World} (hp : PlAt w ad N ss ga gn G sa sn S) (h : CkAt w ba bn bx da dn dx ka kn kx ea en ex) (hTB : Lib.TabBelow Tryz.prog w.heap.size w "internal/strconv.uint64pow10" .u64 Lib.pow10Tab) :
  Calls Tryz.prog 16 #[plV cl ad N cap ga gn gc sa sn sc, ckV u r ba bn bc da dn dc ka kn kc ea en ec] w fun e w' => e = .returned (.bool (clkB cl N ss gn G sn S u r bn bx dn dx kn kx en ex)) /\ Below w.heap.size w w' := by
 have HTB : Hid _ := hTB;clear hTB;have q0 := (Cel.new w [.int .i64 cl, .slice ad N cap, .slice ga gn gc, .slice sa sn sc] 26).alloc (.cells #[.bool u, .int .i64 r, .slice ba bn bc, .slice da dn dc, .slice ka kn kc, .slice ea en ec] 35);have y0 := Cel.new (w.alloc (.cells #[.int .i64 cl, .slice ad N cap, .slice ga gn gc, .slice sa sn sc] 26)) [.bool u, .int .i64 r, .slice ba bn bc, .slice da dn dc, .slice ka kn kc, .slice ea en ec] 35;rw [qB] at y0;have B0 := ((Below.refl w.heap.size w).alloc (qC _) (.cells #[.int .i64 cl, .slice ad N cap, .slice ga gn gc, .slice sa sn sc] 26)).alloc (by simp) (.cells #[.bool u, .int .i64 r, .slice ba bn bc, .slice da dn dc, .slice ka kn kc, .slice ea en ec] 35)
 cases hpl : plnB cl N ss gn G sn S
 ·go_enter Tryz.func16, Tryz.ntmps16
  go_wp2_with fail
  refine (iplnok_any _ ss G S (hp.below B0)).mono ?_;rintro e w1 ⟨rfl, b1⟩;rw [hpl]
  go_wp2
  go_ret
  exact ⟨ret_bool (by rw [clkB, hpl]; rfl), btr B0 b1⟩
 have HC : Hid _ := pln_catC hpl;have HP : Hid _ := hpl;clear hpl;obtain ⟨x1, hx1⟩ : ∃ y, y = inB r 0 200 := ⟨_, rfl⟩
 obtain ⟨x2, hx2⟩ : ∃ y, y = okN 3 10000 bn bx := ⟨_, rfl⟩
 obtain ⟨x3, hx3⟩ : ∃ y, y = donesB cl dn dx := ⟨_, rfl⟩
 obtain ⟨x4, hx4⟩ : ∃ y, y = wantsB cl N kn kx := ⟨_, rfl⟩
 obtain ⟨x5, hx5⟩ : ∃ y, y = gotsB cl gn bn bx G (catP ss) (pinsA ss) en ex := ⟨_, rfl⟩
 have HB : Hid (clkB cl N ss gn G sn S u r bn bx dn dx kn kx en ex = (x1 && (x2 && (x3 && (x4 && (x5 && (u || (decide (kn = 0) && decide (hasN ex = 0))))))))) := by show _ = _; rw [clkB, clerkB, HP.out, hx1, hx2, hx3, hx4, hx5]; rfl
 have H1 : Hid _ := hx1;have H2 : Hid _ := hx2;have H3 : Hid _ := hx3;have H4 : Hid _ := hx4;have H5 : Hid _ := hx5;clear hx1 hx2 hx3 hx4 hx5
 go_enter Tryz.func16, Tryz.ntmps16
 go_wp2_with fail
 refine (iplnok_any _ ss G S (hp.below B0)).mono ?_;rintro e w1 ⟨rfl, b1⟩;rw [HP.out];have B1 := btr B0 b1;have q1 := q0.below b1;have y1 := y0.below b1;clear q0 y0 B0 b1;obtain ⟨c0, c1, c2, c3⟩ := q1.quadP;obtain ⟨d0, d1, d2, d3, d4, d5⟩ := y1.sixP
 go_wp2_with fail
 refine (iroundC_any).mono ?_;rintro e w2 ⟨rfl, b2⟩;rw [<- H1.out];have B2 := btr B1 b2;have q2 := q1.below b2;have y2 := y1.below b2;clear q1 y1 B1 b2 c0 c1 c2 c3 d0 d1 d2 d3 d4 d5
 cases x1
 ·go_wp2
  go_ret
  exact ⟨ret_bool (by rw [HB.out]; rfl), B2⟩
 obtain ⟨c0, c1, c2, c3⟩ := q2.quadP;obtain ⟨d0, d1, d2, d3, d4, d5⟩ := y2.sixP
 go_wp2_with fail
 refine (ival_any bx (h.below B2).b h.zb).mono ?_;rintro e wq ⟨rfl, rfl⟩;rw [<- H2.out]
 cases x2
 ·go_wp2
  go_ret
  exact ⟨ret_bool (by rw [HB.out]; rfl), B2⟩
 go_wp2_with fail
 refine (idones_any dx h.ld (h.below B2).d h.zd (fun w' h' => HTB.out w' (btr B2 h'))).mono ?_;rintro e w3 ⟨rfl, b3⟩;rw [<- H3.out];have B3 := btr B2 b3;have q3 := q2.below b3;have y3 := y2.below b3;clear q2 y2 B2 b3 c0 c1 c2 c3 d0 d1 d2 d3 d4 d5
 cases x3
 ·go_wp2
  go_ret
  exact ⟨ret_bool (by rw [HB.out]; rfl), B3⟩
 obtain ⟨c0, c1, c2, c3⟩ := q3.quadP;obtain ⟨d0, d1, d2, d3, d4, d5⟩ := y3.sixP
 go_wp2_with fail
 refine (iwants_any ss G S kx (hp.below B3) HP.out (h.below B3).k h.lk h.zk (fun w' h' => HTB.out w' (btr B3 h'))).mono ?_;rintro e w4 ⟨rfl, b4⟩;rw [<- H4.out];have B4 := btr B3 b4;have q4 := q3.below b4;have y4 := y3.below b4;clear q3 y3 B3 b4 c0 c1 c2 c3 d0 d1 d2 d3 d4 d5
 cases x4
 ·go_wp2
  go_ret
  exact ⟨ret_bool (by rw [HB.out]; rfl), B4⟩
 obtain ⟨c0, c1, c2, c3⟩ := q4.quadP;obtain ⟨d0, d1, d2, d3, d4, d5⟩ := y4.sixP
 go_wp2_with fail
 refine (igots_any ss G S bx ex (hp.below B4) HC.out (h.below B4).b h.zb (h.below B4).g h.lg h.zg).mono ?_;rintro e w5 ⟨rfl, b5⟩;rw [<- H5.out];have B5 := btr B4 b5;have q5 := q4.below b5;have y5 := y4.below b5;clear q4 y4 B4 b5 c0 c1 c2 c3 d0 d1 d2 d3 d4 d5
 cases x5
 ·go_wp2
  go_ret
  exact ⟨ret_bool (by rw [HB.out]; rfl), B5⟩
 obtain ⟨c0, c1, c2, c3⟩ := q5.quadP;obtain ⟨d0, d1, d2, d3, d4, d5⟩ := y5.sixP
 cases u
 ·go_wp2_with fail
  refine (ineeds_any ex (h.below B5).g h.lg h.zg).mono ?_;rintro e w6 ⟨rfl, b6⟩
  go_wp2
  go_ret
  refine ⟨ret_bool ?_, btr B5 b6⟩;rw [HB.out]
  by_cases hk : kn = 0
  ·subst hk; by_cases hh : hasN ex = 0 <;> simp [hh]
  have : 0 < kn := by omega
  simp [hk, this]
 go_wp2
 go_ret
 exact ⟨ret_bool (by rw [HB.out]; rfl), B5⟩
theorem iclkready_any (cl : Int) (ad : Option Addr) (N cap : Nat) (ga : Option Addr) (gn gc : Nat) (sa : Option Addr) (sn sc : Nat) (ss : List L2V) (G S : List Int) (u : Bool) (r : Int) (ba : Option Addr) (bn bc : Nat) (bx : List Int) (da : Option Addr) (dn dc : Nat) (dx : List DV) (ka : Option Addr) (kn kc : Nat) (kx : List QV) (ea : Option Addr) (en ec : Nat) (ex : List GV) {w : World} (hp : PlAt w ad N ss ga gn G sa sn S) (h : CkAt w ba bn bx da dn dx ka kn kx ea en ex) (hTB : Lib.TabBelow Tryz.prog w.heap.size w "internal/strconv.uint64pow10" .u64 Lib.pow10Tab) :
  Calls Tryz.prog 19 #[plV cl ad N cap ga gn gc sa sn sc, ckV u r ba bn bc da dn dc ka kn kc ea en ec] w fun e w' => e = .returned (.bool (clkB cl N ss gn G sn S u r bn bx dn dx kn kx en ex && hasAll ex)) /\ Below w.heap.size w w' := by
 have HTB : Hid _ := hTB;clear hTB;have q0 := (Cel.new w [.int .i64 cl, .slice ad N cap, .slice ga gn gc, .slice sa sn sc] 26).alloc (.cells #[.bool u, .int .i64 r, .slice ba bn bc, .slice da dn dc, .slice ka kn kc, .slice ea en ec] 35);have y0 := Cel.new (w.alloc (.cells #[.int .i64 cl, .slice ad N cap, .slice ga gn gc, .slice sa sn sc] 26)) [.bool u, .int .i64 r, .slice ba bn bc, .slice da dn dc, .slice ka kn kc, .slice ea en ec] 35;rw [qB] at y0;have B0 := ((Below.refl w.heap.size w).alloc (qC _) (.cells #[.int .i64 cl, .slice ad N cap, .slice ga gn gc, .slice sa sn sc] 26)).alloc (by simp) (.cells #[.bool u, .int .i64 r, .slice ba bn bc, .slice da dn dc, .slice ka kn kc, .slice ea en ec] 35);obtain ⟨x, hx⟩ : ∃ x, x = clkB cl N ss gn G sn S u r bn bx dn dx kn kx en ex := ⟨_, rfl⟩
 have HX : Hid (x = clkB cl N ss gn G sn S u r bn bx dn dx kn kx en ex) := hx;clear hx
 go_enter Tryz.func19, Tryz.ntmps19
 go_wp2_with fail
 refine (iclkok_any _ _ _ _ _ _ _ _ _ _ ss G S _ _ _ _ _ bx _ _ _ dx _ _ _ kx _ _ _ ex (hp.below B0) (h.below B0) (fun w' h' => HTB.out w' (btr B0 h'))).mono ?_;rintro e w1 ⟨rfl, b1⟩;rw [<- HX.out];have B1 := btr B0 b1;have y1 := y0.below b1;obtain ⟨d0, d1, d2, d3, d4, d5⟩ := y1.sixP
 cases x
 ·go_wp2
  go_ret
  exact ⟨ret_bool (by rw [<- HX.out]; rfl), B1⟩
 go_wp2_with fail
 refine (iall_any ex (h.below B1).g h.lg h.zg).mono ?_;rintro e w2 ⟨rfl, b2⟩
 go_wp2
 go_ret
 exact ⟨ret_bool (by rw [<- HX.out]; rfl), btr B1 b2⟩
end Go.Proofs.YtpmihhbgjimpmaaGreatDoor
