/-
  What sites have told, as the program asks it (gotOk), and who has (needsRound, allTold). Lengths at most 1048576.
-/
import Derived.Test.YtacjjhfbnbmnlaaGreatDoorYGotW
namespace Go.Proofs.YtacjjhfbnbmnlaaGreatDoor
open Go.RowKit Go.Deep
set_option linter.unusedVariables false
set_option maxRecDepth 100000

set_option maxHeartbeats 800000 in
theorem ihas_any (h : Bool) (ta : Option Addr) (tn tc : Nat) (ua : Option Addr) (un uc : Nat) (w : World) :
    Calls Tryz.prog 126 #[gtV h ta tn tc ua un uc] w fun e w' => e = .returned (.bool h) ∧ Below w.heap.size w w' := by
  have B0 := (Below.refl w.heap.size w).alloc (Nat.le_refl _) (.cells #[.bool h, .slice ta tn tc, .slice ua un uc] 159)
  go_enter Tryz.func126, Tryz.ntmps126
  go_wp2
  go_ret
  exact ⟨rfl, B0⟩

set_option maxHeartbeats 1600000 in
theorem iindex_any (ea : Option Addr) (en ec : Nat) (ex : List GV) (w : World) (hE : GSG w ea ex) (lE : ex.length = en) (zE : en ≤ 1048576) :
    Calls Tryz.prog 165 #[.slice ea en ec, .func (.func 126) #[] #[]] w fun e w' => ∃ x : Int, e = .returned (.int .i64 x) ∧ decide (0 ≤ x) = decide (hasN ex ≠ 0) ∧ Below w.heap.size w w' := by
  have LE : Hid (ex.length = en) := lE
  clear lE
  go_enter Tryz.func165, Tryz.ntmps165
  go_wp2_with fail
  go_loopw [5, 8] (fun _ i wr => ∃ k : Nat, k ≤ en ∧ i = .int .i64 k ∧ Below w.heap.size w wr ∧ hasN (ex.take k) = 0) (fun _ i _ => en - (intOf i).toNat)
  case atStart => exact ⟨0, Nat.zero_le _, rfl, Below.refl _ _, by simp [hasN]⟩
  case round =>
    obtain ⟨k, hk, rfl, hb, hall⟩ := hrel
    have HA : Hid _ := hall
    clear hall
    by_cases hlt : k < en
    · obtain ⟨b, off, rfl, hc, hr⟩ := (hE.below hb) k (by rw [LE.out]; exact hlt)
      generalize HG : ex[k]?.getD noG = g at *
      have HG' : Hid (ex[k]?.getD noG = g) := HG
      clear HG
      obtain ⟨e0, e1, e2⟩ := cellsG hc
      obtain ⟨gh, ⟨gta, gtn, gtc, gtx⟩, ⟨gua, gun, guc, gux⟩⟩ := g
      have e0' : wr.cell? ⟨b, off + k * 3, none⟩ = some (.bool gh) := e0
      have e1' : wr.cell? ⟨b, off + k * 3 + 1, none⟩ = some (.slice gta gtn gtc) := e1
      have e2' : wr.cell? ⟨b, off + k * 3 + 2, none⟩ = some (.slice gua gun guc) := e2
      have hI : Ints wr gta gtn gtx := hr.1.1
      have zI : gtn ≤ 1048576 := hr.1.2
      have hJ : Ints wr gua gun gux := hr.2.1.1
      have zJ : gun ≤ 1048576 := hr.2.1.2
      clear e0 e1 e2 hc hr
      have hlt' : (k : Int) < (en : Int) := by omega
      have HN : Hid (gh = true → hasN ex ≠ 0) := fun h => has_none (k := k) (by rw [LE.out]; exact hlt) (by rw [HG'.out]; exact h)
      have HS : Hid (gh = false → hasN (ex.take (k + 1)) = 0) := fun h => by rw [has_snoc (by rw [LE.out]; exact hlt), HA.out, HG'.out, h]; rfl
      clear HG'
      go_wp2_with fail
      refine (ihas_any _ _ _ _ _ _ _ _).mono ?_
      rintro e w1 ⟨rfl, b1⟩
      have B1 := hb.trans (b1.mono hb.size)
      cases gh
      · go_wp2
        go_roundw
        case rel => exact ⟨k + 1, by omega, by go_num, B1, HS.out (by first | rfl | trivial)⟩
        case measure => simp [intOf]; omega
      · go_wp2
        go_ret
        exact ⟨_, rfl, by have := HN.out (by first | rfl | trivial); simp [this], B1⟩
    · obtain rfl : k = en := by omega
      go_wp2
      go_ret
      exact ⟨-1, rfl, by have h := HA.out; rw [List.take_of_length_le (by rw [LE.out]; exact Nat.le_refl _)] at h; simp [h], hb⟩

set_option maxHeartbeats 800000 in
theorem icontains_any (ea : Option Addr) (en ec : Nat) (ex : List GV) (w : World) (hE : GSG w ea ex) (lE : ex.length = en) (zE : en ≤ 1048576) :
    Calls Tryz.prog 125 #[.slice ea en ec, .func (.func 126) #[] #[]] w fun e w' => e = .returned (.bool (decide (hasN ex ≠ 0))) ∧ Below w.heap.size w w' := by
  go_enter Tryz.func125, Tryz.ntmps125
  go_wp2_with fail
  refine (iindex_any _ _ _ ex _ hE lE zE).mono ?_
  rintro e w1 ⟨x, rfl, hx, b1⟩
  have HX : Hid _ := hx
  clear hx
  go_wp2
  go_ret
  exact ⟨ret_bool HX.out, b1⟩

set_option maxHeartbeats 800000 in
theorem ineeds_any (u : Bool) (r : Int) (ba : Option Addr) (bn bc : Nat) (da : Option Addr) (dn dc : Nat) (ka : Option Addr) (kn kc : Nat) (ea : Option Addr) (en ec : Nat) (ex : List GV) (w : World) (hE : GSG w ea ex) (lE : ex.length = en) (zE : en ≤ 1048576) :
    Calls Tryz.prog 63 #[ckV u r ba bn bc da dn dc ka kn kc ea en ec] w fun e w' => e = .returned (.bool (decide (0 < kn) || decide (hasN ex ≠ 0))) ∧ Below w.heap.size w w' := by
  have B0 := (Below.refl w.heap.size w).alloc (Nat.le_refl _) (.cells #[.bool u, .int .i64 r, .slice ba bn bc, .slice da dn dc, .slice ka kn kc, .slice ea en ec] 52)
  by_cases hk : 0 < kn
  · have hd1 : decide ((0 : Int) < (kn : Int)) = true := by simp; omega
    have hd2 : decide (0 < kn) = true := by simp; omega
    have HK : Hid _ := hd2
    clear hk
    go_enter Tryz.func63, Tryz.ntmps63
    go_wp2
    go_ret
    exact ⟨ret_bool (by rw [HK.out]; rfl), B0⟩
  · obtain rfl : kn = 0 := by omega
    go_enter Tryz.func63, Tryz.ntmps63
    go_wp2_with fail
    refine (icontains_any _ _ _ ex _ (hE.below B0) lE zE).mono ?_
    rintro e w1 ⟨rfl, b1⟩
    go_wp2
    go_ret
    exact ⟨ret_bool (by simp), B0.trans (b1.mono B0.size)⟩

set_option maxHeartbeats 1600000 in
theorem iall_any (u : Bool) (r : Int) (ba : Option Addr) (bn bc : Nat) (da : Option Addr) (dn dc : Nat) (ka : Option Addr) (kn kc : Nat) (ea : Option Addr) (en ec : Nat) (ex : List GV) (w : World) (hE : GSG w ea ex) (lE : ex.length = en) (zE : en ≤ 1048576) :
    Calls Tryz.prog 67 #[ckV u r ba bn bc da dn dc ka kn kc ea en ec] w fun e w' => e = .returned (.bool (hasAll ex)) ∧ Below w.heap.size w w' := by
  have LE : Hid (ex.length = en) := lE
  clear lE
  have B0 := (Below.refl w.heap.size w).alloc (Nat.le_refl _) (.cells #[.bool u, .int .i64 r, .slice ba bn bc, .slice da dn dc, .slice ka kn kc, .slice ea en ec] 52)
  go_enter Tryz.func67, Tryz.ntmps67
  go_wp2_with fail
  obtain ⟨W0, hW0⟩ : ∃ W, W = w.alloc (.cells #[.bool u, .int .i64 r, .slice ba bn bc, .slice da dn dc, .slice ka kn kc, .slice ea en ec] 52) := ⟨_, rfl⟩
  rw [← hW0] at B0 ⊢
  clear hW0
  go_loopw [4, 8] (fun _ i wr => ∃ k : Nat, k ≤ en ∧ i = .int .i64 k ∧ Below w.heap.size w wr ∧ hasAll (ex.take k) = true) (fun _ i _ => en - (intOf i).toNat)
  case atStart => exact ⟨0, Nat.zero_le _, rfl, B0, rfl⟩
  case round =>
    obtain ⟨k, hk, rfl, hb, hall⟩ := hrel
    have HA : Hid _ := hall
    clear hall
    by_cases hlt : k < en
    · obtain ⟨b, off, rfl, hc, hr⟩ := (hE.below hb) k (by rw [LE.out]; exact hlt)
      generalize HG : ex[k]?.getD noG = g at *
      have HG' : Hid (ex[k]?.getD noG = g) := HG
      clear HG
      obtain ⟨e0, e1, e2⟩ := cellsG hc
      obtain ⟨gh, ⟨gta, gtn, gtc, gtx⟩, ⟨gua, gun, guc, gux⟩⟩ := g
      have e0' : wr.cell? ⟨b, off + k * 3, none⟩ = some (.bool gh) := e0
      have e1' : wr.cell? ⟨b, off + k * 3 + 1, none⟩ = some (.slice gta gtn gtc) := e1
      have e2' : wr.cell? ⟨b, off + k * 3 + 2, none⟩ = some (.slice gua gun guc) := e2
      have hI : Ints wr gta gtn gtx := hr.1.1
      have zI : gtn ≤ 1048576 := hr.1.2
      have hJ : Ints wr gua gun gux := hr.2.1.1
      have zJ : gun ≤ 1048576 := hr.2.1.2
      clear e0 e1 e2 hc hr
      have hlt' : (k : Int) < (en : Int) := by omega
      have bA := hb.alloc hb.size (.cells #[.bool gh, .slice gta gtn gtc, .slice gua gun guc] 159)
      cases gh
      · have HN : Hid (hasAll ex = false) := by
          show _ = _
          rw [hasAll, List.all_eq_false]
          have hl : k < ex.length := by rw [LE.out]; exact hlt
          have h := HG'.out
          rw [List.getElem?_eq_getElem hl] at h
          exact ⟨ex[k], List.getElem_mem hl, by simp only [Option.getD_some] at h; rw [h]; simp⟩
        go_wp2
        go_ret
        exact ⟨ret_bool (by rw [HN.out]), bA⟩
      · have HS : Hid (hasAll (ex.take (k + 1)) = true) := by
          show _ = _
          have hl : k < ex.length := by rw [LE.out]; exact hlt
          have h := HG'.out
          rw [List.getElem?_eq_getElem hl] at h
          simp only [Option.getD_some] at h
          have h1 := HA.out
          rw [hasAll] at h1 ⊢
          rw [List.take_succ_eq_append_getElem hl, List.all_append, h1, h]; rfl
        go_wp2
        go_roundw
        case rel => exact ⟨k + 1, by omega, by go_num, bA, HS.out⟩
        case measure => simp [intOf]; omega
    · obtain rfl : k = en := by omega
      go_wp2
      go_ret
      exact ⟨ret_bool (by have h := HA.out; rw [List.take_of_length_le (by rw [LE.out]; exact Nat.le_refl _)] at h; rw [h]), hb⟩

set_option maxHeartbeats 3200000 in
theorem igots_any (cl : Int) (ad : Option Addr) (N cap : Nat) (ga : Option Addr) (gn gc : Nat) (sa : Option Addr) (sn sc : Nat) (ss : List L2V) (G S : List Int) (u : Bool) (r : Int) (ba : Option Addr) (bn bc : Nat) (da : Option Addr) (dn dc : Nat) (ka : Option Addr) (kn kc : Nat) (ea : Option Addr) (en ec : Nat) (bx : List Int) (ex : List GV) (w : World) (hp : PlAt w ad N ss ga gn G sa sn S) (hcat : catB N ss = true) (hB : Ints w ba bn bx) (zb : bn ≤ 1048576) (hE : GSG w ea ex) (lE : ex.length = en) (zE : en ≤ 1048576) :
    Calls Tryz.prog 62 #[ckV u r ba bn bc da dn dc ka kn kc ea en ec, plV cl ad N cap ga gn gc sa sn sc] w fun e w' => e = .returned (.bool (gotsB cl gn bn bx G (catP ss) (pinsA ss) en ex)) ∧ Below w.heap.size w w' := by
  have LE : Hid (ex.length = en) := lE
  have HCT : Hid _ := hcat
  clear lE hcat
  have y0 := (Cel.new w [.bool u, .int .i64 r, .slice ba bn bc, .slice da dn dc, .slice ka kn kc, .slice ea en ec] 52).alloc (.cells #[.int .i64 cl, .slice ad N cap, .slice ga gn gc, .slice sa sn sc] 34)
  have q0 := Cel.new (w.alloc (.cells #[.bool u, .int .i64 r, .slice ba bn bc, .slice da dn dc, .slice ka kn kc, .slice ea en ec] 52)) [.int .i64 cl, .slice ad N cap, .slice ga gn gc, .slice sa sn sc] 34
  rw [World.size_alloc] at q0
  have B0 := ((Below.refl w.heap.size w).alloc (Nat.le_refl _) (.cells #[.bool u, .int .i64 r, .slice ba bn bc, .slice da dn dc, .slice ka kn kc, .slice ea en ec] 52)).alloc (by simp) (.cells #[.int .i64 cl, .slice ad N cap, .slice ga gn gc, .slice sa sn sc] 34)
  by_cases hc : en = gn
  · have hc' : ((en : Int) != (gn : Int)) = false := by simp [hc]
    have HC : Hid _ := hc
    clear hc
    go_enter Tryz.func62, Tryz.ntmps62
    go_wp2_with fail
    obtain ⟨W0, hW0⟩ : ∃ W, W = (w.alloc (.cells #[.bool u, .int .i64 r, .slice ba bn bc, .slice da dn dc, .slice ka kn kc, .slice ea en ec] 52)).alloc (.cells #[.int .i64 cl, .slice ad N cap, .slice ga gn gc, .slice sa sn sc] 34) := ⟨_, rfl⟩
    rw [← hW0] at q0 y0 B0 ⊢
    clear hW0
    go_loopw [5, 6, 7, 18] (fun _ _ _ i wr => ∃ k : Nat, k ≤ en ∧ i = .int .i64 k ∧ Below W0.heap.size W0 wr ∧ gotsTo cl gn bn bx G (catP ss) (pinsA ss) ex k = true) (fun _ _ _ i _ => en - (intOf i).toNat)
    case atStart => exact ⟨0, Nat.zero_le _, rfl, Below.refl _ _, rfl⟩
    case round =>
      obtain ⟨k, hk, rfl, hb0, hall⟩ := hrel
      have HA : Hid _ := hall
      clear hall
      have hb := B0.trans (hb0.mono B0.size)
      obtain ⟨c0, c1, c2, c3⟩ := (q0.below hb0).quadP
      obtain ⟨d0, d1, d2, d3, d4, d5⟩ := (y0.below hb0).sixP
      by_cases hlt : k < en
      · obtain ⟨b, off, rfl, hc, hr⟩ := (hE.below hb) k (by rw [LE.out]; exact hlt)
        generalize HG : ex[k]?.getD noG = g at *
        have HG' : Hid (ex[k]?.getD noG = g) := HG
        clear HG
        obtain ⟨e0, e1, e2⟩ := cellsG hc
        obtain ⟨gh, ⟨gta, gtn, gtc, gtx⟩, ⟨gua, gun, guc, gux⟩⟩ := g
        have e0' : wr.cell? ⟨b, off + k * 3, none⟩ = some (.bool gh) := e0
        have e1' : wr.cell? ⟨b, off + k * 3 + 1, none⟩ = some (.slice gta gtn gtc) := e1
        have e2' : wr.cell? ⟨b, off + k * 3 + 2, none⟩ = some (.slice gua gun guc) := e2
        have hI : Ints wr gta gtn gtx := hr.1.1
        have zI : gtn ≤ 1048576 := hr.1.2
        have hJ : Ints wr gua gun gux := hr.2.1.1
        have zJ : gun ≤ 1048576 := hr.2.1.2
        clear e0 e1 e2 hc hr
        have hlt' : (k : Int) < (en : Int) := by omega
        have NO : Hid (gotP cl gn bn bx G (catP ss) (pinsA ss) k ⟨gh, ⟨gta, gtn, gtc, gtx⟩, ⟨gua, gun, guc, gux⟩⟩ = false → gotsB cl gn bn bx G (catP ss) (pinsA ss) en ex = false) := fun h => by rw [gotsB, gotsTo, range_no hlt (by rw [HG'.out]; exact h)]; simp
        have YES : Hid (gotP cl gn bn bx G (catP ss) (pinsA ss) k ⟨gh, ⟨gta, gtn, gtc, gtx⟩, ⟨gua, gun, guc, gux⟩⟩ = true → gotsTo cl gn bn bx G (catP ss) (pinsA ss) ex (k + 1) = true) := fun h => range_go HA.out (by rw [HG'.out]; exact h)
        have bA := hb0.alloc hb0.size (.cells #[.bool gh, .slice gta gtn gtc, .slice gua gun guc] 159)
        have BA := hb.alloc hb.size (.cells #[.bool gh, .slice gta gtn gtc, .slice gua gun guc] 159)
        have qA := (q0.below hb0).alloc (.cells #[.bool gh, .slice gta gtn gtc, .slice gua gun guc] 159)
        have yA := (y0.below hb0).alloc (.cells #[.bool gh, .slice gta gtn gtc, .slice gua gun guc] 159)
        obtain ⟨v0, v1, v2, v3⟩ := qA.quadP
        obtain ⟨r0, r1, r2, r3, r4, r5⟩ := yA.sixP
        clear qA yA
        cases gh
        · obtain ⟨x, hx⟩ : ∃ x, x = (decide (gtn = 0) && decide (gun = 0)) := ⟨_, rfl⟩
          have HX : Hid (x = (decide (gtn = 0) && decide (gun = 0))) := hx
          clear hx
          go_wp2_with fail
          refine (inone_any _ _ _ _ _ _ _ _).mono ?_
          rintro e w1 ⟨rfl, b1⟩
          rw [← HX.out]
          have B1 := BA.trans (b1.mono BA.size)
          have b01 := bA.trans (b1.mono bA.size)
          cases x
          · have HV : Hid _ := NO.out (by rw [got_no]; exact HX.out.symm)
            go_wp2
            go_ret
            exact ⟨ret_bool (by rw [HV.out]), B1⟩
          · have HY : Hid _ := YES.out (by rw [got_no]; exact HX.out.symm)
            go_wp2
            go_roundw
            case rel => exact ⟨k + 1, by omega, by go_num, b01, HY.out⟩
            case measure => simp [intOf]; omega
        · obtain ⟨x1, hx1⟩ : ∃ x, x = seqsB cl gun gux := ⟨_, rfl⟩
          have H1 : Hid (x1 = seqsB cl gun gux) := hx1
          obtain ⟨x2, hx2⟩ : ∃ x, x = (keepT bn gn bx G (catP ss) k gtn gtx && stillB (pinsA ss) gtx) := ⟨_, rfl⟩
          have H2 : Hid (x2 = (keepT bn gn bx G (catP ss) k gtn gtx && stillB (pinsA ss) gtx)) := hx2
          have HP2 : Hid (gotP cl gn bn bx G (catP ss) (pinsA ss) k ⟨true, ⟨gta, gtn, gtc, gtx⟩, ⟨gua, gun, guc, gux⟩⟩ = (x2 && x1)) := by
            show _ = _
            rw [got_yes, hx1, hx2]
            show (keepT bn gn bx G (catP ss) k gtn gtx && (stillB (pinsA ss) gtx && seqsB cl gun gux)) = _
            rw [Bool.and_assoc]
          clear hx1 hx2
          go_wp2_with fail
          refine (iseqs_any _ _ _ _ _ _ _ _ _ _ _ _ _ gux _ (hJ.alloc _) zJ).mono ?_
          rintro e w1 ⟨rfl, b1⟩
          rw [← H1.out]
          have bg := (Cel.new wr [.bool true, .slice gta gtn gtc, .slice gua gun guc] 159).below b1
          have B1 := BA.trans (b1.mono BA.size)
          have b01 := bA.trans (b1.mono bA.size)
          have q1 := q0.below b01
          have y1 := y0.below b01
          obtain ⟨i0, i1, i2⟩ := bg.three
          obtain ⟨j0, j1, j2, j3⟩ := q1.quadP
          obtain ⟨l0, l1, l2, l3, l4, l5⟩ := y1.sixP
          cases x1
          · have HV : Hid _ := NO.out (by rw [HP2.out]; simp)
            go_wp2_with fail
            refine (inone_any _ _ _ _ _ _ _ _).mono ?_
            rintro e w2 ⟨rfl, b2⟩
            go_wp2
            go_ret
            exact ⟨ret_bool (by rw [HV.out]), B1.trans (b2.mono B1.size)⟩
          · go_wp2_with fail
            refine (ikeeps_any _ _ _ _ _ _ _ _ _ _ ss G S _ _ _ bx _ _ _ _ gtx _ (hp.below B1) HCT.out (hB.below B1) zb ((hI.alloc _).below b1) zI).mono ?_
            rintro e w2 ⟨rfl, b2⟩
            rw [← H2.out]
            have bg2 := bg.below b2
            have B2 := B1.trans (b2.mono B1.size)
            have b02 := b01.trans (b2.mono b01.size)
            obtain ⟨m0, m1, m2⟩ := bg2.three
            cases x2
            · have HV : Hid _ := NO.out (by rw [HP2.out]; rfl)
              go_wp2_with fail
              refine (inone_any _ _ _ _ _ _ _ _).mono ?_
              rintro e w3 ⟨rfl, b3⟩
              go_wp2
              go_ret
              exact ⟨ret_bool (by rw [HV.out]), B2.trans (b3.mono B2.size)⟩
            · have HY : Hid _ := YES.out (by rw [HP2.out]; rfl)
              go_wp2
              go_roundw
              case rel => exact ⟨k + 1, by omega, by go_num, b02, HY.out⟩
              case measure => simp [intOf]; omega
      · obtain rfl : k = en := by omega
        go_wp2
        go_ret
        exact ⟨ret_bool (by rw [gotsB, HA.out, HC.out]; simp), hb⟩
  · have hc' : ((en : Int) != (gn : Int)) = true := by simp; omega
    go_enter Tryz.func62, Tryz.ntmps62
    go_wp2
    go_ret
    exact ⟨ret_bool (by rw [gotsB]; simp [hc]), B0⟩

end Go.Proofs.YtacjjhfbnbmnlaaGreatDoor
