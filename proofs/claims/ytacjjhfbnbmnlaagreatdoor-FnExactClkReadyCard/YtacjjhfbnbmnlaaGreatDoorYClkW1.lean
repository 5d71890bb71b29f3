/-
  What sites have told, as the specification asks it (spec.l9Got), and how many have (spec.l9Has). Lengths at most 1048576.
-/
import Derived.Test.YtacjjhfbnbmnlaaGreatDoorYGotW
import Derived.Test.YtacjjhfbnbmnlaaGreatDoorYKeepsS
namespace Go.Proofs.YtacjjhfbnbmnlaaGreatDoor
open Go.RowKit Go.Deep
set_option linter.unusedVariables false
set_option maxRecDepth 100000

set_option maxHeartbeats 1600000 in
theorem shasn_any (u : Bool) (r : Int) (ba : Option Addr) (bn bc : Nat) (da : Option Addr) (dn dc : Nat) (ka : Option Addr) (kn kc : Nat) (ea : Option Addr) (en ec : Nat) (ex : List GV) (w : World) (hE : GSG w ea ex) (lE : ex.length = en) (zE : en ≤ 1048576) :
    Calls Tryz.prog 66 #[ckV u r ba bn bc da dn dc ka kn kc ea en ec] w fun e w' => e = .returned (.int .i64 (hasN ex)) ∧ Below w.heap.size w w' := by
  have LE : Hid (ex.length = en) := lE
  clear lE
  have y0 := Cel.new w [.bool u, .int .i64 r, .slice ba bn bc, .slice da dn dc, .slice ka kn kc, .slice ea en ec] 52
  have B0 := (Below.refl w.heap.size w).alloc (Nat.le_refl _) (.cells #[.bool u, .int .i64 r, .slice ba bn bc, .slice da dn dc, .slice ka kn kc, .slice ea en ec] 52)
  go_enter Tryz.func66, Tryz.ntmps66
  go_wp2_with fail
  obtain ⟨W0, hW0⟩ : ∃ W, W = w.alloc (.cells #[.bool u, .int .i64 r, .slice ba bn bc, .slice da dn dc, .slice ka kn kc, .slice ea en ec] 52) := ⟨_, rfl⟩
  rw [← hW0] at y0 B0 ⊢
  clear hW0
  have hE' := hE.below B0
  clear hE
  obtain ⟨d0, d1, d2, d3, d4, d5⟩ := y0.sixP
  go_loop [3, 4] (fun n i => ∃ k : Nat, k ≤ en ∧ i = .int .i64 k ∧ n = .int .i64 (hasN (ex.take k))) (fun _ i => en - (intOf i).toNat)
  case atStart => exact ⟨0, Nat.zero_le _, rfl, by simp [hasN]⟩
  case round =>
    obtain ⟨k, hk, rfl, rfl⟩ := hrel
    by_cases hlt : k < en
    · obtain ⟨b, off, rfl, hc, hr⟩ := hE' k (by rw [LE.out]; exact hlt)
      have hs := has_snoc (fs := ex) (k := k) (by rw [LE.out]; exact hlt)
      have HS : Hid _ := hs
      have hle := has_le (ex.take k)
      rw [List.length_take] at hle
      obtain ⟨n0, hn0⟩ : ∃ n, n = hasN (ex.take k) := ⟨_, rfl⟩
      have HN0 : Hid _ := hn0
      rw [← hn0] at hle ⊢
      have hle' : n0 ≤ 1048576 := by omega
      clear hs hn0 hle
      obtain ⟨e0, -, -⟩ := cellsG hc
      have hlt' : (k : Int) < (en : Int) := by omega
      cases hh : (ex[k]?.getD noG).h
      · rw [hh] at e0
        go_wp2
        go_round
        case rel => exact ⟨k + 1, by omega, by go_num, by rw [HS.out, hh, ← HN0.out]; simp⟩
        case measure => simp [intOf]; omega
      · rw [hh] at e0
        go_wp2
        go_round
        case rel => exact ⟨k + 1, by omega, by go_num, by rw [HS.out, hh, ← HN0.out]; go_num⟩
        case measure => simp [intOf]; omega
    · obtain rfl : k = en := by omega
      go_wp2
      go_ret
      exact ⟨ret_int (by rw [List.take_of_length_le (by rw [LE.out]; exact Nat.le_refl _)]), B0⟩

set_option maxHeartbeats 3200000 in
theorem sgots_any (cl : Int) (ad : Option Addr) (N cap : Nat) (ga : Option Addr) (gn gc : Nat) (sa : Option Addr) (sn sc : Nat) (G : List Int) (pa : Option Addr) (pn pc : Nat) (ts : List IV) (T : List (List Int)) (na : Option Addr) (nc : Nat) (R : Nat → Bool) (u : Bool) (r : Int) (ba : Option Addr) (bn bc : Nat) (da : Option Addr) (dn dc : Nat) (ka : Option Addr) (kn kc : Nat) (ea : Option Addr) (en ec : Nat) (bx : List Int) (ex : List GV) (w : World) (hG : Ints w ga gn G) (zg : gn ≤ 1048576) (hP : ISG w pa ts) (lP : ts.length = pn) (zP : pn ≤ 1048576) (hT : ts.map IV.x = T) (hR : BA w na 3 R) (hB : Ints w ba bn bx) (zb : bn ≤ 1048576) (hE : GSG w ea ex) (lE : ex.length = en) (zE : en ≤ 1048576) :
    Calls Tryz.prog 118 #[plV cl ad N cap ga gn gc sa sn sc, .slice pa pn pc, .slice na 3 nc, ckV u r ba bn bc da dn dc ka kn kc ea en ec] w fun e w' => e = .returned (.bool (gotsB cl gn bn bx G T R en ex)) ∧ Below w.heap.size w w' := by
  have LE : Hid (ex.length = en) := lE
  have HT : Hid (ts.map IV.x = T) := hT
  clear lE hT
  have q0 := (Cel.new w [.int .i64 cl, .slice ad N cap, .slice ga gn gc, .slice sa sn sc] 34).alloc (.cells #[.bool u, .int .i64 r, .slice ba bn bc, .slice da dn dc, .slice ka kn kc, .slice ea en ec] 52)
  have y0 := Cel.new (w.alloc (.cells #[.int .i64 cl, .slice ad N cap, .slice ga gn gc, .slice sa sn sc] 34)) [.bool u, .int .i64 r, .slice ba bn bc, .slice da dn dc, .slice ka kn kc, .slice ea en ec] 52
  rw [World.size_alloc] at y0
  have B0 := ((Below.refl w.heap.size w).alloc (Nat.le_refl _) (.cells #[.int .i64 cl, .slice ad N cap, .slice ga gn gc, .slice sa sn sc] 34)).alloc (by simp) (.cells #[.bool u, .int .i64 r, .slice ba bn bc, .slice da dn dc, .slice ka kn kc, .slice ea en ec] 52)
  by_cases hc : en = gn
  · have hc' : ((en : Int) != (gn : Int)) = false := by simp [hc]
    have HC : Hid _ := hc
    clear hc
    have T0 := Cel.new ((w.alloc (.cells #[.int .i64 cl, .slice ad N cap, .slice ga gn gc, .slice sa sn sc] 34)).alloc (.cells #[.bool u, .int .i64 r, .slice ba bn bc, .slice da dn dc, .slice ka kn kc, .slice ea en ec] 52)) [.slice ba bn bc, .slice ga gn gc] 125
    rw [World.size_alloc, World.size_alloc] at T0
    replace q0 := q0.alloc (.cells #[.slice ba bn bc, .slice ga gn gc] 125)
    replace y0 := y0.alloc (.cells #[.slice ba bn bc, .slice ga gn gc] 125)
    replace B0 := B0.alloc B0.size (.cells #[.slice ba bn bc, .slice ga gn gc] 125)
    go_enter Tryz.func118, Tryz.ntmps118
    go_wp2_with fail
    obtain ⟨W0, hW0⟩ : ∃ W, W = ((w.alloc (.cells #[.int .i64 cl, .slice ad N cap, .slice ga gn gc, .slice sa sn sc] 34)).alloc (.cells #[.bool u, .int .i64 r, .slice ba bn bc, .slice da dn dc, .slice ka kn kc, .slice ea en ec] 52)).alloc (.cells #[.slice ba bn bc, .slice ga gn gc] 125) := ⟨_, rfl⟩
    rw [← hW0] at q0 y0 T0 B0 ⊢
    clear hW0
    go_loopw [10, 11] (fun i _ wr => ∃ k : Nat, k ≤ en ∧ i = .int .i64 k ∧ Below W0.heap.size W0 wr ∧ gotsTo cl gn bn bx G T R ex k = true) (fun i _ _ => en - (intOf i).toNat)
    case atStart => exact ⟨0, Nat.zero_le _, rfl, Below.refl _ _, rfl⟩
    case round =>
      obtain ⟨k, hk, rfl, hb0, hall⟩ := hrel
      have HA : Hid _ := hall
      clear hall
      have hb := B0.trans (hb0.mono B0.size)
      obtain ⟨c0, c1, c2, c3⟩ := (q0.below hb0).quadP
      obtain ⟨d0, d1, d2, d3, d4, d5⟩ := (y0.below hb0).sixP
      obtain ⟨t0, t1⟩ := (T0.below hb0).two
      by_cases hlt : k < en
      · obtain ⟨b, off, rfl, hc, hr⟩ := (hE.below hb) k (by rw [LE.out]; exact hlt)
        generalize HG : ex[k]?.getD noG = g at *
        have HG' : Hid (ex[k]?.getD noG = g) := HG
        clear HG
        obtain ⟨e0, e1, e2⟩ := cellsG hc
        obtain ⟨gh, ⟨gta, gtn, gtc, gtx⟩, ⟨gua, gun, guc, gux⟩⟩ := g
        have e0' : wr.cell? ⟨b, off + k * 3, none⟩ = some (.bool gh) := e0
        have e1' : wr.cell? ⟨b, off + k * 3 + 1, none⟩ = some (.slice gta gtn gtc) := e1
        have e2' : wr.cell? ⟨b, off + k * 3 + 2, none⟩ = some (.slice gua gun guc) := e2
        have hI : Ints wr gta gtn gtx := hr.1.1
        have zI : gtn ≤ 1048576 := hr.1.2
        have hJ : Ints wr gua gun gux := hr.2.1.1
        have zJ : gun ≤ 1048576 := hr.2.1.2
        clear e0 e1 e2 hc hr
        have hlt' : (k : Int) < (en : Int) := by omega
        have NO : Hid (gotP cl gn bn bx G T R k ⟨gh, ⟨gta, gtn, gtc, gtx⟩, ⟨gua, gun, guc, gux⟩⟩ = false → gotsB cl gn bn bx G T R en ex = false) := fun h => by rw [gotsB, gotsTo, range_no hlt (by rw [HG'.out]; exact h)]; simp
        have YES : Hid (gotP cl gn bn bx G T R k ⟨gh, ⟨gta, gtn, gtc, gtx⟩, ⟨gua, gun, guc, gux⟩⟩ = true → gotsTo cl gn bn bx G T R ex (k + 1) = true) := fun h => range_go HA.out (by rw [HG'.out]; exact h)
        have bA := hb0.alloc hb0.size (.cells #[.bool gh, .slice gta gtn gtc, .slice gua gun guc] 159)
        have BA := hb.alloc hb.size (.cells #[.bool gh, .slice gta gtn gtc, .slice gua gun guc] 159)
        have qA := (q0.below hb0).alloc (.cells #[.bool gh, .slice gta gtn gtc, .slice gua gun guc] 159)
        have tA := (T0.below hb0).alloc (.cells #[.bool gh, .slice gta gtn gtc, .slice gua gun guc] 159)
        obtain ⟨v0, v1, v2, v3⟩ := qA.quadP
        obtain ⟨r0, r1⟩ := tA.two
        clear qA tA
        cases gh
        · by_cases hz : gtn = 0 ∧ gun = 0
          · obtain ⟨rfl, rfl⟩ := hz
            have HY : Hid _ := YES.out (by rw [got_no]; rfl)
            clear NO YES
            go_wp2
            go_roundw
            case rel => exact ⟨k + 1, by omega, by go_num, bA, HY.out⟩
            case measure => simp [intOf]; omega
          · have HV : Hid _ := NO.out (by rw [got_no]; simp; omega)
            have hd1 : decide ((0 : Int) < (gtn : Int) + (gun : Int)) = true := by simp; omega
            have hd2 : decide (0 < gtn + gun) = true := by simp; omega
            clear NO YES hz
            go_wp2
            go_ret
            exact ⟨ret_bool (by rw [HV.out]), BA⟩
        · cases h3 : keepT bn gn bx G T k gtn gtx
          · have HV : Hid _ := NO.out (by rw [got_yes]; show (keepT bn gn bx G T k gtn gtx && _) = false; rw [h3]; rfl)
            clear NO YES
            go_wp2_with fail
            refine (skeep_any _ _ _ _ _ _ _ _ _ _ _ _ _ bx G gtx ts _ (hB.below BA) (hG.below BA) (hI.alloc _) lP (hP.below BA) zb zg zI zP).mono ?_
            rintro e w1 ⟨rfl, b1⟩
            rw [keep_of hP HT.out, h3]
            go_wp2
            go_ret
            exact ⟨ret_bool (by rw [HV.out]), BA.trans (b1.mono BA.size)⟩
          · obtain rfl : gtn = 3 := (keepT_elim h3).2.2
            cases h4 : stillB R gtx
            · have HV : Hid _ := NO.out (by rw [got_yes]; show (_ && (stillB R gtx && _)) = false; rw [h4]; simp)
              clear NO YES
              go_wp2_with fail
              refine (skeep_any _ _ _ _ _ _ _ _ _ _ _ _ _ bx G gtx ts _ (hB.below BA) (hG.below BA) (hI.alloc _) lP (hP.below BA) zb zg zI zP).mono ?_
              rintro e w1 ⟨rfl, b1⟩
              rw [keep_of hP HT.out, h3]
              have bg := (Cel.new wr [.bool true, .slice gta 3 gtc, .slice gua gun guc] 159).below b1
              have B1 := BA.trans (b1.mono BA.size)
              obtain ⟨i0, i1, i2⟩ := bg.three
              go_wp2_with fail
              refine (sstill_any _ _ _ _ R gtx _ (hR.below B1) ((hI.alloc _).below b1)).mono ?_
              rintro e wq ⟨rfl, rfl⟩
              rw [h4]
              go_wp2
              go_ret
              exact ⟨ret_bool (by rw [HV.out]), B1⟩
            · obtain ⟨x5, h5⟩ : ∃ x, x = seqsB cl gun gux := ⟨_, rfl⟩
              have H5 : Hid (x5 = seqsB cl gun gux) := h5
              have HP5 : Hid (gotP cl gn bn bx G T R k ⟨true, ⟨gta, 3, gtc, gtx⟩, ⟨gua, gun, guc, gux⟩⟩ = x5) := by show _ = _; rw [got_yes]; show (keepT bn gn bx G T k 3 gtx && (stillB R gtx && seqsB cl gun gux)) = x5; rw [h3, h4, h5]; rfl
              clear h5
              go_wp2_with fail
              refine (skeep_any _ _ _ _ _ _ _ _ _ _ _ _ _ bx G gtx ts _ (hB.below BA) (hG.below BA) (hI.alloc _) lP (hP.below BA) zb zg zI zP).mono ?_
              rintro e w1 ⟨rfl, b1⟩
              rw [keep_of hP HT.out, h3]
              have bg := (Cel.new wr [.bool true, .slice gta 3 gtc, .slice gua gun guc] 159).below b1
              have B1 := BA.trans (b1.mono BA.size)
              have b01 := bA.trans (b1.mono bA.size)
              have q1 := q0.below b01
              obtain ⟨i0, i1, i2⟩ := bg.three
              obtain ⟨j0, j1, j2, j3⟩ := q1.quadP
              go_wp2_with fail
              refine (sstill_any _ _ _ _ R gtx _ (hR.below B1) ((hI.alloc _).below b1)).mono ?_
              rintro e wq ⟨rfl, rfl⟩
              rw [h4]
              go_wp2_with fail
              refine (sseqs_any _ _ _ _ _ _ _ _ _ _ _ _ _ gux _ ((hJ.alloc _).below b1) zJ).mono ?_
              rintro e w2 ⟨rfl, b2⟩
              rw [← H5.out]
              have B2 := B1.trans (b2.mono B1.size)
              have b02 := b01.trans (b2.mono b01.size)
              cases x5
              · go_wp2
                go_ret
                exact ⟨ret_bool (by rw [NO.out HP5.out]), B2⟩
              · go_wp2
                go_roundw
                case rel => exact ⟨k + 1, by omega, by go_num, b02, YES.out HP5.out⟩
                case measure => simp [intOf]; omega
      · obtain rfl : k = en := by omega
        go_wp2
        go_ret
        exact ⟨ret_bool (by rw [gotsB, HA.out, HC.out]; simp), hb⟩
  · have hc' : ((en : Int) != (gn : Int)) = true := by simp; omega
    go_enter Tryz.func118, Tryz.ntmps118
    go_wp2
    go_ret
    exact ⟨ret_bool (by rw [gotsB]; simp [hc]), B0⟩

end Go.Proofs.YtacjjhfbnbmnlaaGreatDoor
