/-
  Lemmas that the claim's last text rests on: ClkW3, ClkW1, ClkW4, ClkOkW.
-/
import Derived.Test.YtdigmokjedckeaaGreatDoorJExactClkOkCardF
import Derived.Test.YtdigmokjedckeaaGreatDoorKeepsS
import Derived.Test.YtdigmokjedckeaaGreatDoorKeyed
namespace Go.Proofs.YtdigmokjedckeaaGreatDoor
open Go.RowKit Go.Deep
set_option linter.unusedVariables false
set_option maxRecDepth 100000

/-- The client of the call ahead. -/
def lastQ (fs : List QV) (k : Nat) : Int := if k = 0 then -1 else (fs[k - 1]?.getD noQ).x
theorem want_low {cl : Int} {N : Nat} {fs : List QV} {k : Nat} (h : (fs[k]?.getD noQ).x ≤ lastQ fs k) : wantP cl N fs k = false := by
 unfold lastQ at h
 by_cases hk : k = 0
 ·rw [if_pos hk] at h
  rw [wantP, inCallB, inB_not.2 (by omega)]; rfl
 ·rw [if_neg hk] at h
  rw [wantP]
  have : decide (k = 0 ∨ (fs[k - 1]?.getD noQ).x < (fs[k]?.getD noQ).x) = false := by simp; omega
  rw [this]; simp
theorem want_high {cl : Int} {N : Nat} {fs : List QV} {k : Nat} (h : ¬ (fs[k]?.getD noQ).x ≤ lastQ fs k) : wantP cl N fs k = inCallB cl N (fs[k]?.getD noQ).x (fs[k]?.getD noQ).q (fs[k]?.getD noQ).c (fs[k]?.getD noQ).t.n (fs[k]?.getD noQ).t.x := by
 rw [wantP]
 have : decide (k = 0 ∨ (fs[k - 1]?.getD noQ).x < (fs[k]?.getD noQ).x) = true := by
  unfold lastQ at h
  by_cases hk : k = 0
  ·simp [hk]
  ·rw [if_neg hk] at h
   simp; omega
 rw [this]; simp
theorem last_succ (fs : List QV) (k : Nat) : lastQ fs (k + 1) = (fs[k]?.getD noQ).x := by rw [lastQ, if_neg (by omega)]; rfl

set_option maxHeartbeats 3200000 in
theorem iwants_any (cl : Int) (ad : Option Addr) (N cap : Nat) (ga : Option Addr) (gn gc : Nat) (sa : Option Addr) (sn sc : Nat) (ss : List L2V) (G S : List Int) (u : Bool) (r : Int) (ba : Option Addr) (bn bc : Nat) (da : Option Addr) (dn dc : Nat) (ka : Option Addr) (kn kc : Nat) (ea : Option Addr) (en ec : Nat) (kx : List QV) (w : World) (hp : PlAt w ad N ss ga gn G sa sn S) (hpl : plnB cl N ss gn G sn S = true) (hK : QSG w ka kx) (lK : kx.length = kn) (zK : kn ≤ 1048576) (hTB : Lib.TabBelow Tryz.prog w.heap.size w "internal/strconv.uint64pow10" .u64 Lib.pow10Tab) :
  Calls Tryz.prog 44 #[ckV u r ba bn bc da dn dc ka kn kc ea en ec, plV cl ad N cap ga gn gc sa sn sc] w fun e w' => e = .returned (.bool (wantsB cl N kn kx)) ∧ Below w.heap.size w w' := by
 have LK : Hid (kx.length = kn) := lK
 have HPL : Hid _ := hpl
 have HTB : Hid _ := hTB
 clear lK hpl hTB
 have y0 := (Cel.new w [.bool u, .int .i64 r, .slice ba bn bc, .slice da dn dc, .slice ka kn kc, .slice ea en ec] 52).alloc (.cells #[.int .i64 cl, .slice ad N cap, .slice ga gn gc, .slice sa sn sc] 34)
 have q0 := Cel.new (w.alloc (.cells #[.bool u, .int .i64 r, .slice ba bn bc, .slice da dn dc, .slice ka kn kc, .slice ea en ec] 52)) [.int .i64 cl, .slice ad N cap, .slice ga gn gc, .slice sa sn sc] 34
 rw [World.size_alloc] at q0
 have B0 := ((Below.refl w.heap.size w).alloc (Nat.le_refl _) (.cells #[.bool u, .int .i64 r, .slice ba bn bc, .slice da dn dc, .slice ka kn kc, .slice ea en ec] 52)).alloc (by simp) (.cells #[.int .i64 cl, .slice ad N cap, .slice ga gn gc, .slice sa sn sc] 34)
 go_enter Tryz.func44, Tryz.ntmps44
 go_wp2_with fail
 obtain ⟨W0, hW0⟩ : ∃ W, W = (w.alloc (.cells #[.bool u, .int .i64 r, .slice ba bn bc, .slice da dn dc, .slice ka kn kc, .slice ea en ec] 52)).alloc (.cells #[.int .i64 cl, .slice ad N cap, .slice ga gn gc, .slice sa sn sc] 34) := ⟨_, rfl⟩
 rw [← hW0] at q0 y0 B0 ⊢
 clear hW0
 go_loopw [5, 7, 11] (fun la _ i wr => ∃ k : Nat, k ≤ kn ∧ i = .int .i64 k ∧ la = .int .i64 (lastQ kx k) ∧ Below W0.heap.size W0 wr ∧ (List.range k).all (wantP cl N kx) = true) (fun _ _ i _ => kn - (intOf i).toNat)
 case atStart => exact ⟨0, Nat.zero_le _, rfl, rfl, Below.refl _ _, rfl⟩
 case round =>
  obtain ⟨k, hk, rfl, rfl, hb0, hall⟩ := hrel
  have HA : Hid _ := hall
  clear hall
  have hb := B0.trans (hb0.mono B0.size)
  by_cases hlt : k < kn
  ·obtain ⟨b, off, rfl, hc, hr⟩ := (hK.below hb) k (by rw [LK.out]; exact hlt)
   have LOW : Hid _ := want_low (cl := cl) (N := N) (fs := kx) (k := k)
   have HIGH : Hid _ := want_high (cl := cl) (N := N) (fs := kx) (k := k)
   have LS : Hid _ := last_succ kx k
   generalize HG : kx[k]?.getD noQ = g at *
   have HG' : Hid (kx[k]?.getD noQ = g) := HG
   clear HG
   obtain ⟨e0, e1, e2, e3⟩ := cellsQ hc
   obtain ⟨gx, gq, gz, ⟨gta, gtn, gtc, gtx⟩⟩ := g
   have e0' : wr.cell? ⟨b, off + k * 4, none⟩ = some (.int .i64 gx) := e0
   have e1' : wr.cell? ⟨b, off + k * 4 + 1, none⟩ = some (.int .i64 gq) := e1
   have e2' : wr.cell? ⟨b, off + k * 4 + 2, none⟩ = some (.int .i64 gz) := e2
   have e3' : wr.cell? ⟨b, off + k * 4 + 3, none⟩ = some (.slice gta gtn gtc) := e3
   have hI : Ints wr gta gtn gtx := hr.1.1
   have zI : gtn ≤ 1048576 := hr.1.2
   clear e0 e1 e2 e3 hc hr
   have hlt' : (k : Int) < (kn : Int) := by omega
   obtain ⟨la, hla⟩ : ∃ la, la = lastQ kx k := ⟨_, rfl⟩
   have HLA : Hid (la = lastQ kx k) := hla
   rw [← hla]
   clear hla
   have NO : Hid (wantP cl N kx k = false → wantsB cl N kn kx = false) := fun h => range_no hlt h
   have YES : Hid (wantP cl N kx k = true → (List.range (k + 1)).all (wantP cl N kx) = true) := fun h => range_go HA.out h
   have bA := hb0.alloc hb0.size (.cells #[.int .i64 gx, .int .i64 gq, .int .i64 gz, .slice gta gtn gtc] 131)
   have BA := hb.alloc hb.size (.cells #[.int .i64 gx, .int .i64 gq, .int .i64 gz, .slice gta gtn gtc] 131)
   have qA := (q0.below hb0).alloc (.cells #[.int .i64 gx, .int .i64 gq, .int .i64 gz, .slice gta gtn gtc] 131)
   obtain ⟨v0, v1, v2, v3⟩ := qA.quadP
   by_cases hle : gx ≤ la
   ·have HV : Hid _ := NO.out (LOW.out (by rw [← HLA.out]; exact hle))
    clear qA
    go_wp2
    go_ret
    exact ⟨ret_bool (by rw [HV.out]), BA⟩
   ·have HE : Hid (wantP cl N kx k = inCallB cl N gx gq gz gtn gtx) := HIGH.out (by rw [← HLA.out]; exact hle)
    obtain ⟨x, hx⟩ : ∃ x, x = inCallB cl N gx gq gz gtn gtx := ⟨_, rfl⟩
    have HX : Hid (x = inCallB cl N gx gq gz gtn gtx) := hx
    have hle' : decide (gx ≤ la) = false := by simpa using hle
    clear hx hle LOW HIGH qA
    go_wp2_with fail
    refine (icallok_any _ _ _ _ ss _ _ _ G _ _ _ S _ _ _ _ _ _ gtx _ (hp.below BA) (hI.alloc _) zI (fun w' h' => HTB.out w' (BA.trans (h'.mono BA.size)))).mono ?_
    rintro e w1 ⟨rfl, b1⟩
    rw [HPL.out, ← HX.out]
    have bg := (Cel.new wr [.int .i64 gx, .int .i64 gq, .int .i64 gz, .slice gta gtn gtc] 131).below b1
    have B1 := BA.trans (b1.mono BA.size)
    have b01 := bA.trans (b1.mono bA.size)
    obtain ⟨i0, i1, i2, i3⟩ := bg.quadP
    cases x
    ·have HV : Hid _ := NO.out (by rw [HE.out, ← HX.out])
     go_wp2
     go_ret
     exact ⟨ret_bool (by rw [HV.out]), B1⟩
    ·have HY : Hid _ := YES.out (by rw [HE.out, ← HX.out])
     go_wp2
     go_roundw
     case rel => exact ⟨k + 1, by omega, by go_num, by rw [LS.out], b01, HY.out⟩
     case measure => simp [intOf]; omega
  ·obtain rfl : k = kn := by omega
   go_wp2
   go_ret
   exact ⟨ret_bool (by rw [wantsB, HA.out]), hb⟩

end Go.Proofs.YtdigmokjedckeaaGreatDoor
namespace Go.Proofs.YtdigmokjedckeaaGreatDoor
open Go.RowKit Go.Deep
set_option linter.unusedVariables false
set_option maxRecDepth 100000

set_option maxHeartbeats 1600000 in
theorem shasn_any (u : Bool) (r : Int) (ba : Option Addr) (bn bc : Nat) (da : Option Addr) (dn dc : Nat) (ka : Option Addr) (kn kc : Nat) (ea : Option Addr) (en ec : Nat) (ex : List GV) (w : World) (hE : GSG w ea ex) (lE : ex.length = en) (zE : en ≤ 1048576) :
  Calls Tryz.prog 49 #[ckV u r ba bn bc da dn dc ka kn kc ea en ec] w fun e w' => e = .returned (.int .i64 (hasN ex)) ∧ Below w.heap.size w w' := by
 have LE : Hid (ex.length = en) := lE
 clear lE
 have y0 := Cel.new w [.bool u, .int .i64 r, .slice ba bn bc, .slice da dn dc, .slice ka kn kc, .slice ea en ec] 52
 have B0 := (Below.refl w.heap.size w).alloc (Nat.le_refl _) (.cells #[.bool u, .int .i64 r, .slice ba bn bc, .slice da dn dc, .slice ka kn kc, .slice ea en ec] 52)
 go_enter Tryz.func49, Tryz.ntmps49
 go_wp2_with fail
 obtain ⟨W0, hW0⟩ : ∃ W, W = w.alloc (.cells #[.bool u, .int .i64 r, .slice ba bn bc, .slice da dn dc, .slice ka kn kc, .slice ea en ec] 52) := ⟨_, rfl⟩
 rw [← hW0] at y0 B0 ⊢
 clear hW0
 have hE' := hE.below B0
 clear hE
 obtain ⟨d0, d1, d2, d3, d4, d5⟩ := y0.sixP
 go_loop [3, 4] (fun n i => ∃ k : Nat, k ≤ en ∧ i = .int .i64 k ∧ n = .int .i64 (hasN (ex.take k))) (fun _ i => en - (intOf i).toNat)
 case atStart => exact ⟨0, Nat.zero_le _, rfl, by simp [hasN]⟩
 case round =>
  obtain ⟨k, hk, rfl, rfl⟩ := hrel
  by_cases hlt : k < en
  ·obtain ⟨b, off, rfl, hc, hr⟩ := hE' k (by rw [LE.out]; exact hlt)
   have hs := has_snoc (fs := ex) (k := k) (by rw [LE.out]; exact hlt)
   have HS : Hid _ := hs
   have hle := has_le (ex.take k)
   rw [List.length_take] at hle
   obtain ⟨n0, hn0⟩ : ∃ n, n = hasN (ex.take k) := ⟨_, rfl⟩
   have HN0 : Hid _ := hn0
   rw [← hn0] at hle ⊢
   have hle' : n0 ≤ 1048576 := by omega
   clear hs hn0 hle
   obtain ⟨e0, -, -⟩ := cellsG hc
   have hlt' : (k : Int) < (en : Int) := by omega
   cases hh : (ex[k]?.getD noG).h
   ·rw [hh] at e0
    go_wp2
    go_round
    case rel => exact ⟨k + 1, by omega, by go_num, by rw [HS.out, hh, ← HN0.out]; simp⟩
    case measure => simp [intOf]; omega
   ·rw [hh] at e0
    go_wp2
    go_round
    case rel => exact ⟨k + 1, by omega, by go_num, by rw [HS.out, hh, ← HN0.out]; go_num⟩
    case measure => simp [intOf]; omega
  ·obtain rfl : k = en := by omega
   go_wp2
   go_ret
   exact ⟨ret_int (by rw [List.take_of_length_le (by rw [LE.out]; exact Nat.le_refl _)]), B0⟩

set_option maxHeartbeats 3200000 in
theorem sgots_any (cl : Int) (ad : Option Addr) (N cap : Nat) (ga : Option Addr) (gn gc : Nat) (sa : Option Addr) (sn sc : Nat) (G : List Int) (pa : Option Addr) (pn pc : Nat) (ts : List IV) (T : List (List Int)) (na : Option Addr) (nc : Nat) (R : Nat → Bool) (u : Bool) (r : Int) (ba : Option Addr) (bn bc : Nat) (da : Option Addr) (dn dc : Nat) (ka : Option Addr) (kn kc : Nat) (ea : Option Addr) (en ec : Nat) (bx : List Int) (ex : List GV) (w : World) (hG : Ints w ga gn G) (zg : gn ≤ 1048576) (hP : ISG w pa ts) (lP : ts.length = pn) (zP : pn ≤ 1048576) (hT : ts.map IV.x = T) (hR : BA w na 3 R) (hB : Ints w ba bn bx) (zb : bn ≤ 1048576) (hE : GSG w ea ex) (lE : ex.length = en) (zE : en ≤ 1048576) :
  Calls Tryz.prog 83 #[plV cl ad N cap ga gn gc sa sn sc, .slice pa pn pc, .slice na 3 nc, ckV u r ba bn bc da dn dc ka kn kc ea en ec] w fun e w' => e = .returned (.bool (gotsB cl gn bn bx G T R en ex)) ∧ Below w.heap.size w w' := by
 have LE : Hid (ex.length = en) := lE
 have HT : Hid (ts.map IV.x = T) := hT
 clear lE hT
 have q0 := (Cel.new w [.int .i64 cl, .slice ad N cap, .slice ga gn gc, .slice sa sn sc] 34).alloc (.cells #[.bool u, .int .i64 r, .slice ba bn bc, .slice da dn dc, .slice ka kn kc, .slice ea en ec] 52)
 have y0 := Cel.new (w.alloc (.cells #[.int .i64 cl, .slice ad N cap, .slice ga gn gc, .slice sa sn sc] 34)) [.bool u, .int .i64 r, .slice ba bn bc, .slice da dn dc, .slice ka kn kc, .slice ea en ec] 52
 rw [World.size_alloc] at y0
 have B0 := ((Below.refl w.heap.size w).alloc (Nat.le_refl _) (.cells #[.int .i64 cl, .slice ad N cap, .slice ga gn gc, .slice sa sn sc] 34)).alloc (by simp) (.cells #[.bool u, .int .i64 r, .slice ba bn bc, .slice da dn dc, .slice ka kn kc, .slice ea en ec] 52)
 by_cases hc : en = gn
 ·have hc' : ((en : Int) != (gn : Int)) = false := by simp [hc]
  have HC : Hid _ := hc
  clear hc
  have T0 := Cel.new ((w.alloc (.cells #[.int .i64 cl, .slice ad N cap, .slice ga gn gc, .slice sa sn sc] 34)).alloc (.cells #[.bool u, .int .i64 r, .slice ba bn bc, .slice da dn dc, .slice ka kn kc, .slice ea en ec] 52)) [.slice ba bn bc, .slice ga gn gc] 96
  rw [World.size_alloc, World.size_alloc] at T0
  replace q0 := q0.alloc (.cells #[.slice ba bn bc, .slice ga gn gc] 96)
  replace y0 := y0.alloc (.cells #[.slice ba bn bc, .slice ga gn gc] 96)
  replace B0 := B0.alloc B0.size (.cells #[.slice ba bn bc, .slice ga gn gc] 96)
  go_enter Tryz.func83, Tryz.ntmps83
  go_wp2_with fail
  obtain ⟨W0, hW0⟩ : ∃ W, W = ((w.alloc (.cells #[.int .i64 cl, .slice ad N cap, .slice ga gn gc, .slice sa sn sc] 34)).alloc (.cells #[.bool u, .int .i64 r, .slice ba bn bc, .slice da dn dc, .slice ka kn kc, .slice ea en ec] 52)).alloc (.cells #[.slice ba bn bc, .slice ga gn gc] 96) := ⟨_, rfl⟩
  rw [← hW0] at q0 y0 T0 B0 ⊢
  clear hW0
  go_loopw [10, 11] (fun i _ wr => ∃ k : Nat, k ≤ en ∧ i = .int .i64 k ∧ Below W0.heap.size W0 wr ∧ gotsTo cl gn bn bx G T R ex k = true) (fun i _ _ => en - (intOf i).toNat)
  case atStart => exact ⟨0, Nat.zero_le _, rfl, Below.refl _ _, rfl⟩
  case round =>
   obtain ⟨k, hk, rfl, hb0, hall⟩ := hrel
   have HA : Hid _ := hall
   clear hall
   have hb := B0.trans (hb0.mono B0.size)
   obtain ⟨c0, c1, c2, c3⟩ := (q0.below hb0).quadP
   obtain ⟨d0, d1, d2, d3, d4, d5⟩ := (y0.below hb0).sixP
   obtain ⟨t0, t1⟩ := (T0.below hb0).two
   by_cases hlt : k < en
   ·obtain ⟨b, off, rfl, hc, hr⟩ := (hE.below hb) k (by rw [LE.out]; exact hlt)
    generalize HG : ex[k]?.getD noG = g at *
    have HG' : Hid (ex[k]?.getD noG = g) := HG
    clear HG
    obtain ⟨e0, e1, e2⟩ := cellsG hc
    obtain ⟨gh, ⟨gta, gtn, gtc, gtx⟩, ⟨gua, gun, guc, gux⟩⟩ := g
    have e0' : wr.cell? ⟨b, off + k * 3, none⟩ = some (.bool gh) := e0
    have e1' : wr.cell? ⟨b, off + k * 3 + 1, none⟩ = some (.slice gta gtn gtc) := e1
    have e2' : wr.cell? ⟨b, off + k * 3 + 2, none⟩ = some (.slice gua gun guc) := e2
    have hI : Ints wr gta gtn gtx := hr.1.1
    have zI : gtn ≤ 1048576 := hr.1.2
    have hJ : Ints wr gua gun gux := hr.2.1.1
    have zJ : gun ≤ 1048576 := hr.2.1.2
    clear e0 e1 e2 hc hr
    have hlt' : (k : Int) < (en : Int) := by omega
    have NO : Hid (gotP cl gn bn bx G T R k ⟨gh, ⟨gta, gtn, gtc, gtx⟩, ⟨gua, gun, guc, gux⟩⟩ = false → gotsB cl gn bn bx G T R en ex = false) := fun h => by rw [gotsB, gotsTo, range_no hlt (by rw [HG'.out]; exact h)]; simp
    have YES : Hid (gotP cl gn bn bx G T R k ⟨gh, ⟨gta, gtn, gtc, gtx⟩, ⟨gua, gun, guc, gux⟩⟩ = true → gotsTo cl gn bn bx G T R ex (k + 1) = true) := fun h => range_go HA.out (by rw [HG'.out]; exact h)
    have bA := hb0.alloc hb0.size (.cells #[.bool gh, .slice gta gtn gtc, .slice gua gun guc] 133)
    have BA := hb.alloc hb.size (.cells #[.bool gh, .slice gta gtn gtc, .slice gua gun guc] 133)
    have qA := (q0.below hb0).alloc (.cells #[.bool gh, .slice gta gtn gtc, .slice gua gun guc] 133)
    have tA := (T0.below hb0).alloc (.cells #[.bool gh, .slice gta gtn gtc, .slice gua gun guc] 133)
    obtain ⟨v0, v1, v2, v3⟩ := qA.quadP
    obtain ⟨r0, r1⟩ := tA.two
    clear qA tA
    cases gh
    ·by_cases hz : gtn = 0 ∧ gun = 0
     ·obtain ⟨rfl, rfl⟩ := hz
      have HY : Hid _ := YES.out (by rw [got_no]; rfl)
      clear NO YES
      go_wp2
      go_roundw
      case rel => exact ⟨k + 1, by omega, by go_num, bA, HY.out⟩
      case measure => simp [intOf]; omega
     ·have HV : Hid _ := NO.out (by rw [got_no]; simp; omega)
      have hd1 : decide ((0 : Int) < (gtn : Int) + (gun : Int)) = true := by simp; omega
      have hd2 : decide (0 < gtn + gun) = true := by simp; omega
      clear NO YES hz
      go_wp2
      go_ret
      exact ⟨ret_bool (by rw [HV.out]), BA⟩
    ·cases h3 : keepT bn gn bx G T k gtn gtx
     ·have HV : Hid _ := NO.out (by rw [got_yes]; show (keepT bn gn bx G T k gtn gtx && _) = false; rw [h3]; rfl)
      clear NO YES
      go_wp2_with fail
      refine (skeep_any _ _ _ _ _ _ _ _ _ _ _ _ _ bx G gtx ts _ (hB.below BA) (hG.below BA) (hI.alloc _) lP (hP.below BA) zb zg zI zP).mono ?_
      rintro e w1 ⟨rfl, b1⟩
      rw [keep_of hP HT.out, h3]
      go_wp2
      go_ret
      exact ⟨ret_bool (by rw [HV.out]), BA.trans (b1.mono BA.size)⟩
     ·obtain rfl : gtn = 3 := (keepT_elim h3).2.2
      cases h4 : stillB R gtx
      ·have HV : Hid _ := NO.out (by rw [got_yes]; show (_ && (stillB R gtx && _)) = false; rw [h4]; simp)
       clear NO YES
       go_wp2_with fail
       refine (skeep_any _ _ _ _ _ _ _ _ _ _ _ _ _ bx G gtx ts _ (hB.below BA) (hG.below BA) (hI.alloc _) lP (hP.below BA) zb zg zI zP).mono ?_
       rintro e w1 ⟨rfl, b1⟩
       rw [keep_of hP HT.out, h3]
       have bg := (Cel.new wr [.bool true, .slice gta 3 gtc, .slice gua gun guc] 133).below b1
       have B1 := BA.trans (b1.mono BA.size)
       obtain ⟨i0, i1, i2⟩ := bg.three
       go_wp2_with fail
       refine (sstill_any _ _ _ _ R gtx _ (hR.below B1) ((hI.alloc _).below b1)).mono ?_
       rintro e wq ⟨rfl, rfl⟩
       rw [h4]
       go_wp2
       go_ret
       exact ⟨ret_bool (by rw [HV.out]), B1⟩
      ·obtain ⟨x5, h5⟩ : ∃ x, x = seqsB cl gun gux := ⟨_, rfl⟩
       have H5 : Hid (x5 = seqsB cl gun gux) := h5
       have HP5 : Hid (gotP cl gn bn bx G T R k ⟨true, ⟨gta, 3, gtc, gtx⟩, ⟨gua, gun, guc, gux⟩⟩ = x5) := by show _ = _; rw [got_yes]; show (keepT bn gn bx G T k 3 gtx && (stillB R gtx && seqsB cl gun gux)) = x5; rw [h3, h4, h5]; rfl
       clear h5
       go_wp2_with fail
       refine (skeep_any _ _ _ _ _ _ _ _ _ _ _ _ _ bx G gtx ts _ (hB.below BA) (hG.below BA) (hI.alloc _) lP (hP.below BA) zb zg zI zP).mono ?_
       rintro e w1 ⟨rfl, b1⟩
       rw [keep_of hP HT.out, h3]
       have bg := (Cel.new wr [.bool true, .slice gta 3 gtc, .slice gua gun guc] 133).below b1
       have B1 := BA.trans (b1.mono BA.size)
       have b01 := bA.trans (b1.mono bA.size)
       have q1 := q0.below b01
       obtain ⟨i0, i1, i2⟩ := bg.three
       obtain ⟨j0, j1, j2, j3⟩ := q1.quadP
       go_wp2_with fail
       refine (sstill_any _ _ _ _ R gtx _ (hR.below B1) ((hI.alloc _).below b1)).mono ?_
       rintro e wq ⟨rfl, rfl⟩
       rw [h4]
       go_wp2_with fail
       refine (sseqs_any _ _ _ _ _ _ _ _ _ _ _ _ _ gux _ ((hJ.alloc _).below b1) zJ).mono ?_
       rintro e w2 ⟨rfl, b2⟩
       rw [← H5.out]
       have B2 := B1.trans (b2.mono B1.size)
       have b02 := b01.trans (b2.mono b01.size)
       cases x5
       ·go_wp2
        go_ret
        exact ⟨ret_bool (by rw [NO.out HP5.out]), B2⟩
       ·go_wp2
        go_roundw
        case rel => exact ⟨k + 1, by omega, by go_num, b02, YES.out HP5.out⟩
        case measure => simp [intOf]; omega
   ·obtain rfl : k = en := by omega
    go_wp2
    go_ret
    exact ⟨ret_bool (by rw [gotsB, HA.out, HC.out]; simp), hb⟩
 ·have hc' : ((en : Int) != (gn : Int)) = true := by simp; omega
  go_enter Tryz.func83, Tryz.ntmps83
  go_wp2
  go_ret
  exact ⟨ret_bool (by rw [gotsB]; simp [hc]), B0⟩

end Go.Proofs.YtdigmokjedckeaaGreatDoor
namespace Go.Proofs.YtdigmokjedckeaaGreatDoor
open Go.RowKit Go.Deep
set_option linter.unusedVariables false
set_option maxRecDepth 100000
set_option maxHeartbeats 12800000 in
theorem sl9_any (cl : Int) (ad : Option Addr) (N cap : Nat) (ga : Option Addr) (gn gc : Nat) (sa : Option Addr) (sn sc : Nat) (G : List Int) (pa : Option Addr) (pn pc : Nat) (ts : List IV) (T : List (List Int)) (na : Option Addr) (nc : Nat) (R : Nat → Bool) (u : Bool) (r : Int) (ba : Option Addr) (bn bc : Nat) (bx : List Int) (da : Option Addr) (dn dc : Nat) (dx : List DV) (ka : Option Addr) (kn kc : Nat) (kx : List QV) (ea : Option Addr) (en ec : Nat) (ex : List GV) (w : World) (hG : Ints w ga gn G) (zg : gn ≤ 1048576) (hcl : 1 ≤ cl ∧ cl ≤ 4) (hN4 : 1 ≤ N ∧ N ≤ 4) (hP : ISG w pa ts) (lP : ts.length = pn) (zP : pn ≤ 1048576) (hT : ts.map IV.x = T) (hR : BA w na 3 R) (h : CkAt w ba bn bx da dn dx ka kn kx ea en ex) :
  Calls Tryz.prog 40 #[plV cl ad N cap ga gn gc sa sn sc, .slice pa pn pc, .slice na 3 nc, ckV u r ba bn bc da dn dc ka kn kc ea en ec] w fun e w' => e = .returned (.bool (clerkB cl N gn G T R u r bn bx dn dx kn kx en ex)) ∧ Below w.heap.size w w' := by
 have q0 := (Cel.new w [.int .i64 cl, .slice ad N cap, .slice ga gn gc, .slice sa sn sc] 34).alloc (.cells #[.bool u, .int .i64 r, .slice ba bn bc, .slice da dn dc, .slice ka kn kc, .slice ea en ec] 52)
 have y0 := Cel.new (w.alloc (.cells #[.int .i64 cl, .slice ad N cap, .slice ga gn gc, .slice sa sn sc] 34)) [.bool u, .int .i64 r, .slice ba bn bc, .slice da dn dc, .slice ka kn kc, .slice ea en ec] 52
 rw [World.size_alloc] at y0
 have B0 := ((Below.refl w.heap.size w).alloc (Nat.le_refl _) (.cells #[.int .i64 cl, .slice ad N cap, .slice ga gn gc, .slice sa sn sc] 34)).alloc (by simp) (.cells #[.bool u, .int .i64 r, .slice ba bn bc, .slice da dn dc, .slice ka kn kc, .slice ea en ec] 52)
 obtain ⟨x1, hx1⟩ : ∃ y, y = inB r 0 200 := ⟨_, rfl⟩
 obtain ⟨x2, hx2⟩ : ∃ y, y = okN 3 10000 bn bx := ⟨_, rfl⟩
 obtain ⟨x3, hx3⟩ : ∃ y, y = donesB cl dn dx := ⟨_, rfl⟩
 obtain ⟨x4, hx4⟩ : ∃ y, y = gotsB cl gn bn bx G T R en ex := ⟨_, rfl⟩
 have HV : Hid (clerkB cl N gn G T R u r bn bx dn dx kn kx en ex = (x1 && (x2 && (x3 && (wantsB cl N kn kx && (x4 && (u || (decide (kn = 0) && decide (hasN ex = 0))))))))) := by show _ = _; rw [clerkB, hx1, hx2, hx3, hx4]
 have H1 : Hid _ := hx1
 have H2 : Hid _ := hx2
 have H3 : Hid _ := hx3
 have H4 : Hid _ := hx4
 clear hx1 hx2 hx3 hx4
 have zk := h.zk
 obtain ⟨d0, d1, d2, d3, d4, d5⟩ := y0.sixP
 go_enter Tryz.func40, Tryz.ntmps40
 go_wp2_with fail
 refine (in_any _ _ _ _).mono ?_
 rintro e wq ⟨rfl, rfl⟩
 rw [← H1.out]
 cases x1
 ·go_wp2
  go_ret
  exact ⟨ret_bool (by rw [HV.out]; rfl), B0⟩
 go_wp2_with fail
 refine (sval_any _ _ _ bx _ (h.below B0).b h.zb).mono ?_
 rintro e wq ⟨rfl, rfl⟩
 rw [← H2.out]
 cases x2
 ·go_wp2
  go_ret
  exact ⟨ret_bool (by rw [HV.out]; rfl), B0⟩
 clear d0 d1 d2 d3 d4 d5
 go_wp2_with fail
 refine (sdones_any _ _ _ _ _ _ _ _ _ _ _ _ _ dx _ h.ld (h.below B0).d h.zd).mono ?_
 rintro e w1 ⟨rfl, b1⟩
 rw [← H3.out]
 have B1 := B0.trans (b1.mono B0.size)
 have q1 := q0.below b1
 have y1 := y0.below b1
 clear q0 y0 B0 b1
 cases x3
 ·go_wp2
  go_ret
  exact ⟨ret_bool (by rw [HV.out]; rfl), B1⟩
 obtain ⟨c0, c1, c2, c3⟩ := q1.quadP
 obtain ⟨d0, d1, d2, d3, d4, d5⟩ := y1.sixP
 go_wp2_with fail
 refine (sgots_any _ _ _ _ _ _ _ _ _ _ G _ _ _ ts T _ _ R _ _ _ _ _ _ _ _ _ _ _ _ _ _ bx ex _ (hG.below B1) zg (hP.below B1) lP zP hT (hR.below B1) (h.below B1).b h.zb (h.below B1).g h.lg h.zg).mono ?_
 rintro e w2 ⟨rfl, b2⟩
 rw [← H4.out]
 have B2 := B1.trans (b2.mono B1.size)
 have q2 := q1.below b2
 have y2 := y1.below b2
 clear q1 y1 B1 b2 c0 c1 c2 c3 d0 d1 d2 d3 d4 d5
 cases x4
 ·go_wp2
  go_ret
  exact ⟨ret_bool (by rw [HV.out]; simp), B2⟩
 go_wp2_with fail
 go_loopw [9] (fun i wr => ∃ k : Nat, k ≤ kn ∧ i = .int .i64 k ∧ Below w2.heap.size w2 wr ∧ (List.range k).all (wantP cl N kx) = true) (fun i _ => kn - (intOf i).toNat)
 case atStart => exact ⟨0, Nat.zero_le _, rfl, Below.refl _ _, rfl⟩
 case round =>
  obtain ⟨k, hk, rfl, hb0, hall⟩ := hrel
  have HA : Hid _ := hall
  clear hall
  have hb := B2.trans (hb0.mono B2.size)
  obtain ⟨d0, d1, d2, d3, d4, d5⟩ := (y2.below hb0).sixP
  by_cases hlt : k < kn
  ·obtain ⟨b, off, rfl, hc, hr⟩ := (h.below hb).k k (by rw [h.lk]; exact hlt)
   have PREV : Hid (0 < k → wr.cell? ⟨b, off + (k - 1) * 4, none⟩ = some (.int .i64 (kx[k - 1]?.getD noQ).x)) := fun hk0 => by
    obtain ⟨b', off', e, hc', -⟩ := (h.below hb).k (k - 1) (by rw [h.lk]; omega)
    simp only [Option.some.injEq, Addr.mk.injEq, and_true] at e
    obtain ⟨rfl, rfl⟩ := e
    exact (cellsQ hc').1
   generalize HG : kx[k]?.getD noQ = g at *
   have HG' : Hid (kx[k]?.getD noQ = g) := HG
   clear HG
   obtain ⟨e0, e1, e2, e3⟩ := cellsQ hc
   obtain ⟨gx, gq, gz, ⟨gta, gtn, gtc, gtx⟩⟩ := g
   have e0' : wr.cell? ⟨b, off + k * 4, none⟩ = some (.int .i64 gx) := e0
   have e1' : wr.cell? ⟨b, off + k * 4 + 1, none⟩ = some (.int .i64 gq) := e1
   have e2' : wr.cell? ⟨b, off + k * 4 + 2, none⟩ = some (.int .i64 gz) := e2
   have e3' : wr.cell? ⟨b, off + k * 4 + 3, none⟩ = some (.slice gta gtn gtc) := e3
   have hI : Ints wr gta gtn gtx := hr.1.1
   have zI : gtn ≤ 1048576 := hr.1.2
   clear e0 e1 e2 e3 hc hr
   have hlt' : (k : Int) < (kn : Int) := by omega
   have NO : Hid (wantP cl N kx k = false → clerkB cl N gn G T R u r bn bx dn dx kn kx en ex = false) := fun h => by rw [HV.out, wantsB, range_no hlt h]; rfl
   have YES : Hid (wantP cl N kx k = true → (List.range (k + 1)).all (wantP cl N kx) = true) := fun h => range_go HA.out h
   have HE : Hid (wantP cl N kx k = (inCallB cl N gx gq gz gtn gtx && decide (k = 0 ∨ (kx[k - 1]?.getD noQ).x < gx))) := by show _ = _; rw [wantP, HG'.out]
   obtain ⟨x, hx⟩ : ∃ x, x = inCallB cl N gx gq gz gtn gtx := ⟨_, rfl⟩
   have HX : Hid (x = inCallB cl N gx gq gz gtn gtx) := hx
   clear hx
   have q3 := q2.below hb0
   have y3 := y2.below hb0
   by_cases hk0 : k = 0
   ·subst hk0
    cases x
    ·have FX : Hid _ := HX.out
     have KP : Hid (∀ W, Below wr.heap.size wr W → W.cell? ⟨w.heap.size, 0, none⟩ = some (.int .i64 cl) ∧ W.cell? ⟨w.heap.size, 1, none⟩ = some (.slice ad N cap) ∧ W.cell? ⟨w.heap.size, 2, none⟩ = some (.slice ga gn gc) ∧ W.cell? ⟨w.heap.size, 3, none⟩ = some (.slice sa sn sc) ∧ W.cell? ⟨w.heap.size + 1, 4, none⟩ = some (.slice (some ⟨b, off, none⟩) kn kc) ∧ W.cell? ⟨b, off, none⟩ = some (.int .i64 gx) ∧ W.cell? ⟨b, off + 1, none⟩ = some (.int .i64 gq) ∧ W.cell? ⟨b, off + 2, none⟩ = some (.int .i64 gz) ∧ W.cell? ⟨b, off + 3, none⟩ = some (.slice gta gtn gtc)) := fun W hW => ⟨(q3.below hW).cell 0, (q3.below hW).cell 1, (q3.below hW).cell 2, (q3.below hW).cell 3, (y3.below hW).cell 4, (hW.cell (p := ⟨b, off + 0 * 4, none⟩) (block_lt e0')).trans e0', (hW.cell (p := ⟨b, off + 0 * 4 + 1, none⟩) (block_lt e1')).trans e1', (hW.cell (p := ⟨b, off + 0 * 4 + 2, none⟩) (block_lt e2')).trans e2', (hW.cell (p := ⟨b, off + 0 * 4 + 3, none⟩) (block_lt e3')).trans e3'⟩
     have hSS := And.intro (KP.out _ (Below.refl _ _).drew) True.intro
     clear e0' e1' e2' e3'
     go_upto_region 6 with fail
     refine wp_region_ends (fun w' => w'.cell? ⟨w.heap.size, 0, none⟩ = some (.int .i64 cl) ∧ w'.cell? ⟨w.heap.size, 1, none⟩ = some (.slice ad N cap) ∧ w'.cell? ⟨w.heap.size, 2, none⟩ = some (.slice ga gn gc) ∧ w'.cell? ⟨w.heap.size, 3, none⟩ = some (.slice sa sn sc) ∧ w'.cell? ⟨w.heap.size + 1, 4, none⟩ = some (.slice (some ⟨b, off, none⟩) kn kc) ∧ w'.cell? ⟨b, off, none⟩ = some (.int .i64 gx) ∧ w'.cell? ⟨b, off + 1, none⟩ = some (.int .i64 gq) ∧ w'.cell? ⟨b, off + 2, none⟩ = some (.int .i64 gz) ∧ w'.cell? ⟨b, off + 3, none⟩ = some (.slice gta gtn gtc)) (fun _ => True) 27 (by kernel_rfl) ?_
     refine wpAnyE_take0 (i := 0) (v := ?av0) rfl (by kernel_rfl) (by kernel_rfl) (by kernel_rfl) (by decide) (fun _ _ _ h => h) (Or.inl ⟨by rfl, ?ahy0⟩) hSS ?_
     case ahy0 => (intro wz hSw; (try dsimp only at hSw); go_simp; try (with_reducible rfl))
     refine wpAnyE_take0 (i := 1) (v := ?av1) rfl (by kernel_rfl) (by kernel_rfl) (by kernel_rfl) (by decide) (fun _ _ _ h => h) (Or.inl ⟨by rfl, ?ahy1⟩) hSS ?_
     case ahy1 => (intro wz hSw; (try dsimp only at hSw); go_simp; try (with_reducible rfl))
     refine wpAnyE_take0 (i := 2) (v := ?av2) rfl (by kernel_rfl) (by kernel_rfl) (by kernel_rfl) (by decide) (fun _ _ _ h => h) (Or.inl ⟨by rfl, ?ahy2⟩) hSS ?_
     case ahy2 => (intro wz hSw; (try dsimp only at hSw); go_simp; try (with_reducible rfl))
     refine wpAnyE_take0 (i := 3) (v := ?av3) rfl (by kernel_rfl) (by kernel_rfl) (by kernel_rfl) (by decide) (fun _ _ _ h => h) (Or.inl ⟨by rfl, ?ahy3⟩) hSS ?_
     case ahy3 => (intro wz hSw; (try dsimp only at hSw); go_simp; try (with_reducible rfl))
     simp only [Act.put, List.setIfInBounds_toArray, List.set_cons_succ, List.set_cons_zero, List.getElem_toArray, List.getElem_cons_succ, List.getElem_cons_zero]
     refine wpAnyE_take0 (i := 4) (v := ?av4) rfl (by kernel_rfl) (by kernel_rfl) (by kernel_rfl) (by decide) (fun _ _ _ h => h) (Or.inl ⟨by rfl, ?ahy4⟩) hSS ?_
     case ahy4 => (intro wz hSw; (try dsimp only at hSw); go_simp; try (with_reducible rfl))
     refine wpAnyE_take0 (i := 5) (v := ?av5) rfl (by kernel_rfl) (by kernel_rfl) (by kernel_rfl) (by decide) (fun _ _ _ h => h) (Or.inl ⟨by rfl, ?ahy5⟩) hSS ?_
     case ahy5 => (intro wz hSw; (try dsimp only at hSw); go_simp; try (with_reducible rfl))
     refine wpAnyE_one (i := 6) (by kernel_rfl) rfl (fun K hK => ?_)
     go_simp
     refine (l6call_any _ _ _ _ _ _ _ _ _ _ _ _ _ _ _ _ gtx _ (hI.below (Below.refl _ _).drew) zI hcl hN4).mono ?_
     rintro ee w5 ⟨rfl, bd5⟩
     rw [← HX.out]
     have b5 := below_of_drew bd5
     have b05 := hb0.trans (b5.mono hb0.size)
     have B5 := hb.trans (b5.mono hb.size)
     (try dsimp only)
     replace hSS := And.intro (KP.out w5 b5) True.intro
     refine hK.out _ _ ⟨hSS.1, fun _ => trivial⟩ ?_
     clear hK K
     refine wpAnyE_take0 (i := 7) (v := ?av7) rfl (by kernel_rfl) (by kernel_rfl) (by kernel_rfl) (by decide) (fun _ _ _ h => h) (Or.inl ⟨by rfl, ?ahy7⟩) hSS ?_
     case ahy7 => (intro wz hSw; (try dsimp only at hSw); go_simp; try (with_reducible rfl))
     refine wpAnyE_take0 (i := 8) (v := ?av8) rfl (by kernel_rfl) (by kernel_rfl) (by kernel_rfl) (by decide) (fun _ _ _ h => h) (Or.inl ⟨by rfl, ?ahy8⟩) hSS ?_
     case ahy8 => (intro wz hSw; (try dsimp only at hSw); go_simp; try (with_reducible rfl))
     refine wpAnyE_take0 (i := 9) (v := undef) rfl (by kernel_rfl) (by kernel_rfl) (by kernel_rfl) (by decide) (fun _ _ _ h => h) (Or.inr ⟨by kernel_rfl, rfl⟩) hSS ?_
     refine wpAnyE_take0 (i := 10) (v := undef) rfl (by kernel_rfl) (by kernel_rfl) (by kernel_rfl) (by decide) (fun _ _ _ h => h) (Or.inr ⟨by kernel_rfl, rfl⟩) hSS ?_
     simp only [Act.put, List.setIfInBounds_toArray, List.set_cons_succ, List.set_cons_zero, List.getElem_toArray, List.getElem_cons_succ, List.getElem_cons_zero]
     refine wpAnyE_take0 (i := 11) (v := undef) rfl (by kernel_rfl) (by kernel_rfl) (by kernel_rfl) (by decide) (fun _ _ _ h => h) (Or.inr ⟨by kernel_rfl, rfl⟩) hSS ?_
     refine wpAnyE_take0 (i := 12) (v := undef) rfl (by kernel_rfl) (by kernel_rfl) (by kernel_rfl) (by decide) (fun _ _ _ h => h) (Or.inr ⟨by kernel_rfl, rfl⟩) hSS ?_
     refine wpAnyE_take0 (i := 13) (v := undef) rfl (by kernel_rfl) (by kernel_rfl) (by kernel_rfl) (by decide) (fun _ _ _ h => h) (Or.inr ⟨by kernel_rfl, rfl⟩) hSS ?_
     refine wpAnyE_take0 (i := 14) (v := undef) rfl (by kernel_rfl) (by kernel_rfl) (by kernel_rfl) (by decide) (fun _ _ _ h => h) (Or.inr ⟨by kernel_rfl, rfl⟩) hSS ?_
     simp only [Act.put, List.setIfInBounds_toArray, List.set_cons_succ, List.set_cons_zero, List.getElem_toArray, List.getElem_cons_succ, List.getElem_cons_zero]
     refine wpAnyE_take0 (i := 15) (v := undef) rfl (by kernel_rfl) (by kernel_rfl) (by kernel_rfl) (by decide) (fun _ _ _ h => h) (Or.inr ⟨by kernel_rfl, rfl⟩) hSS ?_
     refine wpAnyE_take0 (i := 16) (v := undef) rfl (by kernel_rfl) (by kernel_rfl) (by kernel_rfl) (by decide) (fun _ _ _ h => h) (Or.inr ⟨by kernel_rfl, rfl⟩) hSS ?_
     refine wpAnyE_take0 (i := 17) (v := undef) rfl (by kernel_rfl) (by kernel_rfl) (by kernel_rfl) (by decide) (fun _ _ _ h => h) (Or.inr ⟨by kernel_rfl, rfl⟩) hSS ?_
     refine wpAnyE_take0 (i := 18) (v := undef) rfl (by kernel_rfl) (by kernel_rfl) (by kernel_rfl) (by decide) (fun _ _ _ h => h) (Or.inr ⟨by kernel_rfl, rfl⟩) hSS ?_
     simp only [Act.put, List.setIfInBounds_toArray, List.set_cons_succ, List.set_cons_zero, List.getElem_toArray, List.getElem_cons_succ, List.getElem_cons_zero]
     refine wpAnyE_take0 (i := 19) (v := undef) rfl (by kernel_rfl) (by kernel_rfl) (by kernel_rfl) (by decide) (fun _ _ _ h => h) (Or.inr ⟨by kernel_rfl, rfl⟩) hSS ?_
     refine wpAnyE_take0 (i := 20) (v := undef) rfl (by kernel_rfl) (by kernel_rfl) (by kernel_rfl) (by decide) (fun _ _ _ h => h) (Or.inr ⟨by kernel_rfl, rfl⟩) hSS ?_
     refine wpAnyE_take0 (i := 21) (v := undef) rfl (by kernel_rfl) (by kernel_rfl) (by kernel_rfl) (by decide) (fun _ _ _ h => h) (Or.inr ⟨by kernel_rfl, rfl⟩) hSS ?_
     refine wpAnyE_take0 (i := 22) (v := undef) rfl (by kernel_rfl) (by kernel_rfl) (by kernel_rfl) (by decide) (fun _ _ _ h => h) (Or.inr ⟨by kernel_rfl, rfl⟩) hSS ?_
     simp only [Act.put, List.setIfInBounds_toArray, List.set_cons_succ, List.set_cons_zero, List.getElem_toArray, List.getElem_cons_succ, List.getElem_cons_zero]
     refine wpAnyE_take0 (i := 23) (v := undef) rfl (by kernel_rfl) (by kernel_rfl) (by kernel_rfl) (by decide) (fun _ _ _ h => h) (Or.inr ⟨by kernel_rfl, rfl⟩) hSS ?_
     refine wpAnyE_take0 (i := 24) (v := undef) rfl (by kernel_rfl) (by kernel_rfl) (by kernel_rfl) (by decide) (fun _ _ _ h => h) (Or.inr ⟨by kernel_rfl, rfl⟩) hSS ?_
     refine wpAnyE_take0 (i := 25) (v := undef) rfl (by kernel_rfl) (by kernel_rfl) (by kernel_rfl) (by decide) (fun _ _ _ h => h) (Or.inr ⟨by kernel_rfl, rfl⟩) hSS ?_
     refine wpAnyE_take0 (i := 26) (v := undef) rfl (by kernel_rfl) (by kernel_rfl) (by kernel_rfl) (by decide) (fun _ _ _ h => h) (Or.inr ⟨by kernel_rfl, rfl⟩) hSS ?_
     simp only [Act.put, List.setIfInBounds_toArray, List.set_cons_succ, List.set_cons_zero, List.getElem_toArray, List.getElem_cons_succ, List.getElem_cons_zero]
     refine wpAnyE_one (i := 27) (by kernel_rfl) rfl (fun K hK => ?_)
     go_simp
     refine hK.out _ _ ⟨hSS.1, fun _ => trivial⟩ ?_
     clear hK K
     refine wpAnyE_done (by kernel_rfl) ?_ _
     clear hSS
     go_wp2
     go_ret
     exact ⟨ret_bool (by rw [NO.out (by rw [HE.out, ← HX.out]; simp)]), B5⟩
    ·have FX : Hid _ := HX.out
     have KP : Hid (∀ W, Below wr.heap.size wr W → W.cell? ⟨w.heap.size, 0, none⟩ = some (.int .i64 cl) ∧ W.cell? ⟨w.heap.size, 1, none⟩ = some (.slice ad N cap) ∧ W.cell? ⟨w.heap.size, 2, none⟩ = some (.slice ga gn gc) ∧ W.cell? ⟨w.heap.size, 3, none⟩ = some (.slice sa sn sc) ∧ W.cell? ⟨w.heap.size + 1, 4, none⟩ = some (.slice (some ⟨b, off, none⟩) kn kc) ∧ W.cell? ⟨b, off, none⟩ = some (.int .i64 gx) ∧ W.cell? ⟨b, off + 1, none⟩ = some (.int .i64 gq) ∧ W.cell? ⟨b, off + 2, none⟩ = some (.int .i64 gz) ∧ W.cell? ⟨b, off + 3, none⟩ = some (.slice gta gtn gtc)) := fun W hW => ⟨(q3.below hW).cell 0, (q3.below hW).cell 1, (q3.below hW).cell 2, (q3.below hW).cell 3, (y3.below hW).cell 4, (hW.cell (p := ⟨b, off + 0 * 4, none⟩) (block_lt e0')).trans e0', (hW.cell (p := ⟨b, off + 0 * 4 + 1, none⟩) (block_lt e1')).trans e1', (hW.cell (p := ⟨b, off + 0 * 4 + 2, none⟩) (block_lt e2')).trans e2', (hW.cell (p := ⟨b, off + 0 * 4 + 3, none⟩) (block_lt e3')).trans e3'⟩
     have hSS := And.intro (KP.out _ (Below.refl _ _).drew) True.intro
     clear e0' e1' e2' e3'
     go_upto_region 6 with fail
     refine wp_region_ends (fun w' => w'.cell? ⟨w.heap.size, 0, none⟩ = some (.int .i64 cl) ∧ w'.cell? ⟨w.heap.size, 1, none⟩ = some (.slice ad N cap) ∧ w'.cell? ⟨w.heap.size, 2, none⟩ = some (.slice ga gn gc) ∧ w'.cell? ⟨w.heap.size, 3, none⟩ = some (.slice sa sn sc) ∧ w'.cell? ⟨w.heap.size + 1, 4, none⟩ = some (.slice (some ⟨b, off, none⟩) kn kc) ∧ w'.cell? ⟨b, off, none⟩ = some (.int .i64 gx) ∧ w'.cell? ⟨b, off + 1, none⟩ = some (.int .i64 gq) ∧ w'.cell? ⟨b, off + 2, none⟩ = some (.int .i64 gz) ∧ w'.cell? ⟨b, off + 3, none⟩ = some (.slice gta gtn gtc)) (fun _ => True) 27 (by kernel_rfl) ?_
     refine wpAnyE_take0 (i := 0) (v := ?bv0) rfl (by kernel_rfl) (by kernel_rfl) (by kernel_rfl) (by decide) (fun _ _ _ h => h) (Or.inl ⟨by rfl, ?bhy0⟩) hSS ?_
     case bhy0 => (intro wz hSw; (try dsimp only at hSw); go_simp; try (with_reducible rfl))
     refine wpAnyE_take0 (i := 1) (v := ?bv1) rfl (by kernel_rfl) (by kernel_rfl) (by kernel_rfl) (by decide) (fun _ _ _ h => h) (Or.inl ⟨by rfl, ?bhy1⟩) hSS ?_
     case bhy1 => (intro wz hSw; (try dsimp only at hSw); go_simp; try (with_reducible rfl))
     refine wpAnyE_take0 (i := 2) (v := ?bv2) rfl (by kernel_rfl) (by kernel_rfl) (by kernel_rfl) (by decide) (fun _ _ _ h => h) (Or.inl ⟨by rfl, ?bhy2⟩) hSS ?_
     case bhy2 => (intro wz hSw; (try dsimp only at hSw); go_simp; try (with_reducible rfl))
     refine wpAnyE_take0 (i := 3) (v := ?bv3) rfl (by kernel_rfl) (by kernel_rfl) (by kernel_rfl) (by decide) (fun _ _ _ h => h) (Or.inl ⟨by rfl, ?bhy3⟩) hSS ?_
     case bhy3 => (intro wz hSw; (try dsimp only at hSw); go_simp; try (with_reducible rfl))
     simp only [Act.put, List.setIfInBounds_toArray, List.set_cons_succ, List.set_cons_zero, List.getElem_toArray, List.getElem_cons_succ, List.getElem_cons_zero]
     refine wpAnyE_take0 (i := 4) (v := ?bv4) rfl (by kernel_rfl) (by kernel_rfl) (by kernel_rfl) (by decide) (fun _ _ _ h => h) (Or.inl ⟨by rfl, ?bhy4⟩) hSS ?_
     case bhy4 => (intro wz hSw; (try dsimp only at hSw); go_simp; try (with_reducible rfl))
     refine wpAnyE_take0 (i := 5) (v := ?bv5) rfl (by kernel_rfl) (by kernel_rfl) (by kernel_rfl) (by decide) (fun _ _ _ h => h) (Or.inl ⟨by rfl, ?bhy5⟩) hSS ?_
     case bhy5 => (intro wz hSw; (try dsimp only at hSw); go_simp; try (with_reducible rfl))
     refine wpAnyE_one (i := 6) (by kernel_rfl) rfl (fun K hK => ?_)
     go_simp
     refine (l6call_any _ _ _ _ _ _ _ _ _ _ _ _ _ _ _ _ gtx _ (hI.below (Below.refl _ _).drew) zI hcl hN4).mono ?_
     rintro ee w5 ⟨rfl, bd5⟩
     rw [← HX.out]
     have b5 := below_of_drew bd5
     have b05 := hb0.trans (b5.mono hb0.size)
     have B5 := hb.trans (b5.mono hb.size)
     (try dsimp only)
     replace hSS := And.intro (KP.out w5 b5) True.intro
     refine hK.out _ _ ⟨hSS.1, fun _ => trivial⟩ ?_
     clear hK K
     refine wpAnyE_take0 (i := 7) (v := ?bv7) rfl (by kernel_rfl) (by kernel_rfl) (by kernel_rfl) (by decide) (fun _ _ _ h => h) (Or.inl ⟨by rfl, ?bhy7⟩) hSS ?_
     case bhy7 => (intro wz hSw; (try dsimp only at hSw); go_simp; try (with_reducible rfl))
     refine wpAnyE_take0 (i := 8) (v := ?bv8) rfl (by kernel_rfl) (by kernel_rfl) (by kernel_rfl) (by decide) (fun _ _ _ h => h) (Or.inl ⟨by rfl, ?bhy8⟩) hSS ?_
     case bhy8 => (intro wz hSw; (try dsimp only at hSw); go_simp; try (with_reducible rfl))
     refine wpAnyE_take0 (i := 9) (v := ?bv9) rfl (by kernel_rfl) (by kernel_rfl) (by kernel_rfl) (by decide) (fun _ _ _ h => h) (Or.inl ⟨by rfl, ?bhy9⟩) hSS ?_
     case bhy9 => (intro wz hSw; (try dsimp only at hSw); go_simp; try (with_reducible rfl))
     refine wpAnyE_take0 (i := 10) (v := ?bv10) rfl (by kernel_rfl) (by kernel_rfl) (by kernel_rfl) (by decide) (fun _ _ _ h => h) (Or.inl ⟨by rfl, ?bhy10⟩) hSS ?_
     case bhy10 => (intro wz hSw; (try dsimp only at hSw); go_simp; try (with_reducible rfl))
     simp only [Act.put, List.setIfInBounds_toArray, List.set_cons_succ, List.set_cons_zero, List.getElem_toArray, List.getElem_cons_succ, List.getElem_cons_zero]
     refine wpAnyE_take0 (i := 11) (v := ?bv11) rfl (by kernel_rfl) (by kernel_rfl) (by kernel_rfl) (by decide) (fun _ _ _ h => h) (Or.inl ⟨by rfl, ?bhy11⟩) hSS ?_
     case bhy11 => (intro wz hSw; (try dsimp only at hSw); go_simp; try (with_reducible rfl))
     refine wpAnyE_take0 (i := 12) (v := undef) rfl (by kernel_rfl) (by kernel_rfl) (by kernel_rfl) (by decide) (fun _ _ _ h => h) (Or.inr ⟨by kernel_rfl, rfl⟩) hSS ?_
     refine wpAnyE_take0 (i := 13) (v := undef) rfl (by kernel_rfl) (by kernel_rfl) (by kernel_rfl) (by decide) (fun _ _ _ h => h) (Or.inr ⟨by kernel_rfl, rfl⟩) hSS ?_
     refine wpAnyE_take0 (i := 14) (v := undef) rfl (by kernel_rfl) (by kernel_rfl) (by kernel_rfl) (by decide) (fun _ _ _ h => h) (Or.inr ⟨by kernel_rfl, rfl⟩) hSS ?_
     simp only [Act.put, List.setIfInBounds_toArray, List.set_cons_succ, List.set_cons_zero, List.getElem_toArray, List.getElem_cons_succ, List.getElem_cons_zero]
     refine wpAnyE_take0 (i := 15) (v := undef) rfl (by kernel_rfl) (by kernel_rfl) (by kernel_rfl) (by decide) (fun _ _ _ h => h) (Or.inr ⟨by kernel_rfl, rfl⟩) hSS ?_
     refine wpAnyE_take0 (i := 16) (v := undef) rfl (by kernel_rfl) (by kernel_rfl) (by kernel_rfl) (by decide) (fun _ _ _ h => h) (Or.inr ⟨by kernel_rfl, rfl⟩) hSS ?_
     refine wpAnyE_take0 (i := 17) (v := undef) rfl (by kernel_rfl) (by kernel_rfl) (by kernel_rfl) (by decide) (fun _ _ _ h => h) (Or.inr ⟨by kernel_rfl, rfl⟩) hSS ?_
     refine wpAnyE_take0 (i := 18) (v := undef) rfl (by kernel_rfl) (by kernel_rfl) (by kernel_rfl) (by decide) (fun _ _ _ h => h) (Or.inr ⟨by kernel_rfl, rfl⟩) hSS ?_
     simp only [Act.put, List.setIfInBounds_toArray, List.set_cons_succ, List.set_cons_zero, List.getElem_toArray, List.getElem_cons_succ, List.getElem_cons_zero]
     refine wpAnyE_take0 (i := 19) (v := undef) rfl (by kernel_rfl) (by kernel_rfl) (by kernel_rfl) (by decide) (fun _ _ _ h => h) (Or.inr ⟨by kernel_rfl, rfl⟩) hSS ?_
     refine wpAnyE_take0 (i := 20) (v := undef) rfl (by kernel_rfl) (by kernel_rfl) (by kernel_rfl) (by decide) (fun _ _ _ h => h) (Or.inr ⟨by kernel_rfl, rfl⟩) hSS ?_
     refine wpAnyE_take0 (i := 21) (v := undef) rfl (by kernel_rfl) (by kernel_rfl) (by kernel_rfl) (by decide) (fun _ _ _ h => h) (Or.inr ⟨by kernel_rfl, rfl⟩) hSS ?_
     refine wpAnyE_take0 (i := 22) (v := undef) rfl (by kernel_rfl) (by kernel_rfl) (by kernel_rfl) (by decide) (fun _ _ _ h => h) (Or.inr ⟨by kernel_rfl, rfl⟩) hSS ?_
     simp only [Act.put, List.setIfInBounds_toArray, List.set_cons_succ, List.set_cons_zero, List.getElem_toArray, List.getElem_cons_succ, List.getElem_cons_zero]
     refine wpAnyE_take0 (i := 23) (v := undef) rfl (by kernel_rfl) (by kernel_rfl) (by kernel_rfl) (by decide) (fun _ _ _ h => h) (Or.inr ⟨by kernel_rfl, rfl⟩) hSS ?_
     refine wpAnyE_take0 (i := 24) (v := undef) rfl (by kernel_rfl) (by kernel_rfl) (by kernel_rfl) (by decide) (fun _ _ _ h => h) (Or.inr ⟨by kernel_rfl, rfl⟩) hSS ?_
     refine wpAnyE_take0 (i := 25) (v := undef) rfl (by kernel_rfl) (by kernel_rfl) (by kernel_rfl) (by decide) (fun _ _ _ h => h) (Or.inr ⟨by kernel_rfl, rfl⟩) hSS ?_
     refine wpAnyE_take0 (i := 26) (v := ?bv26) rfl (by kernel_rfl) (by kernel_rfl) (by kernel_rfl) (by decide) (fun _ _ _ h => h) (Or.inl ⟨by rfl, ?bhy26⟩) hSS ?_
     case bhy26 => (intro wz hSw; (try dsimp only at hSw); go_simp; try (with_reducible rfl))
     simp only [Act.put, List.setIfInBounds_toArray, List.set_cons_succ, List.set_cons_zero, List.getElem_toArray, List.getElem_cons_succ, List.getElem_cons_zero]
     refine wpAnyE_one (i := 27) (by kernel_rfl) rfl (fun K hK => ?_)
     go_simp
     refine hK.out _ _ ⟨hSS.1, fun _ => trivial⟩ ?_
     clear hK K
     refine wpAnyE_done (by kernel_rfl) ?_ _
     clear hSS
     go_wp2
     go_roundw
     case rel => exact ⟨0 + 1, by omega, by go_num, b05, YES.out (by rw [HE.out, ← HX.out]; simp)⟩
     case measure => simp [intOf]; omega
   ·have hkp : 0 < k := by omega
    have eP := PREV.out hkp
    generalize HPX : (kx[k - 1]?.getD noQ).x = px at *
    have HPX' : Hid ((kx[k - 1]?.getD noQ).x = px) := HPX
    clear HPX
    have hk1 : ((k : Int) - 1) = ((k - 1 : Nat) : Int) := by omega
    have hkd1 : decide ((0 : Int) < (k : Int)) = true := by simp; omega
    have hkd2 : decide (0 < k) = true := by simp; omega
    have hk2 : ((k - 1 : Nat) : Int) < (kn : Int) := by omega
    have hk3 : (0 : Int) ≤ ((k - 1 : Nat) : Int) := by omega
    have hk4 : ((k - 1 : Nat) : Int).toNat = k - 1 := by omega
    have hk5 : IntKind.i64.wrap ((k - 1 : Nat) : Int) = ((k - 1 : Nat) : Int) := wrap_id (by have := h.zk; omega) (by have := h.zk; omega)
    cases x
    ·have FX : Hid _ := HX.out
     have KP : Hid (∀ W, Below wr.heap.size wr W → W.cell? ⟨w.heap.size, 0, none⟩ = some (.int .i64 cl) ∧ W.cell? ⟨w.heap.size, 1, none⟩ = some (.slice ad N cap) ∧ W.cell? ⟨w.heap.size, 2, none⟩ = some (.slice ga gn gc) ∧ W.cell? ⟨w.heap.size, 3, none⟩ = some (.slice sa sn sc) ∧ W.cell? ⟨w.heap.size + 1, 4, none⟩ = some (.slice (some ⟨b, off, none⟩) kn kc) ∧ W.cell? ⟨b, off + k * 4, none⟩ = some (.int .i64 gx) ∧ W.cell? ⟨b, off + k * 4 + 1, none⟩ = some (.int .i64 gq) ∧ W.cell? ⟨b, off + k * 4 + 2, none⟩ = some (.int .i64 gz) ∧ W.cell? ⟨b, off + k * 4 + 3, none⟩ = some (.slice gta gtn gtc) ∧ W.cell? ⟨b, off + (k - 1) * 4, none⟩ = some (.int .i64 px)) := fun W hW => ⟨(q3.below hW).cell 0, (q3.below hW).cell 1, (q3.below hW).cell 2, (q3.below hW).cell 3, (y3.below hW).cell 4, (hW.cell (p := ⟨b, off + k * 4, none⟩) (block_lt e0')).trans e0', (hW.cell (p := ⟨b, off + k * 4 + 1, none⟩) (block_lt e1')).trans e1', (hW.cell (p := ⟨b, off + k * 4 + 2, none⟩) (block_lt e2')).trans e2', (hW.cell (p := ⟨b, off + k * 4 + 3, none⟩) (block_lt e3')).trans e3', (hW.cell (p := ⟨b, off + (k - 1) * 4, none⟩) (block_lt eP)).trans eP⟩
     have hSS := And.intro (KP.out _ (Below.refl _ _).drew) True.intro
     clear e0' e1' e2' e3' eP
     go_upto_region 6 with fail
     refine wp_region_ends (fun w' => w'.cell? ⟨w.heap.size, 0, none⟩ = some (.int .i64 cl) ∧ w'.cell? ⟨w.heap.size, 1, none⟩ = some (.slice ad N cap) ∧ w'.cell? ⟨w.heap.size, 2, none⟩ = some (.slice ga gn gc) ∧ w'.cell? ⟨w.heap.size, 3, none⟩ = some (.slice sa sn sc) ∧ w'.cell? ⟨w.heap.size + 1, 4, none⟩ = some (.slice (some ⟨b, off, none⟩) kn kc) ∧ w'.cell? ⟨b, off + k * 4, none⟩ = some (.int .i64 gx) ∧ w'.cell? ⟨b, off + k * 4 + 1, none⟩ = some (.int .i64 gq) ∧ w'.cell? ⟨b, off + k * 4 + 2, none⟩ = some (.int .i64 gz) ∧ w'.cell? ⟨b, off + k * 4 + 3, none⟩ = some (.slice gta gtn gtc) ∧ w'.cell? ⟨b, off + (k - 1) * 4, none⟩ = some (.int .i64 px)) (fun _ => True) 27 (by kernel_rfl) ?_
     refine wpAnyE_take0 (i := 0) (v := ?cv0) rfl (by kernel_rfl) (by kernel_rfl) (by kernel_rfl) (by decide) (fun _ _ _ h => h) (Or.inl ⟨by rfl, ?chy0⟩) hSS ?_
     case chy0 => (intro wz hSw; (try dsimp only at hSw); go_simp; try (with_reducible rfl))
     refine wpAnyE_take0 (i := 1) (v := ?cv1) rfl (by kernel_rfl) (by kernel_rfl) (by kernel_rfl) (by decide) (fun _ _ _ h => h) (Or.inl ⟨by rfl, ?chy1⟩) hSS ?_
     case chy1 => (intro wz hSw; (try dsimp only at hSw); go_simp; try (with_reducible rfl))
     refine wpAnyE_take0 (i := 2) (v := ?cv2) rfl (by kernel_rfl) (by kernel_rfl) (by kernel_rfl) (by decide) (fun _ _ _ h => h) (Or.inl ⟨by rfl, ?chy2⟩) hSS ?_
     case chy2 => (intro wz hSw; (try dsimp only at hSw); go_simp; try (with_reducible rfl))
     refine wpAnyE_take0 (i := 3) (v := ?cv3) rfl (by kernel_rfl) (by kernel_rfl) (by kernel_rfl) (by decide) (fun _ _ _ h => h) (Or.inl ⟨by rfl, ?chy3⟩) hSS ?_
     case chy3 => (intro wz hSw; (try dsimp only at hSw); go_simp; try (with_reducible rfl))
     simp only [Act.put, List.setIfInBounds_toArray, List.set_cons_succ, List.set_cons_zero, List.getElem_toArray, List.getElem_cons_succ, List.getElem_cons_zero]
     refine wpAnyE_take0 (i := 4) (v := ?cv4) rfl (by kernel_rfl) (by kernel_rfl) (by kernel_rfl) (by decide) (fun _ _ _ h => h) (Or.inl ⟨by rfl, ?chy4⟩) hSS ?_
     case chy4 => (intro wz hSw; (try dsimp only at hSw); go_simp; try (with_reducible rfl))
     refine wpAnyE_take0 (i := 5) (v := ?cv5) rfl (by kernel_rfl) (by kernel_rfl) (by kernel_rfl) (by decide) (fun _ _ _ h => h) (Or.inl ⟨by rfl, ?chy5⟩) hSS ?_
     case chy5 => (intro wz hSw; (try dsimp only at hSw); go_simp; try (with_reducible rfl))
     refine wpAnyE_one (i := 6) (by kernel_rfl) rfl (fun K hK => ?_)
     go_simp
     refine (l6call_any _ _ _ _ _ _ _ _ _ _ _ _ _ _ _ _ gtx _ (hI.below (Below.refl _ _).drew) zI hcl hN4).mono ?_
     rintro ee w5 ⟨rfl, bd5⟩
     rw [← HX.out]
     have b5 := below_of_drew bd5
     have b05 := hb0.trans (b5.mono hb0.size)
     have B5 := hb.trans (b5.mono hb.size)
     (try dsimp only)
     replace hSS := And.intro (KP.out w5 b5) True.intro
     refine hK.out _ _ ⟨hSS.1, fun _ => trivial⟩ ?_
     clear hK K
     refine wpAnyE_take0 (i := 7) (v := ?cv7) rfl (by kernel_rfl) (by kernel_rfl) (by kernel_rfl) (by decide) (fun _ _ _ h => h) (Or.inl ⟨by rfl, ?chy7⟩) hSS ?_
     case chy7 => (intro wz hSw; (try dsimp only at hSw); go_simp; try (with_reducible rfl))
     refine wpAnyE_take0 (i := 8) (v := ?cv8) rfl (by kernel_rfl) (by kernel_rfl) (by kernel_rfl) (by decide) (fun _ _ _ h => h) (Or.inl ⟨by rfl, ?chy8⟩) hSS ?_
     case chy8 => (intro wz hSw; (try dsimp only at hSw); go_simp; try (with_reducible rfl))
     refine wpAnyE_take0 (i := 9) (v := undef) rfl (by kernel_rfl) (by kernel_rfl) (by kernel_rfl) (by decide) (fun _ _ _ h => h) (Or.inr ⟨by kernel_rfl, rfl⟩) hSS ?_
     refine wpAnyE_take0 (i := 10) (v := undef) rfl (by kernel_rfl) (by kernel_rfl) (by kernel_rfl) (by decide) (fun _ _ _ h => h) (Or.inr ⟨by kernel_rfl, rfl⟩) hSS ?_
     simp only [Act.put, List.setIfInBounds_toArray, List.set_cons_succ, List.set_cons_zero, List.getElem_toArray, List.getElem_cons_succ, List.getElem_cons_zero]
     refine wpAnyE_take0 (i := 11) (v := undef) rfl (by kernel_rfl) (by kernel_rfl) (by kernel_rfl) (by decide) (fun _ _ _ h => h) (Or.inr ⟨by kernel_rfl, rfl⟩) hSS ?_
     refine wpAnyE_take0 (i := 12) (v := undef) rfl (by kernel_rfl) (by kernel_rfl) (by kernel_rfl) (by decide) (fun _ _ _ h => h) (Or.inr ⟨by kernel_rfl, rfl⟩) hSS ?_
     refine wpAnyE_take0 (i := 13) (v := undef) rfl (by kernel_rfl) (by kernel_rfl) (by kernel_rfl) (by decide) (fun _ _ _ h => h) (Or.inr ⟨by kernel_rfl, rfl⟩) hSS ?_
     refine wpAnyE_take0 (i := 14) (v := undef) rfl (by kernel_rfl) (by kernel_rfl) (by kernel_rfl) (by decide) (fun _ _ _ h => h) (Or.inr ⟨by kernel_rfl, rfl⟩) hSS ?_
     simp only [Act.put, List.setIfInBounds_toArray, List.set_cons_succ, List.set_cons_zero, List.getElem_toArray, List.getElem_cons_succ, List.getElem_cons_zero]
     refine wpAnyE_take0 (i := 15) (v := undef) rfl (by kernel_rfl) (by kernel_rfl) (by kernel_rfl) (by decide) (fun _ _ _ h => h) (Or.inr ⟨by kernel_rfl, rfl⟩) hSS ?_
     refine wpAnyE_take0 (i := 16) (v := undef) rfl (by kernel_rfl) (by kernel_rfl) (by kernel_rfl) (by decide) (fun _ _ _ h => h) (Or.inr ⟨by kernel_rfl, rfl⟩) hSS ?_
     refine wpAnyE_take0 (i := 17) (v := undef) rfl (by kernel_rfl) (by kernel_rfl) (by kernel_rfl) (by decide) (fun _ _ _ h => h) (Or.inr ⟨by kernel_rfl, rfl⟩) hSS ?_
     refine wpAnyE_take0 (i := 18) (v := undef) rfl (by kernel_rfl) (by kernel_rfl) (by kernel_rfl) (by decide) (fun _ _ _ h => h) (Or.inr ⟨by kernel_rfl, rfl⟩) hSS ?_
     simp only [Act.put, List.setIfInBounds_toArray, List.set_cons_succ, List.set_cons_zero, List.getElem_toArray, List.getElem_cons_succ, List.getElem_cons_zero]
     refine wpAnyE_take0 (i := 19) (v := undef) rfl (by kernel_rfl) (by kernel_rfl) (by kernel_rfl) (by decide) (fun _ _ _ h => h) (Or.inr ⟨by kernel_rfl, rfl⟩) hSS ?_
     refine wpAnyE_take0 (i := 20) (v := undef) rfl (by kernel_rfl) (by kernel_rfl) (by kernel_rfl) (by decide) (fun _ _ _ h => h) (Or.inr ⟨by kernel_rfl, rfl⟩) hSS ?_
     refine wpAnyE_take0 (i := 21) (v := undef) rfl (by kernel_rfl) (by kernel_rfl) (by kernel_rfl) (by decide) (fun _ _ _ h => h) (Or.inr ⟨by kernel_rfl, rfl⟩) hSS ?_
     refine wpAnyE_take0 (i := 22) (v := undef) rfl (by kernel_rfl) (by kernel_rfl) (by kernel_rfl) (by decide) (fun _ _ _ h => h) (Or.inr ⟨by kernel_rfl, rfl⟩) hSS ?_
     simp only [Act.put, List.setIfInBounds_toArray, List.set_cons_succ, List.set_cons_zero, List.getElem_toArray, List.getElem_cons_succ, List.getElem_cons_zero]
     refine wpAnyE_take0 (i := 23) (v := undef) rfl (by kernel_rfl) (by kernel_rfl) (by kernel_rfl) (by decide) (fun _ _ _ h => h) (Or.inr ⟨by kernel_rfl, rfl⟩) hSS ?_
     refine wpAnyE_take0 (i := 24) (v := undef) rfl (by kernel_rfl) (by kernel_rfl) (by kernel_rfl) (by decide) (fun _ _ _ h => h) (Or.inr ⟨by kernel_rfl, rfl⟩) hSS ?_
     refine wpAnyE_take0 (i := 25) (v := undef) rfl (by kernel_rfl) (by kernel_rfl) (by kernel_rfl) (by decide) (fun _ _ _ h => h) (Or.inr ⟨by kernel_rfl, rfl⟩) hSS ?_
     refine wpAnyE_take0 (i := 26) (v := undef) rfl (by kernel_rfl) (by kernel_rfl) (by kernel_rfl) (by decide) (fun _ _ _ h => h) (Or.inr ⟨by kernel_rfl, rfl⟩) hSS ?_
     simp only [Act.put, List.setIfInBounds_toArray, List.set_cons_succ, List.set_cons_zero, List.getElem_toArray, List.getElem_cons_succ, List.getElem_cons_zero]
     refine wpAnyE_one (i := 27) (by kernel_rfl) rfl (fun K hK => ?_)
     go_simp
     refine hK.out _ _ ⟨hSS.1, fun _ => trivial⟩ ?_
     clear hK K
     refine wpAnyE_done (by kernel_rfl) ?_ _
     clear hSS
     go_wp2
     go_ret
     exact ⟨ret_bool (by rw [NO.out (by rw [HE.out, ← HX.out]; simp)]), B5⟩
    ·by_cases hle : gx ≤ px
     ·have hle' : decide (gx ≤ px) = true := by simpa using hle
      have KP : Hid (∀ W, Below wr.heap.size wr W → W.cell? ⟨w.heap.size, 0, none⟩ = some (.int .i64 cl) ∧ W.cell? ⟨w.heap.size, 1, none⟩ = some (.slice ad N cap) ∧ W.cell? ⟨w.heap.size, 2, none⟩ = some (.slice ga gn gc) ∧ W.cell? ⟨w.heap.size, 3, none⟩ = some (.slice sa sn sc) ∧ W.cell? ⟨w.heap.size + 1, 4, none⟩ = some (.slice (some ⟨b, off, none⟩) kn kc) ∧ W.cell? ⟨b, off + k * 4, none⟩ = some (.int .i64 gx) ∧ W.cell? ⟨b, off + k * 4 + 1, none⟩ = some (.int .i64 gq) ∧ W.cell? ⟨b, off + k * 4 + 2, none⟩ = some (.int .i64 gz) ∧ W.cell? ⟨b, off + k * 4 + 3, none⟩ = some (.slice gta gtn gtc) ∧ W.cell? ⟨b, off + (k - 1) * 4, none⟩ = some (.int .i64 px)) := fun W hW => ⟨(q3.below hW).cell 0, (q3.below hW).cell 1, (q3.below hW).cell 2, (q3.below hW).cell 3, (y3.below hW).cell 4, (hW.cell (p := ⟨b, off + k * 4, none⟩) (block_lt e0')).trans e0', (hW.cell (p := ⟨b, off + k * 4 + 1, none⟩) (block_lt e1')).trans e1', (hW.cell (p := ⟨b, off + k * 4 + 2, none⟩) (block_lt e2')).trans e2', (hW.cell (p := ⟨b, off + k * 4 + 3, none⟩) (block_lt e3')).trans e3', (hW.cell (p := ⟨b, off + (k - 1) * 4, none⟩) (block_lt eP)).trans eP⟩
      have hSS := And.intro (KP.out _ (Below.refl _ _).drew) True.intro
      clear e0' e1' e2' e3' eP
      go_upto_region 6 with fail
      refine wp_region_ends (fun w' => w'.cell? ⟨w.heap.size, 0, none⟩ = some (.int .i64 cl) ∧ w'.cell? ⟨w.heap.size, 1, none⟩ = some (.slice ad N cap) ∧ w'.cell? ⟨w.heap.size, 2, none⟩ = some (.slice ga gn gc) ∧ w'.cell? ⟨w.heap.size, 3, none⟩ = some (.slice sa sn sc) ∧ w'.cell? ⟨w.heap.size + 1, 4, none⟩ = some (.slice (some ⟨b, off, none⟩) kn kc) ∧ w'.cell? ⟨b, off + k * 4, none⟩ = some (.int .i64 gx) ∧ w'.cell? ⟨b, off + k * 4 + 1, none⟩ = some (.int .i64 gq) ∧ w'.cell? ⟨b, off + k * 4 + 2, none⟩ = some (.int .i64 gz) ∧ w'.cell? ⟨b, off + k * 4 + 3, none⟩ = some (.slice gta gtn gtc) ∧ w'.cell? ⟨b, off + (k - 1) * 4, none⟩ = some (.int .i64 px)) (fun _ => True) 27 (by kernel_rfl) ?_
      refine wpAnyE_take0 (i := 0) (v := ?dv0) rfl (by kernel_rfl) (by kernel_rfl) (by kernel_rfl) (by decide) (fun _ _ _ h => h) (Or.inl ⟨by rfl, ?dhy0⟩) hSS ?_
      case dhy0 => (intro wz hSw; (try dsimp only at hSw); go_simp; try (with_reducible rfl))
      refine wpAnyE_take0 (i := 1) (v := ?dv1) rfl (by kernel_rfl) (by kernel_rfl) (by kernel_rfl) (by decide) (fun _ _ _ h => h) (Or.inl ⟨by rfl, ?dhy1⟩) hSS ?_
      case dhy1 => (intro wz hSw; (try dsimp only at hSw); go_simp; try (with_reducible rfl))
      refine wpAnyE_take0 (i := 2) (v := ?dv2) rfl (by kernel_rfl) (by kernel_rfl) (by kernel_rfl) (by decide) (fun _ _ _ h => h) (Or.inl ⟨by rfl, ?dhy2⟩) hSS ?_
      case dhy2 => (intro wz hSw; (try dsimp only at hSw); go_simp; try (with_reducible rfl))
      refine wpAnyE_take0 (i := 3) (v := ?dv3) rfl (by kernel_rfl) (by kernel_rfl) (by kernel_rfl) (by decide) (fun _ _ _ h => h) (Or.inl ⟨by rfl, ?dhy3⟩) hSS ?_
      case dhy3 => (intro wz hSw; (try dsimp only at hSw); go_simp; try (with_reducible rfl))
      simp only [Act.put, List.setIfInBounds_toArray, List.set_cons_succ, List.set_cons_zero, List.getElem_toArray, List.getElem_cons_succ, List.getElem_cons_zero]
      refine wpAnyE_take0 (i := 4) (v := ?dv4) rfl (by kernel_rfl) (by kernel_rfl) (by kernel_rfl) (by decide) (fun _ _ _ h => h) (Or.inl ⟨by rfl, ?dhy4⟩) hSS ?_
      case dhy4 => (intro wz hSw; (try dsimp only at hSw); go_simp; try (with_reducible rfl))
      refine wpAnyE_take0 (i := 5) (v := ?dv5) rfl (by kernel_rfl) (by kernel_rfl) (by kernel_rfl) (by decide) (fun _ _ _ h => h) (Or.inl ⟨by rfl, ?dhy5⟩) hSS ?_
      case dhy5 => (intro wz hSw; (try dsimp only at hSw); go_simp; try (with_reducible rfl))
      refine wpAnyE_one (i := 6) (by kernel_rfl) rfl (fun K hK => ?_)
      go_simp
      refine (l6call_any _ _ _ _ _ _ _ _ _ _ _ _ _ _ _ _ gtx _ (hI.below (Below.refl _ _).drew) zI hcl hN4).mono ?_
      rintro ee w5 ⟨rfl, bd5⟩
      rw [← HX.out]
      have b5 := below_of_drew bd5
      have b05 := hb0.trans (b5.mono hb0.size)
      have B5 := hb.trans (b5.mono hb.size)
      (try dsimp only)
      replace hSS := And.intro (KP.out w5 b5) True.intro
      refine hK.out _ _ ⟨hSS.1, fun _ => trivial⟩ ?_
      clear hK K
      refine wpAnyE_take0 (i := 7) (v := ?dv7) rfl (by kernel_rfl) (by kernel_rfl) (by kernel_rfl) (by decide) (fun _ _ _ h => h) (Or.inl ⟨by rfl, ?dhy7⟩) hSS ?_
      case dhy7 => (intro wz hSw; (try dsimp only at hSw); go_simp; try (with_reducible rfl))
      refine wpAnyE_take0 (i := 8) (v := ?dv8) rfl (by kernel_rfl) (by kernel_rfl) (by kernel_rfl) (by decide) (fun _ _ _ h => h) (Or.inl ⟨by rfl, ?dhy8⟩) hSS ?_
      case dhy8 => (intro wz hSw; (try dsimp only at hSw); go_simp; try (with_reducible rfl))
      refine wpAnyE_take0 (i := 9) (v := ?dv9) rfl (by kernel_rfl) (by kernel_rfl) (by kernel_rfl) (by decide) (fun _ _ _ h => h) (Or.inl ⟨by rfl, ?dhy9⟩) hSS ?_
      case dhy9 => (intro wz hSw; (try dsimp only at hSw); go_simp; try (with_reducible rfl))
      refine wpAnyE_take0 (i := 10) (v := ?dv10) rfl (by kernel_rfl) (by kernel_rfl) (by kernel_rfl) (by decide) (fun _ _ _ h => h) (Or.inl ⟨by rfl, ?dhy10⟩) hSS ?_
      case dhy10 => (intro wz hSw; (try dsimp only at hSw); go_simp; try (with_reducible rfl))
      simp only [Act.put, List.setIfInBounds_toArray, List.set_cons_succ, List.set_cons_zero, List.getElem_toArray, List.getElem_cons_succ, List.getElem_cons_zero]
      refine wpAnyE_take0 (i := 11) (v := ?dv11) rfl (by kernel_rfl) (by kernel_rfl) (by kernel_rfl) (by decide) (fun _ _ _ h => h) (Or.inl ⟨by rfl, ?dhy11⟩) hSS ?_
      case dhy11 => (intro wz hSw; (try dsimp only at hSw); go_simp; try (with_reducible rfl))
      refine wpAnyE_take0 (i := 12) (v := ?dv12) rfl (by kernel_rfl) (by kernel_rfl) (by kernel_rfl) (by decide) (fun _ _ _ h => h) (Or.inl ⟨by rfl, ?dhy12⟩) hSS ?_
      case dhy12 => (intro wz hSw; (try dsimp only at hSw); go_simp; try (with_reducible rfl))
      refine wpAnyE_take0 (i := 13) (v := ?dv13) rfl (by kernel_rfl) (by kernel_rfl) (by kernel_rfl) (by decide) (fun _ _ _ h => h) (Or.inl ⟨by rfl, ?dhy13⟩) hSS ?_
      case dhy13 => (intro wz hSw; (try dsimp only at hSw); go_simp; try (with_reducible rfl))
      refine wpAnyE_take0 (i := 14) (v := ?dv14) rfl (by kernel_rfl) (by kernel_rfl) (by kernel_rfl) (by decide) (fun _ _ _ h => h) (Or.inl ⟨by rfl, ?dhy14⟩) hSS ?_
      case dhy14 => (intro wz hSw; (try dsimp only at hSw); go_simp; try (with_reducible rfl))
      simp only [Act.put, List.setIfInBounds_toArray, List.set_cons_succ, List.set_cons_zero, List.getElem_toArray, List.getElem_cons_succ, List.getElem_cons_zero]
      refine wpAnyE_take0 (i := 15) (v := ?dv15) rfl (by kernel_rfl) (by kernel_rfl) (by kernel_rfl) (by decide) (fun _ _ _ h => h) (Or.inl ⟨by rfl, ?dhy15⟩) hSS ?_
      case dhy15 => (intro wz hSw; (try dsimp only at hSw); go_simp; try (with_reducible rfl))
      refine wpAnyE_take0 (i := 16) (v := ?dv16) rfl (by kernel_rfl) (by kernel_rfl) (by kernel_rfl) (by decide) (fun _ _ _ h => h) (Or.inl ⟨by rfl, ?dhy16⟩) hSS ?_
      case dhy16 => (intro wz hSw; (try dsimp only at hSw); go_simp; try (with_reducible rfl))
      refine wpAnyE_take0 (i := 17) (v := ?dv17) rfl (by kernel_rfl) (by kernel_rfl) (by kernel_rfl) (by decide) (fun _ _ _ h => h) (Or.inl ⟨by rfl, ?dhy17⟩) hSS ?_
      case dhy17 => (intro wz hSw; (try dsimp only at hSw); go_simp; try (with_reducible rfl))
      refine wpAnyE_take0 (i := 18) (v := ?dv18) rfl (by kernel_rfl) (by kernel_rfl) (by kernel_rfl) (by decide) (fun _ _ _ h => h) (Or.inl ⟨by rfl, ?dhy18⟩) hSS ?_
      case dhy18 => (intro wz hSw; (try dsimp only at hSw); go_simp; try (with_reducible rfl))
      simp only [Act.put, List.setIfInBounds_toArray, List.set_cons_succ, List.set_cons_zero, List.getElem_toArray, List.getElem_cons_succ, List.getElem_cons_zero]
      refine wpAnyE_take0 (i := 19) (v := ?dv19) rfl (by kernel_rfl) (by kernel_rfl) (by kernel_rfl) (by decide) (fun _ _ _ h => h) (Or.inl ⟨by rfl, ?dhy19⟩) hSS ?_
      case dhy19 => (intro wz hSw; (try dsimp only at hSw); go_simp; try (with_reducible rfl))
      refine wpAnyE_take0 (i := 20) (v := ?dv20) rfl (by kernel_rfl) (by kernel_rfl) (by kernel_rfl) (by decide) (fun _ _ _ h => h) (Or.inl ⟨by rfl, ?dhy20⟩) hSS ?_
      case dhy20 => (intro wz hSw; (try dsimp only at hSw); go_simp; try (with_reducible rfl))
      refine wpAnyE_take0 (i := 21) (v := ?dv21) rfl (by kernel_rfl) (by kernel_rfl) (by kernel_rfl) (by decide) (fun _ _ _ h => h) (Or.inl ⟨by rfl, ?dhy21⟩) hSS ?_
      case dhy21 => (intro wz hSw; (try dsimp only at hSw); go_simp; try (with_reducible rfl))
      refine wpAnyE_take0 (i := 22) (v := ?dv22) rfl (by kernel_rfl) (by kernel_rfl) (by kernel_rfl) (by decide) (fun _ _ _ h => h) (Or.inl ⟨by rfl, ?dhy22⟩) hSS ?_
      case dhy22 => (intro wz hSw; (try dsimp only at hSw); go_simp; try (with_reducible rfl))
      simp only [Act.put, List.setIfInBounds_toArray, List.set_cons_succ, List.set_cons_zero, List.getElem_toArray, List.getElem_cons_succ, List.getElem_cons_zero]
      refine wpAnyE_take0 (i := 23) (v := ?dv23) rfl (by kernel_rfl) (by kernel_rfl) (by kernel_rfl) (by decide) (fun _ _ _ h => h) (Or.inl ⟨by rfl, ?dhy23⟩) hSS ?_
      case dhy23 => (intro wz hSw; (try dsimp only at hSw); go_simp; try (with_reducible rfl))
      refine wpAnyE_take0 (i := 24) (v := ?dv24) rfl (by kernel_rfl) (by kernel_rfl) (by kernel_rfl) (by decide) (fun _ _ _ h => h) (Or.inl ⟨by rfl, ?dhy24⟩) hSS ?_
      case dhy24 => (intro wz hSw; (try dsimp only at hSw); go_simp; try (with_reducible rfl))
      refine wpAnyE_take0 (i := 25) (v := ?dv25) rfl (by kernel_rfl) (by kernel_rfl) (by kernel_rfl) (by decide) (fun _ _ _ h => h) (Or.inl ⟨by rfl, ?dhy25⟩) hSS ?_
      case dhy25 => (intro wz hSw; (try dsimp only at hSw); go_simp; try (with_reducible rfl))
      refine wpAnyE_take0 (i := 26) (v := ?dv26) rfl (by kernel_rfl) (by kernel_rfl) (by kernel_rfl) (by decide) (fun _ _ _ h => h) (Or.inl ⟨by rfl, ?dhy26⟩) hSS ?_
      case dhy26 => (intro wz hSw; (try dsimp only at hSw); go_simp; try (with_reducible rfl))
      simp only [Act.put, List.setIfInBounds_toArray, List.set_cons_succ, List.set_cons_zero, List.getElem_toArray, List.getElem_cons_succ, List.getElem_cons_zero]
      refine wpAnyE_one (i := 27) (by kernel_rfl) rfl (fun K hK => ?_)
      go_simp
      refine hK.out _ _ ⟨hSS.1, fun _ => trivial⟩ ?_
      clear hK K
      refine wpAnyE_done (by kernel_rfl) ?_ _
      clear hSS
      go_wp2
      go_ret
      exact ⟨ret_bool (by rw [NO.out (by rw [HE.out, ← HX.out]; simp; omega)]), B5⟩
     ·have hle' : decide (gx ≤ px) = false := by simpa using hle
      have KP : Hid (∀ W, Below wr.heap.size wr W → W.cell? ⟨w.heap.size, 0, none⟩ = some (.int .i64 cl) ∧ W.cell? ⟨w.heap.size, 1, none⟩ = some (.slice ad N cap) ∧ W.cell? ⟨w.heap.size, 2, none⟩ = some (.slice ga gn gc) ∧ W.cell? ⟨w.heap.size, 3, none⟩ = some (.slice sa sn sc) ∧ W.cell? ⟨w.heap.size + 1, 4, none⟩ = some (.slice (some ⟨b, off, none⟩) kn kc) ∧ W.cell? ⟨b, off + k * 4, none⟩ = some (.int .i64 gx) ∧ W.cell? ⟨b, off + k * 4 + 1, none⟩ = some (.int .i64 gq) ∧ W.cell? ⟨b, off + k * 4 + 2, none⟩ = some (.int .i64 gz) ∧ W.cell? ⟨b, off + k * 4 + 3, none⟩ = some (.slice gta gtn gtc) ∧ W.cell? ⟨b, off + (k - 1) * 4, none⟩ = some (.int .i64 px)) := fun W hW => ⟨(q3.below hW).cell 0, (q3.below hW).cell 1, (q3.below hW).cell 2, (q3.below hW).cell 3, (y3.below hW).cell 4, (hW.cell (p := ⟨b, off + k * 4, none⟩) (block_lt e0')).trans e0', (hW.cell (p := ⟨b, off + k * 4 + 1, none⟩) (block_lt e1')).trans e1', (hW.cell (p := ⟨b, off + k * 4 + 2, none⟩) (block_lt e2')).trans e2', (hW.cell (p := ⟨b, off + k * 4 + 3, none⟩) (block_lt e3')).trans e3', (hW.cell (p := ⟨b, off + (k - 1) * 4, none⟩) (block_lt eP)).trans eP⟩
      have hSS := And.intro (KP.out _ (Below.refl _ _).drew) True.intro
      clear e0' e1' e2' e3' eP
      go_upto_region 6 with fail
      refine wp_region_ends (fun w' => w'.cell? ⟨w.heap.size, 0, none⟩ = some (.int .i64 cl) ∧ w'.cell? ⟨w.heap.size, 1, none⟩ = some (.slice ad N cap) ∧ w'.cell? ⟨w.heap.size, 2, none⟩ = some (.slice ga gn gc) ∧ w'.cell? ⟨w.heap.size, 3, none⟩ = some (.slice sa sn sc) ∧ w'.cell? ⟨w.heap.size + 1, 4, none⟩ = some (.slice (some ⟨b, off, none⟩) kn kc) ∧ w'.cell? ⟨b, off + k * 4, none⟩ = some (.int .i64 gx) ∧ w'.cell? ⟨b, off + k * 4 + 1, none⟩ = some (.int .i64 gq) ∧ w'.cell? ⟨b, off + k * 4 + 2, none⟩ = some (.int .i64 gz) ∧ w'.cell? ⟨b, off + k * 4 + 3, none⟩ = some (.slice gta gtn gtc) ∧ w'.cell? ⟨b, off + (k - 1) * 4, none⟩ = some (.int .i64 px)) (fun _ => True) 27 (by kernel_rfl) ?_
      refine wpAnyE_take0 (i := 0) (v := ?ev0) rfl (by kernel_rfl) (by kernel_rfl) (by kernel_rfl) (by decide) (fun _ _ _ h => h) (Or.inl ⟨by rfl, ?ehy0⟩) hSS ?_
      case ehy0 => (intro wz hSw; (try dsimp only at hSw); go_simp; try (with_reducible rfl))
      refine wpAnyE_take0 (i := 1) (v := ?ev1) rfl (by kernel_rfl) (by kernel_rfl) (by kernel_rfl) (by decide) (fun _ _ _ h => h) (Or.inl ⟨by rfl, ?ehy1⟩) hSS ?_
      case ehy1 => (intro wz hSw; (try dsimp only at hSw); go_simp; try (with_reducible rfl))
      refine wpAnyE_take0 (i := 2) (v := ?ev2) rfl (by kernel_rfl) (by kernel_rfl) (by kernel_rfl) (by decide) (fun _ _ _ h => h) (Or.inl ⟨by rfl, ?ehy2⟩) hSS ?_
      case ehy2 => (intro wz hSw; (try dsimp only at hSw); go_simp; try (with_reducible rfl))
      refine wpAnyE_take0 (i := 3) (v := ?ev3) rfl (by kernel_rfl) (by kernel_rfl) (by kernel_rfl) (by decide) (fun _ _ _ h => h) (Or.inl ⟨by rfl, ?ehy3⟩) hSS ?_
      case ehy3 => (intro wz hSw; (try dsimp only at hSw); go_simp; try (with_reducible rfl))
      simp only [Act.put, List.setIfInBounds_toArray, List.set_cons_succ, List.set_cons_zero, List.getElem_toArray, List.getElem_cons_succ, List.getElem_cons_zero]
      refine wpAnyE_take0 (i := 4) (v := ?ev4) rfl (by kernel_rfl) (by kernel_rfl) (by kernel_rfl) (by decide) (fun _ _ _ h => h) (Or.inl ⟨by rfl, ?ehy4⟩) hSS ?_
      case ehy4 => (intro wz hSw; (try dsimp only at hSw); go_simp; try (with_reducible rfl))
      refine wpAnyE_take0 (i := 5) (v := ?ev5) rfl (by kernel_rfl) (by kernel_rfl) (by kernel_rfl) (by decide) (fun _ _ _ h => h) (Or.inl ⟨by rfl, ?ehy5⟩) hSS ?_
      case ehy5 => (intro wz hSw; (try dsimp only at hSw); go_simp; try (with_reducible rfl))
      refine wpAnyE_one (i := 6) (by kernel_rfl) rfl (fun K hK => ?_)
      go_simp
      refine (l6call_any _ _ _ _ _ _ _ _ _ _ _ _ _ _ _ _ gtx _ (hI.below (Below.refl _ _).drew) zI hcl hN4).mono ?_
      rintro ee w5 ⟨rfl, bd5⟩
      rw [← HX.out]
      have b5 := below_of_drew bd5
      have b05 := hb0.trans (b5.mono hb0.size)
      have B5 := hb.trans (b5.mono hb.size)
      (try dsimp only)
      replace hSS := And.intro (KP.out w5 b5) True.intro
      refine hK.out _ _ ⟨hSS.1, fun _ => trivial⟩ ?_
      clear hK K
      refine wpAnyE_take0 (i := 7) (v := ?ev7) rfl (by kernel_rfl) (by kernel_rfl) (by kernel_rfl) (by decide) (fun _ _ _ h => h) (Or.inl ⟨by rfl, ?ehy7⟩) hSS ?_
      case ehy7 => (intro wz hSw; (try dsimp only at hSw); go_simp; try (with_reducible rfl))
      refine wpAnyE_take0 (i := 8) (v := ?ev8) rfl (by kernel_rfl) (by kernel_rfl) (by kernel_rfl) (by decide) (fun _ _ _ h => h) (Or.inl ⟨by rfl, ?ehy8⟩) hSS ?_
      case ehy8 => (intro wz hSw; (try dsimp only at hSw); go_simp; try (with_reducible rfl))
      refine wpAnyE_take0 (i := 9) (v := ?ev9) rfl (by kernel_rfl) (by kernel_rfl) (by kernel_rfl) (by decide) (fun _ _ _ h => h) (Or.inl ⟨by rfl, ?ehy9⟩) hSS ?_
      case ehy9 => (intro wz hSw; (try dsimp only at hSw); go_simp; try (with_reducible rfl))
      refine wpAnyE_take0 (i := 10) (v := ?ev10) rfl (by kernel_rfl) (by kernel_rfl) (by kernel_rfl) (by decide) (fun _ _ _ h => h) (Or.inl ⟨by rfl, ?ehy10⟩) hSS ?_
      case ehy10 => (intro wz hSw; (try dsimp only at hSw); go_simp; try (with_reducible rfl))
      simp only [Act.put, List.setIfInBounds_toArray, List.set_cons_succ, List.set_cons_zero, List.getElem_toArray, List.getElem_cons_succ, List.getElem_cons_zero]
      refine wpAnyE_take0 (i := 11) (v := ?ev11) rfl (by kernel_rfl) (by kernel_rfl) (by kernel_rfl) (by decide) (fun _ _ _ h => h) (Or.inl ⟨by rfl, ?ehy11⟩) hSS ?_
      case ehy11 => (intro wz hSw; (try dsimp only at hSw); go_simp; try (with_reducible rfl))
      refine wpAnyE_take0 (i := 12) (v := ?ev12) rfl (by kernel_rfl) (by kernel_rfl) (by kernel_rfl) (by decide) (fun _ _ _ h => h) (Or.inl ⟨by rfl, ?ehy12⟩) hSS ?_
      case ehy12 => (intro wz hSw; (try dsimp only at hSw); go_simp; try (with_reducible rfl))
      refine wpAnyE_take0 (i := 13) (v := ?ev13) rfl (by kernel_rfl) (by kernel_rfl) (by kernel_rfl) (by decide) (fun _ _ _ h => h) (Or.inl ⟨by rfl, ?ehy13⟩) hSS ?_
      case ehy13 => (intro wz hSw; (try dsimp only at hSw); go_simp; try (with_reducible rfl))
      refine wpAnyE_take0 (i := 14) (v := ?ev14) rfl (by kernel_rfl) (by kernel_rfl) (by kernel_rfl) (by decide) (fun _ _ _ h => h) (Or.inl ⟨by rfl, ?ehy14⟩) hSS ?_
      case ehy14 => (intro wz hSw; (try dsimp only at hSw); go_simp; try (with_reducible rfl))
      simp only [Act.put, List.setIfInBounds_toArray, List.set_cons_succ, List.set_cons_zero, List.getElem_toArray, List.getElem_cons_succ, List.getElem_cons_zero]
      refine wpAnyE_take0 (i := 15) (v := ?ev15) rfl (by kernel_rfl) (by kernel_rfl) (by kernel_rfl) (by decide) (fun _ _ _ h => h) (Or.inl ⟨by rfl, ?ehy15⟩) hSS ?_
      case ehy15 => (intro wz hSw; (try dsimp only at hSw); go_simp; try (with_reducible rfl))
      refine wpAnyE_take0 (i := 16) (v := ?ev16) rfl (by kernel_rfl) (by kernel_rfl) (by kernel_rfl) (by decide) (fun _ _ _ h => h) (Or.inl ⟨by rfl, ?ehy16⟩) hSS ?_
      case ehy16 => (intro wz hSw; (try dsimp only at hSw); go_simp; try (with_reducible rfl))
      refine wpAnyE_take0 (i := 17) (v := ?ev17) rfl (by kernel_rfl) (by kernel_rfl) (by kernel_rfl) (by decide) (fun _ _ _ h => h) (Or.inl ⟨by rfl, ?ehy17⟩) hSS ?_
      case ehy17 => (intro wz hSw; (try dsimp only at hSw); go_simp; try (with_reducible rfl))
      refine wpAnyE_take0 (i := 18) (v := ?ev18) rfl (by kernel_rfl) (by kernel_rfl) (by kernel_rfl) (by decide) (fun _ _ _ h => h) (Or.inl ⟨by rfl, ?ehy18⟩) hSS ?_
      case ehy18 => (intro wz hSw; (try dsimp only at hSw); go_simp; try (with_reducible rfl))
      simp only [Act.put, List.setIfInBounds_toArray, List.set_cons_succ, List.set_cons_zero, List.getElem_toArray, List.getElem_cons_succ, List.getElem_cons_zero]
      refine wpAnyE_take0 (i := 19) (v := ?ev19) rfl (by kernel_rfl) (by kernel_rfl) (by kernel_rfl) (by decide) (fun _ _ _ h => h) (Or.inl ⟨by rfl, ?ehy19⟩) hSS ?_
      case ehy19 => (intro wz hSw; (try dsimp only at hSw); go_simp; try (with_reducible rfl))
      refine wpAnyE_take0 (i := 20) (v := ?ev20) rfl (by kernel_rfl) (by kernel_rfl) (by kernel_rfl) (by decide) (fun _ _ _ h => h) (Or.inl ⟨by rfl, ?ehy20⟩) hSS ?_
      case ehy20 => (intro wz hSw; (try dsimp only at hSw); go_simp; try (with_reducible rfl))
      refine wpAnyE_take0 (i := 21) (v := ?ev21) rfl (by kernel_rfl) (by kernel_rfl) (by kernel_rfl) (by decide) (fun _ _ _ h => h) (Or.inl ⟨by rfl, ?ehy21⟩) hSS ?_
      case ehy21 => (intro wz hSw; (try dsimp only at hSw); go_simp; try (with_reducible rfl))
      refine wpAnyE_take0 (i := 22) (v := ?ev22) rfl (by kernel_rfl) (by kernel_rfl) (by kernel_rfl) (by decide) (fun _ _ _ h => h) (Or.inl ⟨by rfl, ?ehy22⟩) hSS ?_
      case ehy22 => (intro wz hSw; (try dsimp only at hSw); go_simp; try (with_reducible rfl))
      simp only [Act.put, List.setIfInBounds_toArray, List.set_cons_succ, List.set_cons_zero, List.getElem_toArray, List.getElem_cons_succ, List.getElem_cons_zero]
      refine wpAnyE_take0 (i := 23) (v := ?ev23) rfl (by kernel_rfl) (by kernel_rfl) (by kernel_rfl) (by decide) (fun _ _ _ h => h) (Or.inl ⟨by rfl, ?ehy23⟩) hSS ?_
      case ehy23 => (intro wz hSw; (try dsimp only at hSw); go_simp; try (with_reducible rfl))
      refine wpAnyE_take0 (i := 24) (v := ?ev24) rfl (by kernel_rfl) (by kernel_rfl) (by kernel_rfl) (by decide) (fun _ _ _ h => h) (Or.inl ⟨by rfl, ?ehy24⟩) hSS ?_
      case ehy24 => (intro wz hSw; (try dsimp only at hSw); go_simp; try (with_reducible rfl))
      refine wpAnyE_take0 (i := 25) (v := ?ev25) rfl (by kernel_rfl) (by kernel_rfl) (by kernel_rfl) (by decide) (fun _ _ _ h => h) (Or.inl ⟨by rfl, ?ehy25⟩) hSS ?_
      case ehy25 => (intro wz hSw; (try dsimp only at hSw); go_simp; try (with_reducible rfl))
      refine wpAnyE_take0 (i := 26) (v := ?ev26) rfl (by kernel_rfl) (by kernel_rfl) (by kernel_rfl) (by decide) (fun _ _ _ h => h) (Or.inl ⟨by rfl, ?ehy26⟩) hSS ?_
      case ehy26 => (intro wz hSw; (try dsimp only at hSw); go_simp; try (with_reducible rfl))
      simp only [Act.put, List.setIfInBounds_toArray, List.set_cons_succ, List.set_cons_zero, List.getElem_toArray, List.getElem_cons_succ, List.getElem_cons_zero]
      refine wpAnyE_one (i := 27) (by kernel_rfl) rfl (fun K hK => ?_)
      go_simp
      refine hK.out _ _ ⟨hSS.1, fun _ => trivial⟩ ?_
      clear hK K
      refine wpAnyE_done (by kernel_rfl) ?_ _
      clear hSS
      go_wp2
      go_roundw
      case rel => exact ⟨k + 1, by omega, by go_num, b05, YES.out (by rw [HE.out, ← HX.out]; simp; omega)⟩
      case measure => simp [intOf]; omega
  ·obtain rfl : k = kn := by omega
   have HW : Hid (wantsB cl N k kx = true) := HA.out
   have y3 := y2.below hb0
   obtain ⟨d0, d1, d2, d3, d4, d5⟩ := y3.sixP
   cases u
   ·by_cases hk0 : k = 0
    ·subst hk0
     go_wp2_with fail
     refine (shasn_any _ _ _ _ _ _ _ _ _ _ _ _ _ _ ex _ (h.below hb).g h.lg h.zg).mono ?_
     rintro e w4 ⟨rfl, b4⟩
     have e2 : ((hasN ex : Int) == 0) = decide (hasN ex = 0) := by by_cases hn : hasN ex = 0 <;> simp [hn]
     have E2 : Hid _ := e2
     go_wp2
     go_ret
     exact ⟨ret_bool (by rw [HV.out, HW.out]; simp), hb.trans (b4.mono hb.size)⟩
    ·have hk0' : ((k : Int) == 0) = false := by simp; omega
     go_wp2
     go_ret
     exact ⟨ret_bool (by rw [HV.out, HW.out]; simp [hk0]), hb⟩
   ·go_wp2
    go_ret
    exact ⟨ret_bool (by rw [HV.out, HW.out]; simp), hb⟩

end Go.Proofs.YtdigmokjedckeaaGreatDoor
namespace Go.Proofs.YtdigmokjedckeaaGreatDoor
open Go.RowKit Go.Deep
set_option linter.unusedVariables false
set_option maxRecDepth 100000

set_option maxHeartbeats 3200000 in
theorem sclkok_any (cl : Int) (ad : Option Addr) (N cap : Nat) (ga : Option Addr) (gn gc : Nat) (sa : Option Addr) (sn sc : Nat) (ss : List L2V) (G S : List Int) (u : Bool) (r : Int) (ba : Option Addr) (bn bc : Nat) (bx : List Int) (da : Option Addr) (dn dc : Nat) (dx : List DV) (ka : Option Addr) (kn kc : Nat) (kx : List QV) (ea : Option Addr) (en ec : Nat) (ex : List GV) (w : World) (hp : PlAt w ad N ss ga gn G sa sn S) (h : CkAt w ba bn bx da dn dx ka kn kx ea en ex) :
  Calls Tryz.prog 15 #[plV cl ad N cap ga gn gc sa sn sc, ckV u r ba bn bc da dn dc ka kn kc ea en ec] w fun e w' => e = .returned (.bool (clkB cl N ss gn G sn S u r bn bx dn dx kn kx en ex)) ∧ Below w.heap.size w w' := by
 have q0 := (Cel.new w [.int .i64 cl, .slice ad N cap, .slice ga gn gc, .slice sa sn sc] 34).alloc (.cells #[.bool u, .int .i64 r, .slice ba bn bc, .slice da dn dc, .slice ka kn kc, .slice ea en ec] 52)
 have y0 := Cel.new (w.alloc (.cells #[.int .i64 cl, .slice ad N cap, .slice ga gn gc, .slice sa sn sc] 34)) [.bool u, .int .i64 r, .slice ba bn bc, .slice da dn dc, .slice ka kn kc, .slice ea en ec] 52
 rw [World.size_alloc] at y0
 have B0 := ((Below.refl w.heap.size w).alloc (Nat.le_refl _) (.cells #[.int .i64 cl, .slice ad N cap, .slice ga gn gc, .slice sa sn sc] 34)).alloc (by simp) (.cells #[.bool u, .int .i64 r, .slice ba bn bc, .slice da dn dc, .slice ka kn kc, .slice ea en ec] 52)
 cases hpl : plnB cl N ss gn G sn S
 ·go_enter Tryz.func15, Tryz.ntmps15
  go_wp2_with fail
  refine (splnok_any _ _ _ _ ss _ _ _ G _ _ _ S _ (hp.below B0)).mono ?_
  rintro e w1 ⟨rfl, b1⟩
  rw [hpl]
  go_wp2
  go_ret
  exact ⟨ret_bool (by rw [clkB, hpl]; rfl), B0.trans (b1.mono B0.size)⟩
 have pp := (pln_parts hpl).1
 have pa := pln_acts hpl
 have HC : Hid _ := catB_parts (pln_catC hpl)
 have HP : Hid _ := hpl
 clear hpl
 go_enter Tryz.func15, Tryz.ntmps15
 go_wp2_with fail
 refine (splnok_any _ _ _ _ ss _ _ _ G _ _ _ S _ (hp.below B0)).mono ?_
 rintro e w1 ⟨rfl, b1⟩
 rw [HP.out]
 have B1 := B0.trans (b1.mono B0.size)
 have q1 := q0.below b1
 have y1 := y0.below b1
 clear q0 y0 B0 b1
 obtain ⟨c0, c1, c2, c3⟩ := q1.quadP
 go_wp2_with fail
 refine (sboth_any _ _ _ ss _ hp.ha (hp.below B1).a HC.out.2 HC.out.1).mono ?_
 rintro e w2 ⟨G', cG, ts, nt, Gp, cp, rfl, hl, jp, hx, hnt, o, lGp⟩
 have B2 := B1.trans (jp.b.mono B1.size)
 have q2 := q1.below jp.b
 have y2 := y1.below jp.b
 have hg := jp.g
 have HX : Hid _ := hx
 have HL : Hid _ := hl
 have hR := o.bools.ba
 clear jp hx hl o q1 y1 B1 c0 c1 c2 c3
 obtain ⟨c0, c1, c2, c3⟩ := q2.quadP
 obtain ⟨d0, d1, d2, d3, d4, d5⟩ := y2.sixP
 go_wp2_with fail
 refine (sl9_any _ _ _ _ _ _ _ _ _ _ G _ _ _ ts (catP ss) _ _ (pinsA ss) _ _ _ _ _ bx _ _ _ dx _ _ _ kx _ _ _ ex _ (hp.below B2).g hp.zg pp pa hg HL.out (by omega) HX.out hR (h.below B2)).mono ?_
 rintro e w3 ⟨rfl, b3⟩
 go_wp2
 go_ret
 exact ⟨ret_bool (by rw [clkB, HP.out]; rfl), B2.trans (b3.mono B2.size)⟩

set_option maxHeartbeats 6400000 in
theorem iclkok_any (cl : Int) (ad : Option Addr) (N cap : Nat) (ga : Option Addr) (gn gc : Nat) (sa : Option Addr) (sn sc : Nat) (ss : List L2V) (G S : List Int) (u : Bool) (r : Int) (ba : Option Addr) (bn bc : Nat) (bx : List Int) (da : Option Addr) (dn dc : Nat) (dx : List DV) (ka : Option Addr) (kn kc : Nat) (kx : List QV) (ea : Option Addr) (en ec : Nat) (ex : List GV) (w : World) (hp : PlAt w ad N ss ga gn G sa sn S) (h : CkAt w ba bn bx da dn dx ka kn kx ea en ex) (hTB : Lib.TabBelow Tryz.prog w.heap.size w "internal/strconv.uint64pow10" .u64 Lib.pow10Tab) :
  Calls Tryz.prog 17 #[plV cl ad N cap ga gn gc sa sn sc, ckV u r ba bn bc da dn dc ka kn kc ea en ec] w fun e w' => e = .returned (.bool (clkB cl N ss gn G sn S u r bn bx dn dx kn kx en ex)) ∧ Below w.heap.size w w' := by
 have HTB : Hid _ := hTB
 clear hTB
 have q0 := (Cel.new w [.int .i64 cl, .slice ad N cap, .slice ga gn gc, .slice sa sn sc] 34).alloc (.cells #[.bool u, .int .i64 r, .slice ba bn bc, .slice da dn dc, .slice ka kn kc, .slice ea en ec] 52)
 have y0 := Cel.new (w.alloc (.cells #[.int .i64 cl, .slice ad N cap, .slice ga gn gc, .slice sa sn sc] 34)) [.bool u, .int .i64 r, .slice ba bn bc, .slice da dn dc, .slice ka kn kc, .slice ea en ec] 52
 rw [World.size_alloc] at y0
 have B0 := ((Below.refl w.heap.size w).alloc (Nat.le_refl _) (.cells #[.int .i64 cl, .slice ad N cap, .slice ga gn gc, .slice sa sn sc] 34)).alloc (by simp) (.cells #[.bool u, .int .i64 r, .slice ba bn bc, .slice da dn dc, .slice ka kn kc, .slice ea en ec] 52)
 cases hpl : plnB cl N ss gn G sn S
 ·go_enter Tryz.func17, Tryz.ntmps17
  go_wp2_with fail
  refine (iplnok_any _ _ _ _ ss _ _ _ G _ _ _ S _ (hp.below B0)).mono ?_
  rintro e w1 ⟨rfl, b1⟩
  rw [hpl]
  go_wp2
  go_ret
  exact ⟨ret_bool (by rw [clkB, hpl]; rfl), B0.trans (b1.mono B0.size)⟩
 have HC : Hid _ := pln_catC hpl
 have HP : Hid _ := hpl
 clear hpl
 obtain ⟨x1, hx1⟩ : ∃ y, y = inB r 0 200 := ⟨_, rfl⟩
 obtain ⟨x2, hx2⟩ : ∃ y, y = okN 3 10000 bn bx := ⟨_, rfl⟩
 obtain ⟨x3, hx3⟩ : ∃ y, y = donesB cl dn dx := ⟨_, rfl⟩
 obtain ⟨x4, hx4⟩ : ∃ y, y = wantsB cl N kn kx := ⟨_, rfl⟩
 obtain ⟨x5, hx5⟩ : ∃ y, y = gotsB cl gn bn bx G (catP ss) (pinsA ss) en ex := ⟨_, rfl⟩
 have HB : Hid (clkB cl N ss gn G sn S u r bn bx dn dx kn kx en ex = (x1 && (x2 && (x3 && (x4 && (x5 && (u || (decide (kn = 0) && decide (hasN ex = 0))))))))) := by show _ = _; rw [clkB, clerkB, HP.out, hx1, hx2, hx3, hx4, hx5]; rfl
 have H1 : Hid _ := hx1
 have H2 : Hid _ := hx2
 have H3 : Hid _ := hx3
 have H4 : Hid _ := hx4
 have H5 : Hid _ := hx5
 clear hx1 hx2 hx3 hx4 hx5
 go_enter Tryz.func17, Tryz.ntmps17
 go_wp2_with fail
 refine (iplnok_any _ _ _ _ ss _ _ _ G _ _ _ S _ (hp.below B0)).mono ?_
 rintro e w1 ⟨rfl, b1⟩
 rw [HP.out]
 have B1 := B0.trans (b1.mono B0.size)
 have q1 := q0.below b1
 have y1 := y0.below b1
 clear q0 y0 B0 b1
 obtain ⟨c0, c1, c2, c3⟩ := q1.quadP
 obtain ⟨d0, d1, d2, d3, d4, d5⟩ := y1.sixP
 go_wp2_with fail
 refine (iroundC_any _ _).mono ?_
 rintro e w2 ⟨rfl, b2⟩
 rw [← H1.out]
 have B2 := B1.trans (b2.mono B1.size)
 have q2 := q1.below b2
 have y2 := y1.below b2
 clear q1 y1 B1 b2 c0 c1 c2 c3 d0 d1 d2 d3 d4 d5
 cases x1
 ·go_wp2
  go_ret
  exact ⟨ret_bool (by rw [HB.out]; rfl), B2⟩
 obtain ⟨c0, c1, c2, c3⟩ := q2.quadP
 obtain ⟨d0, d1, d2, d3, d4, d5⟩ := y2.sixP
 go_wp2_with fail
 refine (ival_any _ _ _ bx _ (h.below B2).b h.zb).mono ?_
 rintro e wq ⟨rfl, rfl⟩
 rw [← H2.out]
 cases x2
 ·go_wp2
  go_ret
  exact ⟨ret_bool (by rw [HB.out]; rfl), B2⟩
 go_wp2_with fail
 refine (idones_any _ _ _ _ _ _ _ _ _ _ _ _ _ dx _ h.ld (h.below B2).d h.zd (fun w' h' => HTB.out w' (B2.trans (h'.mono B2.size)))).mono ?_
 rintro e w3 ⟨rfl, b3⟩
 rw [← H3.out]
 have B3 := B2.trans (b3.mono B2.size)
 have q3 := q2.below b3
 have y3 := y2.below b3
 clear q2 y2 B2 b3 c0 c1 c2 c3 d0 d1 d2 d3 d4 d5
 cases x3
 ·go_wp2
  go_ret
  exact ⟨ret_bool (by rw [HB.out]; rfl), B3⟩
 obtain ⟨c0, c1, c2, c3⟩ := q3.quadP
 obtain ⟨d0, d1, d2, d3, d4, d5⟩ := y3.sixP
 go_wp2_with fail
 refine (iwants_any _ _ _ _ _ _ _ _ _ _ ss G S _ _ _ _ _ _ _ _ _ _ _ _ _ _ kx _ (hp.below B3) HP.out (h.below B3).k h.lk h.zk (fun w' h' => HTB.out w' (B3.trans (h'.mono B3.size)))).mono ?_
 rintro e w4 ⟨rfl, b4⟩
 rw [← H4.out]
 have B4 := B3.trans (b4.mono B3.size)
 have q4 := q3.below b4
 have y4 := y3.below b4
 clear q3 y3 B3 b4 c0 c1 c2 c3 d0 d1 d2 d3 d4 d5
 cases x4
 ·go_wp2
  go_ret
  exact ⟨ret_bool (by rw [HB.out]; rfl), B4⟩
 obtain ⟨c0, c1, c2, c3⟩ := q4.quadP
 obtain ⟨d0, d1, d2, d3, d4, d5⟩ := y4.sixP
 go_wp2_with fail
 refine (igots_any _ _ _ _ _ _ _ _ _ _ ss G S _ _ _ _ _ _ _ _ _ _ _ _ _ _ bx ex _ (hp.below B4) HC.out (h.below B4).b h.zb (h.below B4).g h.lg h.zg).mono ?_
 rintro e w5 ⟨rfl, b5⟩
 rw [← H5.out]
 have B5 := B4.trans (b5.mono B4.size)
 have q5 := q4.below b5
 have y5 := y4.below b5
 clear q4 y4 B4 b5 c0 c1 c2 c3 d0 d1 d2 d3 d4 d5
 cases x5
 ·go_wp2
  go_ret
  exact ⟨ret_bool (by rw [HB.out]; rfl), B5⟩
 obtain ⟨c0, c1, c2, c3⟩ := q5.quadP
 obtain ⟨d0, d1, d2, d3, d4, d5⟩ := y5.sixP
 cases u
 ·go_wp2_with fail
  refine (ineeds_any _ _ _ _ _ _ _ _ _ _ _ _ _ _ ex _ (h.below B5).g h.lg h.zg).mono ?_
  rintro e w6 ⟨rfl, b6⟩
  go_wp2
  go_ret
  refine ⟨ret_bool ?_, B5.trans (b6.mono B5.size)⟩
  rw [HB.out]
  by_cases hk : kn = 0
  ·subst hk; by_cases hh : hasN ex = 0 <;> simp [hh]
  ·have : 0 < kn := by omega
   simp [hk, this]
 ·go_wp2
  go_ret
  exact ⟨ret_bool (by rw [HB.out]; rfl), B5⟩

end Go.Proofs.YtdigmokjedckeaaGreatDoor
