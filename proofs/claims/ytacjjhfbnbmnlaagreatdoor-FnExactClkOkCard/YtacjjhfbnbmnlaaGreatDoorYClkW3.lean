/-
  Whether the calls that wait are ok, as the program asks it (wantsOk); the library's table of powers of ten is as its text lays it. Lengths at most 1048576.
-/
import Derived.Test.YtacjjhfbnbmnlaaGreatDoorYGotW
namespace Go.Proofs.YtacjjhfbnbmnlaaGreatDoor
open Go.RowKit Go.Deep
set_option linter.unusedVariables false
set_option maxRecDepth 100000

/-- The client of the call ahead. -/
def lastQ (fs : List QV) (k : Nat) : Int := if k = 0 then -1 else (fs[k - 1]?.getD noQ).x
theorem want_low {cl : Int} {N : Nat} {fs : List QV} {k : Nat} (h : (fs[k]?.getD noQ).x ≤ lastQ fs k) : wantP cl N fs k = false := by
  unfold lastQ at h
  by_cases hk : k = 0
  · rw [if_pos hk] at h
    rw [wantP, inCallB, inB_not.2 (by omega)]; rfl
  · rw [if_neg hk] at h
    rw [wantP]
    have : decide (k = 0 ∨ (fs[k - 1]?.getD noQ).x < (fs[k]?.getD noQ).x) = false := by simp; omega
    rw [this]; simp
theorem want_high {cl : Int} {N : Nat} {fs : List QV} {k : Nat} (h : ¬ (fs[k]?.getD noQ).x ≤ lastQ fs k) : wantP cl N fs k = inCallB cl N (fs[k]?.getD noQ).x (fs[k]?.getD noQ).q (fs[k]?.getD noQ).c (fs[k]?.getD noQ).t.n (fs[k]?.getD noQ).t.x := by
  rw [wantP]
  have : decide (k = 0 ∨ (fs[k - 1]?.getD noQ).x < (fs[k]?.getD noQ).x) = true := by
    unfold lastQ at h
    by_cases hk : k = 0
    · simp [hk]
    · rw [if_neg hk] at h
      simp; omega
  rw [this]; simp
theorem last_succ (fs : List QV) (k : Nat) : lastQ fs (k + 1) = (fs[k]?.getD noQ).x := by rw [lastQ, if_neg (by omega)]; rfl

set_option maxHeartbeats 3200000 in
theorem iwants_any (cl : Int) (ad : Option Addr) (N cap : Nat) (ga : Option Addr) (gn gc : Nat) (sa : Option Addr) (sn sc : Nat) (ss : List L2V) (G S : List Int) (u : Bool) (r : Int) (ba : Option Addr) (bn bc : Nat) (da : Option Addr) (dn dc : Nat) (ka : Option Addr) (kn kc : Nat) (ea : Option Addr) (en ec : Nat) (kx : List QV) (w : World) (hp : PlAt w ad N ss ga gn G sa sn S) (hpl : plnB cl N ss gn G sn S = true) (hK : QSG w ka kx) (lK : kx.length = kn) (zK : kn ≤ 1048576) (hTB : Lib.TabBelow Tryz.prog w.heap.size w "internal/strconv.uint64pow10" .u64 Lib.pow10Tab) :
    Calls Tryz.prog 61 #[ckV u r ba bn bc da dn dc ka kn kc ea en ec, plV cl ad N cap ga gn gc sa sn sc] w fun e w' => e = .returned (.bool (wantsB cl N kn kx)) ∧ Below w.heap.size w w' := by
  have LK : Hid (kx.length = kn) := lK
  have HPL : Hid _ := hpl
  have HTB : Hid _ := hTB
  clear lK hpl hTB
  have y0 := (Cel.new w [.bool u, .int .i64 r, .slice ba bn bc, .slice da dn dc, .slice ka kn kc, .slice ea en ec] 52).alloc (.cells #[.int .i64 cl, .slice ad N cap, .slice ga gn gc, .slice sa sn sc] 34)
  have q0 := Cel.new (w.alloc (.cells #[.bool u, .int .i64 r, .slice ba bn bc, .slice da dn dc, .slice ka kn kc, .slice ea en ec] 52)) [.int .i64 cl, .slice ad N cap, .slice ga gn gc, .slice sa sn sc] 34
  rw [World.size_alloc] at q0
  have B0 := ((Below.refl w.heap.size w).alloc (Nat.le_refl _) (.cells #[.bool u, .int .i64 r, .slice ba bn bc, .slice da dn dc, .slice ka kn kc, .slice ea en ec] 52)).alloc (by simp) (.cells #[.int .i64 cl, .slice ad N cap, .slice ga gn gc, .slice sa sn sc] 34)
  go_enter Tryz.func61, Tryz.ntmps61
  go_wp2_with fail
  obtain ⟨W0, hW0⟩ : ∃ W, W = (w.alloc (.cells #[.bool u, .int .i64 r, .slice ba bn bc, .slice da dn dc, .slice ka kn kc, .slice ea en ec] 52)).alloc (.cells #[.int .i64 cl, .slice ad N cap, .slice ga gn gc, .slice sa sn sc] 34) := ⟨_, rfl⟩
  rw [← hW0] at q0 y0 B0 ⊢
  clear hW0
  go_loopw [5, 7, 11] (fun la _ i wr => ∃ k : Nat, k ≤ kn ∧ i = .int .i64 k ∧ la = .int .i64 (lastQ kx k) ∧ Below W0.heap.size W0 wr ∧ (List.range k).all (wantP cl N kx) = true) (fun _ _ i _ => kn - (intOf i).toNat)
  case atStart => exact ⟨0, Nat.zero_le _, rfl, rfl, Below.refl _ _, rfl⟩
  case round =>
    obtain ⟨k, hk, rfl, rfl, hb0, hall⟩ := hrel
    have HA : Hid _ := hall
    clear hall
    have hb := B0.trans (hb0.mono B0.size)
    by_cases hlt : k < kn
    · obtain ⟨b, off, rfl, hc, hr⟩ := (hK.below hb) k (by rw [LK.out]; exact hlt)
      have LOW : Hid _ := want_low (cl := cl) (N := N) (fs := kx) (k := k)
      have HIGH : Hid _ := want_high (cl := cl) (N := N) (fs := kx) (k := k)
      have LS : Hid _ := last_succ kx k
      generalize HG : kx[k]?.getD noQ = g at *
      have HG' : Hid (kx[k]?.getD noQ = g) := HG
      clear HG
      obtain ⟨e0, e1, e2, e3⟩ := cellsQ hc
      obtain ⟨gx, gq, gz, ⟨gta, gtn, gtc, gtx⟩⟩ := g
      have e0' : wr.cell? ⟨b, off + k * 4, none⟩ = some (.int .i64 gx) := e0
      have e1' : wr.cell? ⟨b, off + k * 4 + 1, none⟩ = some (.int .i64 gq) := e1
      have e2' : wr.cell? ⟨b, off + k * 4 + 2, none⟩ = some (.int .i64 gz) := e2
      have e3' : wr.cell? ⟨b, off + k * 4 + 3, none⟩ = some (.slice gta gtn gtc) := e3
      have hI : Ints wr gta gtn gtx := hr.1.1
      have zI : gtn ≤ 1048576 := hr.1.2
      clear e0 e1 e2 e3 hc hr
      have hlt' : (k : Int) < (kn : Int) := by omega
      obtain ⟨la, hla⟩ : ∃ la, la = lastQ kx k := ⟨_, rfl⟩
      have HLA : Hid (la = lastQ kx k) := hla
      rw [← hla]
      clear hla
      have NO : Hid (wantP cl N kx k = false → wantsB cl N kn kx = false) := fun h => range_no hlt h
      have YES : Hid (wantP cl N kx k = true → (List.range (k + 1)).all (wantP cl N kx) = true) := fun h => range_go HA.out h
      have bA := hb0.alloc hb0.size (.cells #[.int .i64 gx, .int .i64 gq, .int .i64 gz, .slice gta gtn gtc] 112)
      have BA := hb.alloc hb.size (.cells #[.int .i64 gx, .int .i64 gq, .int .i64 gz, .slice gta gtn gtc] 112)
      have qA := (q0.below hb0).alloc (.cells #[.int .i64 gx, .int .i64 gq, .int .i64 gz, .slice gta gtn gtc] 112)
      obtain ⟨v0, v1, v2, v3⟩ := qA.quadP
      by_cases hle : gx ≤ la
      · have HV : Hid _ := NO.out (LOW.out (by rw [← HLA.out]; exact hle))
        clear qA
        go_wp2
        go_ret
        exact ⟨ret_bool (by rw [HV.out]), BA⟩
      · have HE : Hid (wantP cl N kx k = inCallB cl N gx gq gz gtn gtx) := HIGH.out (by rw [← HLA.out]; exact hle)
        obtain ⟨x, hx⟩ : ∃ x, x = inCallB cl N gx gq gz gtn gtx := ⟨_, rfl⟩
        have HX : Hid (x = inCallB cl N gx gq gz gtn gtx) := hx
        have hle' : decide (gx ≤ la) = false := by simpa using hle
        clear hx hle LOW HIGH qA
        go_wp2_with fail
        refine (icallok_any _ _ _ _ ss _ _ _ G _ _ _ S _ _ _ _ _ _ gtx _ (hp.below BA) (hI.alloc _) zI (fun w' h' => HTB.out w' (BA.trans (h'.mono BA.size)))).mono ?_
        rintro e w1 ⟨rfl, b1⟩
        rw [HPL.out, ← HX.out]
        have bg := (Cel.new wr [.int .i64 gx, .int .i64 gq, .int .i64 gz, .slice gta gtn gtc] 112).below b1
        have B1 := BA.trans (b1.mono BA.size)
        have b01 := bA.trans (b1.mono bA.size)
        obtain ⟨i0, i1, i2, i3⟩ := bg.quadP
        cases x
        · have HV : Hid _ := NO.out (by rw [HE.out, ← HX.out])
          go_wp2
          go_ret
          exact ⟨ret_bool (by rw [HV.out]), B1⟩
        · have HY : Hid _ := YES.out (by rw [HE.out, ← HX.out])
          go_wp2
          go_roundw
          case rel => exact ⟨k + 1, by omega, by go_num, by rw [LS.out], b01, HY.out⟩
          case measure => simp [intOf]; omega
    · obtain rfl : k = kn := by omega
      go_wp2
      go_ret
      exact ⟨ret_bool (by rw [wantsB, HA.out]), hb⟩

end Go.Proofs.YtacjjhfbnbmnlaaGreatDoor
