/-
  Lemmas that the claim's last text rests on: DonW, Ikeep, CallP, CalE.
-/
import Derived.Test.YtdigmokjedckeaaGreatDoorJExactClkOkCardD
import Derived.Test.YtdigmokjedckeaaGreatDoorJExactClkOkCardC
import Derived.Test.YtdigmokjedckeaaGreatDoorKeyed
import Derived.Test.YtdigmokjedckeaaGreatDoorForms
import Derived.Test.YtdigmokjedckeaaGreatDoorOpen
import Derived.Test.YtdigmokjedckeaaGreatDoorIntSS
namespace Go.Proofs.YtdigmokjedckeaaGreatDoor
open Go.RowKit Go.Deep
set_option linter.unusedVariables false
set_option maxRecDepth 100000

/-- What was done for one client is ok. -/
def dnOk (s c : Int) (n : Nat) (zs : List Int) : Bool := if s = 0 then decide (c = 0) && decide (n = 0) else inB s 1 300 && fullB (resText c n zs)
def DV.ok (f : DV) : Bool := dnOk f.q f.c f.t.n f.t.x
/-- What was done for all clients is ok. -/
def donesB (cl : Int) (N : Nat) (fs : List DV) : Bool := decide ((N : Int) = cl) && fs.all DV.ok
theorem full_code {c : Int} {n : Nat} {zs : List Int} (h : fullB (resText c n zs) = true) : c ≠ 0 := fun e => by
 subst e
 rw [resText_no (by simp [resOkB, inB])] at h
 simp [fullB, ByteArray.toList_mk] at h
theorem dn_zero {c : Int} {n : Nat} {zs : List Int} : dnOk 0 c n zs = (decide (c = 0) && decide (n = 0)) := by rw [dnOk, if_pos rfl]
theorem dn_some {s c : Int} {n : Nat} {zs : List Int} (h : s ≠ 0) : dnOk s c n zs = (inB s 1 300 && fullB (resText c n zs)) := by rw [dnOk, if_neg h]
theorem dones_not {cl : Int} {N : Nat} {fs : List DV} (h : ¬ (N : Int) = cl) : donesB cl N fs = false := by simp [donesB, h]
theorem dones_is {cl : Int} {N : Nat} {fs : List DV} (h : (N : Int) = cl) : donesB cl N fs = fs.all DV.ok := by simp [donesB, h]
theorem dones_step {fs : List DV} {k : Nat} (h : k < fs.length) (h1 : (fs.take k).all DV.ok = true) (h2 : (fs[k]?.getD noD).ok = true) : (fs.take (k + 1)).all DV.ok = true := by
 rw [List.take_succ_eq_append_getElem h, List.all_append, h1]
 rw [List.getElem?_eq_getElem h] at h2
 simpa using h2
theorem dones_no {fs : List DV} {k : Nat} (h : k < fs.length) (h2 : (fs[k]?.getD noD).ok = false) : fs.all DV.ok = false := by
 rw [List.all_eq_false]
 refine ⟨fs[k], List.getElem_mem h, ?_⟩
 rw [List.getElem?_eq_getElem h] at h2
 simpa using h2
theorem dones_end {fs : List DV} {k : Nat} (h : fs.length ≤ k) (h1 : (fs.take k).all DV.ok = true) : fs.all DV.ok = true := by rwa [List.take_of_length_le h] at h1
theorem dones_copy {cl : Int} {N : Nat} {fs gs : List DV} (hl : gs.length = fs.length) (h : copiesDS fs gs) : donesB cl N gs = donesB cl N fs := by
 have : gs.map DV.ok = fs.map DV.ok := by
  apply List.ext_getElem?
  intro i
  by_cases hi : i < gs.length
  ·obtain ⟨e1, e2, ⟨e3, e4⟩, -⟩ := h i hi
   have e : (gs[i]?.getD noD).ok = (fs[i]?.getD noD).ok := by rw [DV.ok, DV.ok, e1, e2, e3, e4]
   rw [List.getElem?_eq_getElem hi, List.getElem?_eq_getElem (by omega)] at e
   simp only [Option.getD_some] at e
   rw [List.getElem?_map, List.getElem?_map, List.getElem?_eq_getElem hi, List.getElem?_eq_getElem (by omega)]
   simp [e]
  ·rw [List.getElem?_eq_none (by simp; omega), List.getElem?_eq_none (by simp; omega)]
 have e1 : ∀ xs : List DV, xs.all DV.ok = (xs.map DV.ok).all id := fun xs => by simp [List.all_map]
 rw [donesB, donesB, e1, e1, this]
theorem same_copyD {fs gs hs : List DV} {N : Nat} (h1 : gs.length = N) (h2 : hs.length = N) (c1 : copiesDS fs gs) (c2 : copiesDS fs hs) : ∀ i, i < N → sameD (gs[i]?.getD noD) (hs[i]?.getD noD) := fun i hi => by
 obtain ⟨a1, a2, a3, -⟩ := c1 i (by omega)
 obtain ⟨b1, b2, b3, -⟩ := c2 i (by omega)
 exact ⟨by rw [a1, b1], by rw [a2, b2], by show _ = _; rw [a3.2, b3.2], trivial⟩

set_option maxHeartbeats 800000 in
theorem inothing_any (c : Int) (a : Option Addr) (n cap : Nat) (w : World) :
  Calls Tryz.prog 112 #[resP c a n cap] w fun e w' => e = .returned (.bool (decide (c = 0) && decide (n = 0))) ∧ Below w.heap.size w w' := by
 have B0 := (Below.refl w.heap.size w).alloc (Nat.le_refl _) (.cells #[.int .i64 c, .slice a n cap] 114)
 by_cases h : c = 0
 ·subst h
  have e2 : ((n : Int) == 0) = decide (n = 0) := by by_cases hn : n = 0 <;> simp [hn]
  go_enter Tryz.func112, Tryz.ntmps112
  go_wp2
  go_ret
  exact ⟨ret_bool (by simp), B0⟩
 ·have h' : (c == 0) = false := by simpa using h
  go_enter Tryz.func112, Tryz.ntmps112
  go_wp2
  go_ret
  exact ⟨ret_bool (by simp [h]), B0⟩

set_option maxHeartbeats 800000 in
theorem idone_any (s c : Int) (a : Option Addr) (n cap : Nat) (zs : List Int) (w : World) (hC : Ints w a n zs) (hn : n ≤ 1048576) (hT : Lib.TabBelow Tryz.prog w.heap.size w "internal/strconv.uint64pow10" .u64 Lib.pow10Tab) :
  Calls Tryz.prog 78 #[doV s c a n cap] w fun e w' => e = .returned (.bool (dnOk s c n zs)) ∧ Below w.heap.size w w' := by
 have HT : Hid _ := hT
 clear hT
 have n0 := Cel.new w [.int .i64 s, .int .i64 c, .slice a n cap] 116
 have B0 := (Below.refl w.heap.size w).alloc (Nat.le_refl _) (.cells #[.int .i64 s, .int .i64 c, .slice a n cap] 116)
 by_cases h : s = 0
 ·subst h
  go_enter Tryz.func78, Tryz.ntmps78
  go_wp2_with fail
  refine (inothing_any _ _ _ _ _).mono ?_
  rintro e w1 ⟨rfl, b1⟩
  go_wp2
  go_ret
  exact ⟨ret_bool (by rw [dn_zero]), B0.trans (b1.mono B0.size)⟩
 ·have h' : (s == 0) = false := by simpa using h
  have HS : Hid (s ≠ 0) := h
  clear h
  obtain ⟨x1, hx1⟩ : ∃ y, y = betB 1 300 [s] := ⟨_, rfl⟩
  have H1 : Hid _ := hx1
  clear hx1
  have HB : Hid (dnOk s c n zs = (x1 && fullB (resText c n zs))) := by show _ = _; rw [dn_some HS.out, H1.out, bet_one]
  have B1 := B0.alloc B0.size (.cells #[.int .i64 s] 3)
  go_enter Tryz.func78, Tryz.ntmps78
  go_wp2_with fail
  refine (between_any _ _ _ [s] _ _ _ (by have := one_ints (w.alloc (.cells #[.int .i64 s, .int .i64 c, .slice a n cap] 116)) s 3; rw [World.size_alloc] at this; exact this) (by omega)).mono ?_
  rintro e w1 ⟨rfl, rfl⟩
  rw [← H1.out]
  cases x1
  ·go_wp2
   go_ret
   exact ⟨ret_bool (by rw [HB.out]; rfl), B1⟩
  go_wp2_with fail
  refine (iresok_any _ _ _ _ zs _ (hC.below B1) hn (fun w' h' => HT.out w' (B1.trans (h'.mono B1.size)))).mono ?_
  rintro e w1 ⟨rfl, b1⟩
  go_wp2
  go_ret
  exact ⟨ret_bool (by rw [HB.out]; rfl), B1.trans (b1.mono B1.size)⟩

set_option maxHeartbeats 1600000 in
theorem idones_any (cl : Int) (ad : Option Addr) (N cap : Nat) (ga : Option Addr) (gn gc : Nat) (sa : Option Addr) (sn sc : Nat) (da : Option Addr) (dn dc : Nat) (fs : List DV) (w : World) (hN : fs.length = dn) (hF : DSG w da fs) (hz : dn ≤ 1048576) (hT : Lib.TabBelow Tryz.prog w.heap.size w "internal/strconv.uint64pow10" .u64 Lib.pow10Tab) :
  Calls Tryz.prog 34 #[plV cl ad N cap ga gn gc sa sn sc, .slice da dn dc] w fun e w' => e = .returned (.bool (donesB cl dn fs)) ∧ Below w.heap.size w w' := by
 have HT : Hid _ := hT
 have HN : Hid (fs.length = dn) := hN
 clear hT hN
 have B0 := (Below.refl w.heap.size w).alloc (Nat.le_refl _) (.cells #[.int .i64 cl, .slice ad N cap, .slice ga gn gc, .slice sa sn sc] 34)
 by_cases hc : (dn : Int) = cl
 ·have hc' : ((dn : Int) != cl) = false := by simpa using hc
  have HC : Hid _ := hc
  clear hc
  go_enter Tryz.func34, Tryz.ntmps34
  go_wp2_with fail
  obtain ⟨W0, hW0⟩ : ∃ W, W = w.alloc (.cells #[.int .i64 cl, .slice ad N cap, .slice ga gn gc, .slice sa sn sc] 34) := ⟨_, rfl⟩
  rw [← hW0] at B0 ⊢
  clear hW0
  go_loopw [6, 14] (fun _ i wr => ∃ k : Nat, k ≤ dn ∧ i = .int .i64 k ∧ Below w.heap.size w wr ∧ (fs.take k).all DV.ok = true) (fun _ i _ => dn - (intOf i).toNat)
  case atStart => exact ⟨0, Nat.zero_le _, rfl, B0, rfl⟩
  case round =>
   obtain ⟨k, hk, rfl, hb, hall⟩ := hrel
   have HA : Hid _ := hall
   clear hall
   by_cases hlt : k < dn
   ·obtain ⟨b, off, rfl, hc, hr⟩ := (hF.below hb) k (by rw [HN.out]; exact hlt)
    generalize HG : fs[k]?.getD noD = g at *
    have HG' : Hid (fs[k]?.getD noD = g) := HG
    clear HG hF
    obtain ⟨e0, e1, e2⟩ := cellsD hc
    obtain ⟨gs, gc, ⟨gta, gtn, gtc, gtx⟩⟩ := g
    have e0' : wr.cell? ⟨b, off + k * 3, none⟩ = some (.int .i64 gs) := e0
    have e1' : wr.cell? ⟨b, off + k * 3 + 1, none⟩ = some (.int .i64 gc) := e1
    have e2' : wr.cell? ⟨b, off + k * 3 + 2, none⟩ = some (.slice gta gtn gtc) := e2
    have hI : Ints wr gta gtn gtx := hr.1.1
    have hz' : gtn ≤ 1048576 := hr.1.2
    clear e0 e1 e2 hc hr
    have hlt' : (k : Int) < (dn : Int) := by omega
    have bA := hb.alloc hb.size (.cells #[.int .i64 gs, .int .i64 gc, .slice gta gtn gtc] 116)
    go_wp2_with fail
    refine (idone_any _ _ _ _ _ gtx _ (hI.alloc _) hz' (fun w' h' => HT.out w' (bA.trans (h'.mono bA.size)))).mono ?_
    rintro e w1 ⟨rfl, b1⟩
    have hb1 := bA.trans (b1.mono bA.size)
    cases hd : dnOk gs gc gtn gtx
    ·go_wp2
     go_ret
     exact ⟨ret_bool (by rw [dones_is HC.out, dones_no (by rw [HN.out]; exact hlt) (by rw [HG'.out]; exact hd)]), hb1⟩
    ·go_wp2
     go_roundw
     case rel => exact ⟨k + 1, by omega, by go_num, hb1, dones_step (by rw [HN.out]; exact hlt) HA.out (by rw [HG'.out]; exact hd)⟩
     case measure => simp [intOf]; omega
   ·go_wp2
    go_ret
    exact ⟨ret_bool (by rw [dones_is HC.out, dones_end (by rw [HN.out]; omega) HA.out]), hb⟩
 ·have hc' : ((dn : Int) != cl) = true := by simpa using hc
  go_enter Tryz.func34, Tryz.ntmps34
  go_wp2
  go_ret
  exact ⟨ret_bool (by rw [dones_not hc]), B0⟩

set_option maxHeartbeats 12800000 in
theorem sdones_any (cl : Int) (ad : Option Addr) (N cap : Nat) (ga : Option Addr) (gn gc : Nat) (sa : Option Addr) (sn sc : Nat) (da : Option Addr) (dn dc : Nat) (fs : List DV) (w : World) (hN : fs.length = dn) (hF : DSG w da fs) (hz : dn ≤ 1048576) :
  Calls Tryz.prog 67 #[plV cl ad N cap ga gn gc sa sn sc, .slice da dn dc] w fun e w' => e = .returned (.bool (donesB cl dn fs)) ∧ Below w.heap.size w w' := by
 have HN : Hid (fs.length = dn) := hN
 clear hN
 have B0 := (Below.refl w.heap.size w).alloc (Nat.le_refl _) (.cells #[.int .i64 cl, .slice ad N cap, .slice ga gn gc, .slice sa sn sc] 34)
 by_cases hc : (dn : Int) = cl
 ·have hc' : ((dn : Int) != cl) = false := by simpa using hc
  have HC : Hid _ := hc
  clear hc
  go_enter Tryz.func67, Tryz.ntmps67
  go_wp2_with fail
  obtain ⟨W0, hW0⟩ : ∃ W, W = w.alloc (.cells #[.int .i64 cl, .slice ad N cap, .slice ga gn gc, .slice sa sn sc] 34) := ⟨_, rfl⟩
  rw [← hW0] at B0 ⊢
  clear hW0
  go_loopw [5] (fun i wr => ∃ k : Nat, k ≤ dn ∧ i = .int .i64 k ∧ Below w.heap.size w wr ∧ (fs.take k).all DV.ok = true) (fun i _ => dn - (intOf i).toNat)
  case atStart => exact ⟨0, Nat.zero_le _, rfl, B0, rfl⟩
  case round =>
   obtain ⟨k, hk, rfl, hb, hall⟩ := hrel
   have HA : Hid _ := hall
   clear hall
   by_cases hlt : k < dn
   ·obtain ⟨b, off, rfl, hc, hr⟩ := (hF.below hb) k (by rw [HN.out]; exact hlt)
    generalize HG : fs[k]?.getD noD = g at *
    have HG' : Hid (fs[k]?.getD noD = g) := HG
    clear HG hF
    obtain ⟨e0, e1, e2⟩ := cellsD hc
    obtain ⟨gs, gc, ⟨gta, gtn, gtc, gtx⟩⟩ := g
    have e0' : wr.cell? ⟨b, off + k * 3, none⟩ = some (.int .i64 gs) := e0
    have e1' : wr.cell? ⟨b, off + k * 3 + 1, none⟩ = some (.int .i64 gc) := e1
    have e2' : wr.cell? ⟨b, off + k * 3 + 2, none⟩ = some (.slice gta gtn gtc) := e2
    have hI : Ints wr gta gtn gtx := hr.1.1
    have hz' : gtn ≤ 1048576 := hr.1.2
    clear e0 e1 e2 hc hr
    have hlt' : (k : Int) < (dn : Int) := by omega
    have OK : Hid ((fs[k]?.getD noD).ok = dnOk gs gc gtn gtx) := by show _ = _; rw [HG'.out]; rfl
    have NO : Hid (dnOk gs gc gtn gtx = false → donesB cl dn fs = false) := fun hd => by rw [dones_is HC.out, dones_no (by rw [HN.out]; exact hlt) (by rw [OK.out]; exact hd)]
    have YES : Hid (dnOk gs gc gtn gtx = true → (fs.take (k + 1)).all DV.ok = true) := fun hd => dones_step (by rw [HN.out]; exact hlt) HA.out (by rw [OK.out]; exact hd)
    cases h1 : inB gs 0 300
    ·have h1' := inB_not.1 h1
     have ND : Hid (dnOk gs gc gtn gtx = false) := by show _ = _; rw [dn_some (by omega), inB_not.2 (by omega)]; rfl
     clear h1'
     have KP : Hid (∀ W, Below wr.heap.size wr W → W.cell? ⟨b, off + k * 3, none⟩ = some (.int .i64 gs) ∧ W.cell? ⟨b, off + k * 3 + 1, none⟩ = some (.int .i64 gc) ∧ W.cell? ⟨b, off + k * 3 + 2, none⟩ = some (.slice gta gtn gtc)) := fun W hW => ⟨(hW.cell (p := ⟨b, off + k * 3, none⟩) (block_lt e0')).trans e0', (hW.cell (p := ⟨b, off + k * 3 + 1, none⟩) (block_lt e1')).trans e1', (hW.cell (p := ⟨b, off + k * 3 + 2, none⟩) (block_lt e2')).trans e2'⟩
     have hSS := And.intro (KP.out _ (Below.refl _ _).drew) True.intro
     clear e0' e1' e2'
     go_upto_region 6 with fail
     refine wp_region_ends (fun w' => w'.cell? ⟨b, off + k * 3, none⟩ = some (.int .i64 gs) ∧ w'.cell? ⟨b, off + k * 3 + 1, none⟩ = some (.int .i64 gc) ∧ w'.cell? ⟨b, off + k * 3 + 2, none⟩ = some (.slice gta gtn gtc)) (fun _ => True) 57 (by kernel_rfl) ?_
     refine wpAnyE_take0 (i := 0) (v := ?av0) rfl (by kernel_rfl) (by kernel_rfl) (by kernel_rfl) (by decide) (fun _ _ _ h => h) (Or.inl ⟨by rfl, ?ahy0⟩) hSS ?_
     case ahy0 => (intro wz hSw; (try dsimp only at hSw); go_simp; try (with_reducible rfl))
     refine wpAnyE_take0 (i := 1) (v := ?av1) rfl (by kernel_rfl) (by kernel_rfl) (by kernel_rfl) (by decide) (fun _ _ _ h => h) (Or.inl ⟨by rfl, ?ahy1⟩) hSS ?_
     case ahy1 => (intro wz hSw; (try dsimp only at hSw); go_simp; try (with_reducible rfl))
     refine wpAnyE_take0 (i := 2) (v := ?av2) rfl (by kernel_rfl) (by kernel_rfl) (by kernel_rfl) (by decide) (fun _ _ _ h => h) (Or.inl ⟨by rfl, ?ahy2⟩) hSS ?_
     case ahy2 => (intro wz hSw; (try dsimp only at hSw); go_simp; try (with_reducible rfl))
     refine wpAnyE_take0 (i := 3) (v := ?av3) rfl (by kernel_rfl) (by kernel_rfl) (by kernel_rfl) (by decide) (fun _ _ _ h => h) (Or.inl ⟨by rfl, ?ahy3⟩) hSS ?_
     case ahy3 => (intro wz hSw; (try dsimp only at hSw); go_simp; try (with_reducible rfl))
     simp only [Act.put, List.setIfInBounds_toArray, List.set_cons_succ, List.set_cons_zero, List.getElem_toArray, List.getElem_cons_succ, List.getElem_cons_zero]
     refine wpAnyE_take0 (i := 4) (v := ?av4) rfl (by kernel_rfl) (by kernel_rfl) (by kernel_rfl) (by decide) (fun _ _ _ h => h) (Or.inl ⟨by rfl, ?ahy4⟩) hSS ?_
     case ahy4 => (intro wz hSw; (try dsimp only at hSw); go_simp; try (with_reducible rfl))
     refine wpAnyE_one (i := 5) (by kernel_rfl) rfl (fun K hK => ?_)
     go_simp
     refine (in_any _ _ _ _).mono ?_
     rintro ee wq ⟨rfl, rfl⟩
     rw [h1]
     (try dsimp only)
     refine hK.out _ _ ⟨hSS.1, fun _ => trivial⟩ ?_
     clear hK K
     refine wpAnyE_take0 (i := 6) (v := ?av6) rfl (by kernel_rfl) (by kernel_rfl) (by kernel_rfl) (by decide) (fun _ _ _ h => h) (Or.inl ⟨by rfl, ?ahy6⟩) hSS ?_
     case ahy6 => (intro wz hSw; (try dsimp only at hSw); go_simp; try (with_reducible rfl))
     refine wpAnyE_take0 (i := 7) (v := ?av7) rfl (by kernel_rfl) (by kernel_rfl) (by kernel_rfl) (by decide) (fun _ _ _ h => h) (Or.inl ⟨by rfl, ?ahy7⟩) hSS ?_
     case ahy7 => (intro wz hSw; (try dsimp only at hSw); go_simp; try (with_reducible rfl))
     refine wpAnyE_take0 (i := 8) (v := undef) rfl (by kernel_rfl) (by kernel_rfl) (by kernel_rfl) (by decide) (fun _ _ _ h => h) (Or.inr ⟨by kernel_rfl, rfl⟩) hSS ?_
     refine wpAnyE_take0 (i := 9) (v := undef) rfl (by kernel_rfl) (by kernel_rfl) (by kernel_rfl) (by decide) (fun _ _ _ h => h) (Or.inr ⟨by kernel_rfl, rfl⟩) hSS ?_
     simp only [Act.put, List.setIfInBounds_toArray, List.set_cons_succ, List.set_cons_zero, List.getElem_toArray, List.getElem_cons_succ, List.getElem_cons_zero]
     refine wpAnyE_take0 (i := 10) (v := undef) rfl (by kernel_rfl) (by kernel_rfl) (by kernel_rfl) (by decide) (fun _ _ _ h => h) (Or.inr ⟨by kernel_rfl, rfl⟩) hSS ?_
     refine wpAnyE_take0 (i := 11) (v := undef) rfl (by kernel_rfl) (by kernel_rfl) (by kernel_rfl) (by decide) (fun _ _ _ h => h) (Or.inr ⟨by kernel_rfl, rfl⟩) hSS ?_
     refine wpAnyE_take0 (i := 12) (v := undef) rfl (by kernel_rfl) (by kernel_rfl) (by kernel_rfl) (by decide) (fun _ _ _ h => h) (Or.inr ⟨by kernel_rfl, rfl⟩) hSS ?_
     refine wpAnyE_take0 (i := 13) (v := undef) rfl (by kernel_rfl) (by kernel_rfl) (by kernel_rfl) (by decide) (fun _ _ _ h => h) (Or.inr ⟨by kernel_rfl, rfl⟩) hSS ?_
     simp only [Act.put, List.setIfInBounds_toArray, List.set_cons_succ, List.set_cons_zero, List.getElem_toArray, List.getElem_cons_succ, List.getElem_cons_zero]
     refine wpAnyE_take0 (i := 14) (v := undef) rfl (by kernel_rfl) (by kernel_rfl) (by kernel_rfl) (by decide) (fun _ _ _ h => h) (Or.inr ⟨by kernel_rfl, rfl⟩) hSS ?_
     refine wpAnyE_take0 (i := 15) (v := undef) rfl (by kernel_rfl) (by kernel_rfl) (by kernel_rfl) (by decide) (fun _ _ _ h => h) (Or.inr ⟨by kernel_rfl, rfl⟩) hSS ?_
     refine wpAnyE_take0 (i := 16) (v := undef) rfl (by kernel_rfl) (by kernel_rfl) (by kernel_rfl) (by decide) (fun _ _ _ h => h) (Or.inr ⟨by kernel_rfl, rfl⟩) hSS ?_
     refine wpAnyE_take0 (i := 17) (v := undef) rfl (by kernel_rfl) (by kernel_rfl) (by kernel_rfl) (by decide) (fun _ _ _ h => h) (Or.inr ⟨by kernel_rfl, rfl⟩) hSS ?_
     simp only [Act.put, List.setIfInBounds_toArray, List.set_cons_succ, List.set_cons_zero, List.getElem_toArray, List.getElem_cons_succ, List.getElem_cons_zero]
     refine wpAnyE_take0 (i := 18) (v := undef) rfl (by kernel_rfl) (by kernel_rfl) (by kernel_rfl) (by decide) (fun _ _ _ h => h) (Or.inr ⟨by kernel_rfl, rfl⟩) hSS ?_
     refine wpAnyE_take0 (i := 19) (v := undef) rfl (by kernel_rfl) (by kernel_rfl) (by kernel_rfl) (by decide) (fun _ _ _ h => h) (Or.inr ⟨by kernel_rfl, rfl⟩) hSS ?_
     refine wpAnyE_take0 (i := 20) (v := undef) rfl (by kernel_rfl) (by kernel_rfl) (by kernel_rfl) (by decide) (fun _ _ _ h => h) (Or.inr ⟨by kernel_rfl, rfl⟩) hSS ?_
     refine wpAnyE_take0 (i := 21) (v := undef) rfl (by kernel_rfl) (by kernel_rfl) (by kernel_rfl) (by decide) (fun _ _ _ h => h) (Or.inr ⟨by kernel_rfl, rfl⟩) hSS ?_
     simp only [Act.put, List.setIfInBounds_toArray, List.set_cons_succ, List.set_cons_zero, List.getElem_toArray, List.getElem_cons_succ, List.getElem_cons_zero]
     refine wpAnyE_take0 (i := 22) (v := ?av22) rfl (by kernel_rfl) (by kernel_rfl) (by kernel_rfl) (by decide) (fun _ _ _ h => h) (Or.inl ⟨by rfl, ?ahy22⟩) hSS ?_
     case ahy22 => (intro wz hSw; (try dsimp only at hSw); go_simp; try (with_reducible rfl))
     refine wpAnyE_take0 (i := 23) (v := ?av23) rfl (by kernel_rfl) (by kernel_rfl) (by kernel_rfl) (by decide) (fun _ _ _ h => h) (Or.inl ⟨by rfl, ?ahy23⟩) hSS ?_
     case ahy23 => (intro wz hSw; (try dsimp only at hSw); go_simp; try (with_reducible rfl))
     refine wpAnyE_take0 (i := 24) (v := undef) rfl (by kernel_rfl) (by kernel_rfl) (by kernel_rfl) (by decide) (fun _ _ _ h => h) (Or.inr ⟨by kernel_rfl, rfl⟩) hSS ?_
     refine wpAnyE_take0 (i := 25) (v := undef) rfl (by kernel_rfl) (by kernel_rfl) (by kernel_rfl) (by decide) (fun _ _ _ h => h) (Or.inr ⟨by kernel_rfl, rfl⟩) hSS ?_
     simp only [Act.put, List.setIfInBounds_toArray, List.set_cons_succ, List.set_cons_zero, List.getElem_toArray, List.getElem_cons_succ, List.getElem_cons_zero]
     refine wpAnyE_take0 (i := 26) (v := undef) rfl (by kernel_rfl) (by kernel_rfl) (by kernel_rfl) (by decide) (fun _ _ _ h => h) (Or.inr ⟨by kernel_rfl, rfl⟩) hSS ?_
     refine wpAnyE_take0 (i := 27) (v := undef) rfl (by kernel_rfl) (by kernel_rfl) (by kernel_rfl) (by decide) (fun _ _ _ h => h) (Or.inr ⟨by kernel_rfl, rfl⟩) hSS ?_
     refine wpAnyE_take0 (i := 28) (v := undef) rfl (by kernel_rfl) (by kernel_rfl) (by kernel_rfl) (by decide) (fun _ _ _ h => h) (Or.inr ⟨by kernel_rfl, rfl⟩) hSS ?_
     refine wpAnyE_take0 (i := 29) (v := undef) rfl (by kernel_rfl) (by kernel_rfl) (by kernel_rfl) (by decide) (fun _ _ _ h => h) (Or.inr ⟨by kernel_rfl, rfl⟩) hSS ?_
     simp only [Act.put, List.setIfInBounds_toArray, List.set_cons_succ, List.set_cons_zero, List.getElem_toArray, List.getElem_cons_succ, List.getElem_cons_zero]
     refine wpAnyE_take0 (i := 30) (v := undef) rfl (by kernel_rfl) (by kernel_rfl) (by kernel_rfl) (by decide) (fun _ _ _ h => h) (Or.inr ⟨by kernel_rfl, rfl⟩) hSS ?_
     refine wpAnyE_take0 (i := 31) (v := undef) rfl (by kernel_rfl) (by kernel_rfl) (by kernel_rfl) (by decide) (fun _ _ _ h => h) (Or.inr ⟨by kernel_rfl, rfl⟩) hSS ?_
     refine wpAnyE_take0 (i := 32) (v := undef) rfl (by kernel_rfl) (by kernel_rfl) (by kernel_rfl) (by decide) (fun _ _ _ h => h) (Or.inr ⟨by kernel_rfl, rfl⟩) hSS ?_
     refine wpAnyE_take0 (i := 33) (v := undef) rfl (by kernel_rfl) (by kernel_rfl) (by kernel_rfl) (by decide) (fun _ _ _ h => h) (Or.inr ⟨by kernel_rfl, rfl⟩) hSS ?_
     simp only [Act.put, List.setIfInBounds_toArray, List.set_cons_succ, List.set_cons_zero, List.getElem_toArray, List.getElem_cons_succ, List.getElem_cons_zero]
     refine wpAnyE_take0 (i := 34) (v := undef) rfl (by kernel_rfl) (by kernel_rfl) (by kernel_rfl) (by decide) (fun _ _ _ h => h) (Or.inr ⟨by kernel_rfl, rfl⟩) hSS ?_
     refine wpAnyE_take0 (i := 35) (v := undef) rfl (by kernel_rfl) (by kernel_rfl) (by kernel_rfl) (by decide) (fun _ _ _ h => h) (Or.inr ⟨by kernel_rfl, rfl⟩) hSS ?_
     refine wpAnyE_take0 (i := 36) (v := undef) rfl (by kernel_rfl) (by kernel_rfl) (by kernel_rfl) (by decide) (fun _ _ _ h => h) (Or.inr ⟨by kernel_rfl, rfl⟩) hSS ?_
     refine wpAnyE_take0 (i := 37) (v := undef) rfl (by kernel_rfl) (by kernel_rfl) (by kernel_rfl) (by decide) (fun _ _ _ h => h) (Or.inr ⟨by kernel_rfl, rfl⟩) hSS ?_
     simp only [Act.put, List.setIfInBounds_toArray, List.set_cons_succ, List.set_cons_zero, List.getElem_toArray, List.getElem_cons_succ, List.getElem_cons_zero]
     refine wpAnyE_take0 (i := 38) (v := undef) rfl (by kernel_rfl) (by kernel_rfl) (by kernel_rfl) (by decide) (fun _ _ _ h => h) (Or.inr ⟨by kernel_rfl, rfl⟩) hSS ?_
     refine wpAnyE_take0 (i := 39) (v := undef) rfl (by kernel_rfl) (by kernel_rfl) (by kernel_rfl) (by decide) (fun _ _ _ h => h) (Or.inr ⟨by kernel_rfl, rfl⟩) hSS ?_
     refine wpAnyE_take0 (i := 40) (v := ?av40) rfl (by kernel_rfl) (by kernel_rfl) (by kernel_rfl) (by decide) (fun _ _ _ h => h) (Or.inl ⟨by rfl, ?ahy40⟩) hSS ?_
     case ahy40 => (intro wz hSw; (try dsimp only at hSw); go_simp; try (with_reducible rfl))
     refine wpAnyE_take0 (i := 41) (v := ?av41) rfl (by kernel_rfl) (by kernel_rfl) (by kernel_rfl) (by decide) (fun _ _ _ h => h) (Or.inl ⟨by rfl, ?ahy41⟩) hSS ?_
     case ahy41 => (intro wz hSw; (try dsimp only at hSw); go_simp; try (with_reducible rfl))
     simp only [Act.put, List.setIfInBounds_toArray, List.set_cons_succ, List.set_cons_zero, List.getElem_toArray, List.getElem_cons_succ, List.getElem_cons_zero]
     refine wpAnyE_take0 (i := 42) (v := undef) rfl (by kernel_rfl) (by kernel_rfl) (by kernel_rfl) (by decide) (fun _ _ _ h => h) (Or.inr ⟨by kernel_rfl, rfl⟩) hSS ?_
     refine wpAnyE_take0 (i := 43) (v := undef) rfl (by kernel_rfl) (by kernel_rfl) (by kernel_rfl) (by decide) (fun _ _ _ h => h) (Or.inr ⟨by kernel_rfl, rfl⟩) hSS ?_
     refine wpAnyE_take0 (i := 44) (v := undef) rfl (by kernel_rfl) (by kernel_rfl) (by kernel_rfl) (by decide) (fun _ _ _ h => h) (Or.inr ⟨by kernel_rfl, rfl⟩) hSS ?_
     refine wpAnyE_take0 (i := 45) (v := undef) rfl (by kernel_rfl) (by kernel_rfl) (by kernel_rfl) (by decide) (fun _ _ _ h => h) (Or.inr ⟨by kernel_rfl, rfl⟩) hSS ?_
     simp only [Act.put, List.setIfInBounds_toArray, List.set_cons_succ, List.set_cons_zero, List.getElem_toArray, List.getElem_cons_succ, List.getElem_cons_zero]
     refine wpAnyE_take0 (i := 46) (v := undef) rfl (by kernel_rfl) (by kernel_rfl) (by kernel_rfl) (by decide) (fun _ _ _ h => h) (Or.inr ⟨by kernel_rfl, rfl⟩) hSS ?_
     refine wpAnyE_take0 (i := 47) (v := undef) rfl (by kernel_rfl) (by kernel_rfl) (by kernel_rfl) (by decide) (fun _ _ _ h => h) (Or.inr ⟨by kernel_rfl, rfl⟩) hSS ?_
     refine wpAnyE_take0 (i := 48) (v := undef) rfl (by kernel_rfl) (by kernel_rfl) (by kernel_rfl) (by decide) (fun _ _ _ h => h) (Or.inr ⟨by kernel_rfl, rfl⟩) hSS ?_
     refine wpAnyE_take0 (i := 49) (v := undef) rfl (by kernel_rfl) (by kernel_rfl) (by kernel_rfl) (by decide) (fun _ _ _ h => h) (Or.inr ⟨by kernel_rfl, rfl⟩) hSS ?_
     simp only [Act.put, List.setIfInBounds_toArray, List.set_cons_succ, List.set_cons_zero, List.getElem_toArray, List.getElem_cons_succ, List.getElem_cons_zero]
     refine wpAnyE_take0 (i := 50) (v := undef) rfl (by kernel_rfl) (by kernel_rfl) (by kernel_rfl) (by decide) (fun _ _ _ h => h) (Or.inr ⟨by kernel_rfl, rfl⟩) hSS ?_
     refine wpAnyE_take0 (i := 51) (v := undef) rfl (by kernel_rfl) (by kernel_rfl) (by kernel_rfl) (by decide) (fun _ _ _ h => h) (Or.inr ⟨by kernel_rfl, rfl⟩) hSS ?_
     refine wpAnyE_take0 (i := 52) (v := undef) rfl (by kernel_rfl) (by kernel_rfl) (by kernel_rfl) (by decide) (fun _ _ _ h => h) (Or.inr ⟨by kernel_rfl, rfl⟩) hSS ?_
     refine wpAnyE_take0 (i := 53) (v := undef) rfl (by kernel_rfl) (by kernel_rfl) (by kernel_rfl) (by decide) (fun _ _ _ h => h) (Or.inr ⟨by kernel_rfl, rfl⟩) hSS ?_
     simp only [Act.put, List.setIfInBounds_toArray, List.set_cons_succ, List.set_cons_zero, List.getElem_toArray, List.getElem_cons_succ, List.getElem_cons_zero]
     refine wpAnyE_take0 (i := 54) (v := undef) rfl (by kernel_rfl) (by kernel_rfl) (by kernel_rfl) (by decide) (fun _ _ _ h => h) (Or.inr ⟨by kernel_rfl, rfl⟩) hSS ?_
     refine wpAnyE_take0 (i := 55) (v := undef) rfl (by kernel_rfl) (by kernel_rfl) (by kernel_rfl) (by decide) (fun _ _ _ h => h) (Or.inr ⟨by kernel_rfl, rfl⟩) hSS ?_
     refine wpAnyE_take0 (i := 56) (v := undef) rfl (by kernel_rfl) (by kernel_rfl) (by kernel_rfl) (by decide) (fun _ _ _ h => h) (Or.inr ⟨by kernel_rfl, rfl⟩) hSS ?_
     refine wpAnyE_one (i := 57) (by kernel_rfl) rfl (fun K hK => ?_)
     go_simp
     refine hK.out _ _ ⟨hSS.1, fun _ => trivial⟩ ?_
     clear hK K
     refine wpAnyE_done (by kernel_rfl) ?_ _
     clear hSS
     go_wp2
     go_ret
     exact ⟨ret_bool (by rw [NO.out ND.out]), hb.drew⟩
    ·have h1' := inB_iff.1 h1
     by_cases hs : gs = 0
     ·subst hs
      by_cases hcd : gc = 0
      ·subst hcd
       by_cases hn : gtn = 0
       ·have ND : Hid (dnOk 0 0 gtn gtx = true) := by show _ = _; rw [dn_zero]; simp [hn]
        have hn3 : decide (0 < gtn) = false := by simp [hn]
        have hn4 : decide ((0 : Int) < (gtn : Int)) = false := by simp [hn]
        clear hn
        have KP : Hid (∀ W, Below wr.heap.size wr W → W.cell? ⟨b, off + k * 3, none⟩ = some (.int .i64 0) ∧ W.cell? ⟨b, off + k * 3 + 1, none⟩ = some (.int .i64 0) ∧ W.cell? ⟨b, off + k * 3 + 2, none⟩ = some (.slice gta gtn gtc)) := fun W hW => ⟨(hW.cell (p := ⟨b, off + k * 3, none⟩) (block_lt e0')).trans e0', (hW.cell (p := ⟨b, off + k * 3 + 1, none⟩) (block_lt e1')).trans e1', (hW.cell (p := ⟨b, off + k * 3 + 2, none⟩) (block_lt e2')).trans e2'⟩
        have hSS := And.intro (KP.out _ (Below.refl _ _).drew) True.intro
        clear e0' e1' e2'
        go_upto_region 6 with fail
        refine wp_region_ends (fun w' => w'.cell? ⟨b, off + k * 3, none⟩ = some (.int .i64 0) ∧ w'.cell? ⟨b, off + k * 3 + 1, none⟩ = some (.int .i64 0) ∧ w'.cell? ⟨b, off + k * 3 + 2, none⟩ = some (.slice gta gtn gtc)) (fun _ => True) 57 (by kernel_rfl) ?_
        refine wpAnyE_take0 (i := 0) (v := ?bv0) rfl (by kernel_rfl) (by kernel_rfl) (by kernel_rfl) (by decide) (fun _ _ _ h => h) (Or.inl ⟨by rfl, ?bhy0⟩) hSS ?_
        case bhy0 => (intro wz hSw; (try dsimp only at hSw); go_simp; try (with_reducible rfl))
        refine wpAnyE_take0 (i := 1) (v := ?bv1) rfl (by kernel_rfl) (by kernel_rfl) (by kernel_rfl) (by decide) (fun _ _ _ h => h) (Or.inl ⟨by rfl, ?bhy1⟩) hSS ?_
        case bhy1 => (intro wz hSw; (try dsimp only at hSw); go_simp; try (with_reducible rfl))
        refine wpAnyE_take0 (i := 2) (v := ?bv2) rfl (by kernel_rfl) (by kernel_rfl) (by kernel_rfl) (by decide) (fun _ _ _ h => h) (Or.inl ⟨by rfl, ?bhy2⟩) hSS ?_
        case bhy2 => (intro wz hSw; (try dsimp only at hSw); go_simp; try (with_reducible rfl))
        refine wpAnyE_take0 (i := 3) (v := ?bv3) rfl (by kernel_rfl) (by kernel_rfl) (by kernel_rfl) (by decide) (fun _ _ _ h => h) (Or.inl ⟨by rfl, ?bhy3⟩) hSS ?_
        case bhy3 => (intro wz hSw; (try dsimp only at hSw); go_simp; try (with_reducible rfl))
        simp only [Act.put, List.setIfInBounds_toArray, List.set_cons_succ, List.set_cons_zero, List.getElem_toArray, List.getElem_cons_succ, List.getElem_cons_zero]
        refine wpAnyE_take0 (i := 4) (v := ?bv4) rfl (by kernel_rfl) (by kernel_rfl) (by kernel_rfl) (by decide) (fun _ _ _ h => h) (Or.inl ⟨by rfl, ?bhy4⟩) hSS ?_
        case bhy4 => (intro wz hSw; (try dsimp only at hSw); go_simp; try (with_reducible rfl))
        refine wpAnyE_one (i := 5) (by kernel_rfl) rfl (fun K hK => ?_)
        go_simp
        refine (in_any _ _ _ _).mono ?_
        rintro ee wq ⟨rfl, rfl⟩
        rw [h1]
        (try dsimp only)
        refine hK.out _ _ ⟨hSS.1, fun _ => trivial⟩ ?_
        clear hK K
        refine wpAnyE_take0 (i := 6) (v := ?bv6) rfl (by kernel_rfl) (by kernel_rfl) (by kernel_rfl) (by decide) (fun _ _ _ h => h) (Or.inl ⟨by rfl, ?bhy6⟩) hSS ?_
        case bhy6 => (intro wz hSw; (try dsimp only at hSw); go_simp; try (with_reducible rfl))
        refine wpAnyE_take0 (i := 7) (v := ?bv7) rfl (by kernel_rfl) (by kernel_rfl) (by kernel_rfl) (by decide) (fun _ _ _ h => h) (Or.inl ⟨by rfl, ?bhy7⟩) hSS ?_
        case bhy7 => (intro wz hSw; (try dsimp only at hSw); go_simp; try (with_reducible rfl))
        refine wpAnyE_take0 (i := 8) (v := ?bv8) rfl (by kernel_rfl) (by kernel_rfl) (by kernel_rfl) (by decide) (fun _ _ _ h => h) (Or.inl ⟨by rfl, ?bhy8⟩) hSS ?_
        case bhy8 => (intro wz hSw; (try dsimp only at hSw); go_simp; try (with_reducible rfl))
        refine wpAnyE_take0 (i := 9) (v := ?bv9) rfl (by kernel_rfl) (by kernel_rfl) (by kernel_rfl) (by decide) (fun _ _ _ h => h) (Or.inl ⟨by rfl, ?bhy9⟩) hSS ?_
        case bhy9 => (intro wz hSw; (try dsimp only at hSw); go_simp; try (with_reducible rfl))
        simp only [Act.put, List.setIfInBounds_toArray, List.set_cons_succ, List.set_cons_zero, List.getElem_toArray, List.getElem_cons_succ, List.getElem_cons_zero]
        refine wpAnyE_take0 (i := 10) (v := ?bv10) rfl (by kernel_rfl) (by kernel_rfl) (by kernel_rfl) (by decide) (fun _ _ _ h => h) (Or.inl ⟨by rfl, ?bhy10⟩) hSS ?_
        case bhy10 => (intro wz hSw; (try dsimp only at hSw); go_simp; try (with_reducible rfl))
        refine wpAnyE_take0 (i := 11) (v := ?bv11) rfl (by kernel_rfl) (by kernel_rfl) (by kernel_rfl) (by decide) (fun _ _ _ h => h) (Or.inl ⟨by rfl, ?bhy11⟩) hSS ?_
        case bhy11 => (intro wz hSw; (try dsimp only at hSw); go_simp; try (with_reducible rfl))
        refine wpAnyE_take0 (i := 12) (v := ?bv12) rfl (by kernel_rfl) (by kernel_rfl) (by kernel_rfl) (by decide) (fun _ _ _ h => h) (Or.inl ⟨by rfl, ?bhy12⟩) hSS ?_
        case bhy12 => (intro wz hSw; (try dsimp only at hSw); go_simp; try (with_reducible rfl))
        refine wpAnyE_take0 (i := 13) (v := ?bv13) rfl (by kernel_rfl) (by kernel_rfl) (by kernel_rfl) (by decide) (fun _ _ _ h => h) (Or.inl ⟨by rfl, ?bhy13⟩) hSS ?_
        case bhy13 => (intro wz hSw; (try dsimp only at hSw); go_simp; try (with_reducible rfl))
        simp only [Act.put, List.setIfInBounds_toArray, List.set_cons_succ, List.set_cons_zero, List.getElem_toArray, List.getElem_cons_succ, List.getElem_cons_zero]
        refine wpAnyE_take0 (i := 14) (v := ?bv14) rfl (by kernel_rfl) (by kernel_rfl) (by kernel_rfl) (by decide) (fun _ _ _ h => h) (Or.inl ⟨by rfl, ?bhy14⟩) hSS ?_
        case bhy14 => (intro wz hSw; (try dsimp only at hSw); go_simp; try (with_reducible rfl))
        refine wpAnyE_take0 (i := 15) (v := ?bv15) rfl (by kernel_rfl) (by kernel_rfl) (by kernel_rfl) (by decide) (fun _ _ _ h => h) (Or.inl ⟨by rfl, ?bhy15⟩) hSS ?_
        case bhy15 => (intro wz hSw; (try dsimp only at hSw); go_simp; try (with_reducible rfl))
        refine wpAnyE_take0 (i := 16) (v := ?bv16) rfl (by kernel_rfl) (by kernel_rfl) (by kernel_rfl) (by decide) (fun _ _ _ h => h) (Or.inl ⟨by rfl, ?bhy16⟩) hSS ?_
        case bhy16 => (intro wz hSw; (try dsimp only at hSw); go_simp; try (with_reducible rfl))
        refine wpAnyE_take0 (i := 17) (v := ?bv17) rfl (by kernel_rfl) (by kernel_rfl) (by kernel_rfl) (by decide) (fun _ _ _ h => h) (Or.inl ⟨by rfl, ?bhy17⟩) hSS ?_
        case bhy17 => (intro wz hSw; (try dsimp only at hSw); go_simp; try (with_reducible rfl))
        simp only [Act.put, List.setIfInBounds_toArray, List.set_cons_succ, List.set_cons_zero, List.getElem_toArray, List.getElem_cons_succ, List.getElem_cons_zero]
        refine wpAnyE_take0 (i := 18) (v := ?bv18) rfl (by kernel_rfl) (by kernel_rfl) (by kernel_rfl) (by decide) (fun _ _ _ h => h) (Or.inl ⟨by rfl, ?bhy18⟩) hSS ?_
        case bhy18 => (intro wz hSw; (try dsimp only at hSw); go_simp; try (with_reducible rfl))
        refine wpAnyE_take0 (i := 19) (v := ?bv19) rfl (by kernel_rfl) (by kernel_rfl) (by kernel_rfl) (by decide) (fun _ _ _ h => h) (Or.inl ⟨by rfl, ?bhy19⟩) hSS ?_
        case bhy19 => (intro wz hSw; (try dsimp only at hSw); go_simp; try (with_reducible rfl))
        refine wpAnyE_take0 (i := 20) (v := ?bv20) rfl (by kernel_rfl) (by kernel_rfl) (by kernel_rfl) (by decide) (fun _ _ _ h => h) (Or.inl ⟨by rfl, ?bhy20⟩) hSS ?_
        case bhy20 => (intro wz hSw; (try dsimp only at hSw); go_simp; try (with_reducible rfl))
        refine wpAnyE_take0 (i := 21) (v := ?bv21) rfl (by kernel_rfl) (by kernel_rfl) (by kernel_rfl) (by decide) (fun _ _ _ h => h) (Or.inl ⟨by rfl, ?bhy21⟩) hSS ?_
        case bhy21 => (intro wz hSw; (try dsimp only at hSw); go_simp; try (with_reducible rfl))
        simp only [Act.put, List.setIfInBounds_toArray, List.set_cons_succ, List.set_cons_zero, List.getElem_toArray, List.getElem_cons_succ, List.getElem_cons_zero]
        refine wpAnyE_take0 (i := 22) (v := ?bv22) rfl (by kernel_rfl) (by kernel_rfl) (by kernel_rfl) (by decide) (fun _ _ _ h => h) (Or.inl ⟨by rfl, ?bhy22⟩) hSS ?_
        case bhy22 => (intro wz hSw; (try dsimp only at hSw); go_simp; try (with_reducible rfl))
        refine wpAnyE_take0 (i := 23) (v := ?bv23) rfl (by kernel_rfl) (by kernel_rfl) (by kernel_rfl) (by decide) (fun _ _ _ h => h) (Or.inl ⟨by rfl, ?bhy23⟩) hSS ?_
        case bhy23 => (intro wz hSw; (try dsimp only at hSw); go_simp; try (with_reducible rfl))
        refine wpAnyE_take0 (i := 24) (v := ?bv24) rfl (by kernel_rfl) (by kernel_rfl) (by kernel_rfl) (by decide) (fun _ _ _ h => h) (Or.inl ⟨by rfl, ?bhy24⟩) hSS ?_
        case bhy24 => (intro wz hSw; (try dsimp only at hSw); go_simp; try (with_reducible rfl))
        refine wpAnyE_take0 (i := 25) (v := ?bv25) rfl (by kernel_rfl) (by kernel_rfl) (by kernel_rfl) (by decide) (fun _ _ _ h => h) (Or.inl ⟨by rfl, ?bhy25⟩) hSS ?_
        case bhy25 => (intro wz hSw; (try dsimp only at hSw); go_simp; try (with_reducible rfl))
        simp only [Act.put, List.setIfInBounds_toArray, List.set_cons_succ, List.set_cons_zero, List.getElem_toArray, List.getElem_cons_succ, List.getElem_cons_zero]
        refine wpAnyE_take0 (i := 26) (v := ?bv26) rfl (by kernel_rfl) (by kernel_rfl) (by kernel_rfl) (by decide) (fun _ _ _ h => h) (Or.inl ⟨by rfl, ?bhy26⟩) hSS ?_
        case bhy26 => (intro wz hSw; (try dsimp only at hSw); go_simp; try (with_reducible rfl))
        refine wpAnyE_take0 (i := 27) (v := ?bv27) rfl (by kernel_rfl) (by kernel_rfl) (by kernel_rfl) (by decide) (fun _ _ _ h => h) (Or.inl ⟨by rfl, ?bhy27⟩) hSS ?_
        case bhy27 => (intro wz hSw; (try dsimp only at hSw); go_simp; try (with_reducible rfl))
        refine wpAnyE_take0 (i := 28) (v := ?bv28) rfl (by kernel_rfl) (by kernel_rfl) (by kernel_rfl) (by decide) (fun _ _ _ h => h) (Or.inl ⟨by rfl, ?bhy28⟩) hSS ?_
        case bhy28 => (intro wz hSw; (try dsimp only at hSw); go_simp; try (with_reducible rfl))
        refine wpAnyE_take0 (i := 29) (v := ?bv29) rfl (by kernel_rfl) (by kernel_rfl) (by kernel_rfl) (by decide) (fun _ _ _ h => h) (Or.inl ⟨by rfl, ?bhy29⟩) hSS ?_
        case bhy29 => (intro wz hSw; (try dsimp only at hSw); go_simp; try (with_reducible rfl))
        simp only [Act.put, List.setIfInBounds_toArray, List.set_cons_succ, List.set_cons_zero, List.getElem_toArray, List.getElem_cons_succ, List.getElem_cons_zero]
        refine wpAnyE_take0 (i := 30) (v := ?bv30) rfl (by kernel_rfl) (by kernel_rfl) (by kernel_rfl) (by decide) (fun _ _ _ h => h) (Or.inl ⟨by rfl, ?bhy30⟩) hSS ?_
        case bhy30 => (intro wz hSw; (try dsimp only at hSw); go_simp; try (with_reducible rfl))
        refine wpAnyE_take0 (i := 31) (v := ?bv31) rfl (by kernel_rfl) (by kernel_rfl) (by kernel_rfl) (by decide) (fun _ _ _ h => h) (Or.inl ⟨by rfl, ?bhy31⟩) hSS ?_
        case bhy31 => (intro wz hSw; (try dsimp only at hSw); go_simp; try (with_reducible rfl))
        refine wpAnyE_take0 (i := 32) (v := ?bv32) rfl (by kernel_rfl) (by kernel_rfl) (by kernel_rfl) (by decide) (fun _ _ _ h => h) (Or.inl ⟨by rfl, ?bhy32⟩) hSS ?_
        case bhy32 => (intro wz hSw; (try dsimp only at hSw); go_simp; try (with_reducible rfl))
        refine wpAnyE_take0 (i := 33) (v := ?bv33) rfl (by kernel_rfl) (by kernel_rfl) (by kernel_rfl) (by decide) (fun _ _ _ h => h) (Or.inl ⟨by rfl, ?bhy33⟩) hSS ?_
        case bhy33 => (intro wz hSw; (try dsimp only at hSw); go_simp; try (with_reducible rfl))
        simp only [Act.put, List.setIfInBounds_toArray, List.set_cons_succ, List.set_cons_zero, List.getElem_toArray, List.getElem_cons_succ, List.getElem_cons_zero]
        refine wpAnyE_take0 (i := 34) (v := ?bv34) rfl (by kernel_rfl) (by kernel_rfl) (by kernel_rfl) (by decide) (fun _ _ _ h => h) (Or.inl ⟨by rfl, ?bhy34⟩) hSS ?_
        case bhy34 => (intro wz hSw; (try dsimp only at hSw); go_simp; try (with_reducible rfl))
        refine wpAnyE_take0 (i := 35) (v := ?bv35) rfl (by kernel_rfl) (by kernel_rfl) (by kernel_rfl) (by decide) (fun _ _ _ h => h) (Or.inl ⟨by rfl, ?bhy35⟩) hSS ?_
        case bhy35 => (intro wz hSw; (try dsimp only at hSw); go_simp; try (with_reducible rfl))
        refine wpAnyE_take0 (i := 36) (v := ?bv36) rfl (by kernel_rfl) (by kernel_rfl) (by kernel_rfl) (by decide) (fun _ _ _ h => h) (Or.inl ⟨by rfl, ?bhy36⟩) hSS ?_
        case bhy36 => (intro wz hSw; (try dsimp only at hSw); go_simp; try (with_reducible rfl))
        refine wpAnyE_one (i := 37) (by kernel_rfl) rfl (fun K hK => ?_)
        go_simp
        refine hK.out _ _ ⟨hSS.1, fun _ => trivial⟩ ?_
        clear hK K
        refine wpAnyE_take0 (i := 38) (v := ?bv38) rfl (by kernel_rfl) (by kernel_rfl) (by kernel_rfl) (by decide) (fun _ _ _ h => h) (Or.inl ⟨by rfl, ?bhy38⟩) hSS ?_
        case bhy38 => (intro wz hSw; (try dsimp only at hSw); go_simp; try (with_reducible rfl))
        refine wpAnyE_take0 (i := 39) (v := ?bv39) rfl (by kernel_rfl) (by kernel_rfl) (by kernel_rfl) (by decide) (fun _ _ _ h => h) (Or.inl ⟨by rfl, ?bhy39⟩) hSS ?_
        case bhy39 => (intro wz hSw; (try dsimp only at hSw); go_simp; try (with_reducible rfl))
        refine wpAnyE_take0 (i := 40) (v := ?bv40) rfl (by kernel_rfl) (by kernel_rfl) (by kernel_rfl) (by decide) (fun _ _ _ h => h) (Or.inl ⟨by rfl, ?bhy40⟩) hSS ?_
        case bhy40 => (intro wz hSw; (try dsimp only at hSw); go_simp; try (with_reducible rfl))
        refine wpAnyE_take0 (i := 41) (v := ?bv41) rfl (by kernel_rfl) (by kernel_rfl) (by kernel_rfl) (by decide) (fun _ _ _ h => h) (Or.inl ⟨by rfl, ?bhy41⟩) hSS ?_
        case bhy41 => (intro wz hSw; (try dsimp only at hSw); go_simp; try (with_reducible rfl))
        simp only [Act.put, List.setIfInBounds_toArray, List.set_cons_succ, List.set_cons_zero, List.getElem_toArray, List.getElem_cons_succ, List.getElem_cons_zero]
        refine wpAnyE_take0 (i := 42) (v := ?bv42) rfl (by kernel_rfl) (by kernel_rfl) (by kernel_rfl) (by decide) (fun _ _ _ h => h) (Or.inl ⟨by rfl, ?bhy42⟩) hSS ?_
        case bhy42 => (intro wz hSw; (try dsimp only at hSw); go_simp; try (with_reducible rfl))
        refine wpAnyE_take0 (i := 43) (v := ?bv43) rfl (by kernel_rfl) (by kernel_rfl) (by kernel_rfl) (by decide) (fun _ _ _ h => h) (Or.inl ⟨by rfl, ?bhy43⟩) hSS ?_
        case bhy43 => (intro wz hSw; (try dsimp only at hSw); go_simp; try (with_reducible rfl))
        refine wpAnyE_take0 (i := 44) (v := ?bv44) rfl (by kernel_rfl) (by kernel_rfl) (by kernel_rfl) (by decide) (fun _ _ _ h => h) (Or.inl ⟨by rfl, ?bhy44⟩) hSS ?_
        case bhy44 => (intro wz hSw; (try dsimp only at hSw); go_simp; try (with_reducible rfl))
        refine wpAnyE_take0 (i := 45) (v := ?bv45) rfl (by kernel_rfl) (by kernel_rfl) (by kernel_rfl) (by decide) (fun _ _ _ h => h) (Or.inl ⟨by rfl, ?bhy45⟩) hSS ?_
        case bhy45 => (intro wz hSw; (try dsimp only at hSw); go_simp; try (with_reducible rfl))
        simp only [Act.put, List.setIfInBounds_toArray, List.set_cons_succ, List.set_cons_zero, List.getElem_toArray, List.getElem_cons_succ, List.getElem_cons_zero]
        refine wpAnyE_take0 (i := 46) (v := ?bv46) rfl (by kernel_rfl) (by kernel_rfl) (by kernel_rfl) (by decide) (fun _ _ _ h => h) (Or.inl ⟨by rfl, ?bhy46⟩) hSS ?_
        case bhy46 => (intro wz hSw; (try dsimp only at hSw); go_simp; try (with_reducible rfl))
        refine wpAnyE_take0 (i := 47) (v := ?bv47) rfl (by kernel_rfl) (by kernel_rfl) (by kernel_rfl) (by decide) (fun _ _ _ h => h) (Or.inl ⟨by rfl, ?bhy47⟩) hSS ?_
        case bhy47 => (intro wz hSw; (try dsimp only at hSw); go_simp; try (with_reducible rfl))
        refine wpAnyE_take0 (i := 48) (v := ?bv48) rfl (by kernel_rfl) (by kernel_rfl) (by kernel_rfl) (by decide) (fun _ _ _ h => h) (Or.inl ⟨by rfl, ?bhy48⟩) hSS ?_
        case bhy48 => (intro wz hSw; (try dsimp only at hSw); go_simp; try (with_reducible rfl))
        refine wpAnyE_take0 (i := 49) (v := undef) rfl (by kernel_rfl) (by kernel_rfl) (by kernel_rfl) (by decide) (fun _ _ _ h => h) (Or.inr ⟨by kernel_rfl, rfl⟩) hSS ?_
        simp only [Act.put, List.setIfInBounds_toArray, List.set_cons_succ, List.set_cons_zero, List.getElem_toArray, List.getElem_cons_succ, List.getElem_cons_zero]
        refine wpAnyE_take0 (i := 50) (v := undef) rfl (by kernel_rfl) (by kernel_rfl) (by kernel_rfl) (by decide) (fun _ _ _ h => h) (Or.inr ⟨by kernel_rfl, rfl⟩) hSS ?_
        refine wpAnyE_take0 (i := 51) (v := undef) rfl (by kernel_rfl) (by kernel_rfl) (by kernel_rfl) (by decide) (fun _ _ _ h => h) (Or.inr ⟨by kernel_rfl, rfl⟩) hSS ?_
        refine wpAnyE_take0 (i := 52) (v := undef) rfl (by kernel_rfl) (by kernel_rfl) (by kernel_rfl) (by decide) (fun _ _ _ h => h) (Or.inr ⟨by kernel_rfl, rfl⟩) hSS ?_
        refine wpAnyE_take0 (i := 53) (v := undef) rfl (by kernel_rfl) (by kernel_rfl) (by kernel_rfl) (by decide) (fun _ _ _ h => h) (Or.inr ⟨by kernel_rfl, rfl⟩) hSS ?_
        simp only [Act.put, List.setIfInBounds_toArray, List.set_cons_succ, List.set_cons_zero, List.getElem_toArray, List.getElem_cons_succ, List.getElem_cons_zero]
        refine wpAnyE_take0 (i := 54) (v := undef) rfl (by kernel_rfl) (by kernel_rfl) (by kernel_rfl) (by decide) (fun _ _ _ h => h) (Or.inr ⟨by kernel_rfl, rfl⟩) hSS ?_
        refine wpAnyE_take0 (i := 55) (v := undef) rfl (by kernel_rfl) (by kernel_rfl) (by kernel_rfl) (by decide) (fun _ _ _ h => h) (Or.inr ⟨by kernel_rfl, rfl⟩) hSS ?_
        refine wpAnyE_take0 (i := 56) (v := ?bv56) rfl (by kernel_rfl) (by kernel_rfl) (by kernel_rfl) (by decide) (fun _ _ _ h => h) (Or.inl ⟨by rfl, ?bhy56⟩) hSS ?_
        case bhy56 => (intro wz hSw; (try dsimp only at hSw); go_simp; try (with_reducible rfl))
        refine wpAnyE_one (i := 57) (by kernel_rfl) rfl (fun K hK => ?_)
        go_simp
        refine hK.out _ _ ⟨hSS.1, fun _ => trivial⟩ ?_
        clear hK K
        refine wpAnyE_done (by kernel_rfl) ?_ _
        clear hSS
        go_wp2
        go_roundw
        case rel => exact ⟨k + 1, by omega, by go_num, hb.drew, YES.out ND.out⟩
        case measure => simp [intOf]; omega
       ·have ND : Hid (dnOk 0 0 gtn gtx = false) := by show _ = _; rw [dn_zero]; simp [hn]
        have hn3 : decide (0 < gtn) = true := by simp; omega
        have hn4 : decide ((0 : Int) < (gtn : Int)) = true := by simp; omega
        clear hn
        have KP : Hid (∀ W, Below wr.heap.size wr W → W.cell? ⟨b, off + k * 3, none⟩ = some (.int .i64 0) ∧ W.cell? ⟨b, off + k * 3 + 1, none⟩ = some (.int .i64 0) ∧ W.cell? ⟨b, off + k * 3 + 2, none⟩ = some (.slice gta gtn gtc)) := fun W hW => ⟨(hW.cell (p := ⟨b, off + k * 3, none⟩) (block_lt e0')).trans e0', (hW.cell (p := ⟨b, off + k * 3 + 1, none⟩) (block_lt e1')).trans e1', (hW.cell (p := ⟨b, off + k * 3 + 2, none⟩) (block_lt e2')).trans e2'⟩
        have hSS := And.intro (KP.out _ (Below.refl _ _).drew) True.intro
        clear e0' e1' e2'
        go_upto_region 6 with fail
        refine wp_region_ends (fun w' => w'.cell? ⟨b, off + k * 3, none⟩ = some (.int .i64 0) ∧ w'.cell? ⟨b, off + k * 3 + 1, none⟩ = some (.int .i64 0) ∧ w'.cell? ⟨b, off + k * 3 + 2, none⟩ = some (.slice gta gtn gtc)) (fun _ => True) 57 (by kernel_rfl) ?_
        refine wpAnyE_take0 (i := 0) (v := ?cv0) rfl (by kernel_rfl) (by kernel_rfl) (by kernel_rfl) (by decide) (fun _ _ _ h => h) (Or.inl ⟨by rfl, ?chy0⟩) hSS ?_
        case chy0 => (intro wz hSw; (try dsimp only at hSw); go_simp; try (with_reducible rfl))
        refine wpAnyE_take0 (i := 1) (v := ?cv1) rfl (by kernel_rfl) (by kernel_rfl) (by kernel_rfl) (by decide) (fun _ _ _ h => h) (Or.inl ⟨by rfl, ?chy1⟩) hSS ?_
        case chy1 => (intro wz hSw; (try dsimp only at hSw); go_simp; try (with_reducible rfl))
        refine wpAnyE_take0 (i := 2) (v := ?cv2) rfl (by kernel_rfl) (by kernel_rfl) (by kernel_rfl) (by decide) (fun _ _ _ h => h) (Or.inl ⟨by rfl, ?chy2⟩) hSS ?_
        case chy2 => (intro wz hSw; (try dsimp only at hSw); go_simp; try (with_reducible rfl))
        refine wpAnyE_take0 (i := 3) (v := ?cv3) rfl (by kernel_rfl) (by kernel_rfl) (by kernel_rfl) (by decide) (fun _ _ _ h => h) (Or.inl ⟨by rfl, ?chy3⟩) hSS ?_
        case chy3 => (intro wz hSw; (try dsimp only at hSw); go_simp; try (with_reducible rfl))
        simp only [Act.put, List.setIfInBounds_toArray, List.set_cons_succ, List.set_cons_zero, List.getElem_toArray, List.getElem_cons_succ, List.getElem_cons_zero]
        refine wpAnyE_take0 (i := 4) (v := ?cv4) rfl (by kernel_rfl) (by kernel_rfl) (by kernel_rfl) (by decide) (fun _ _ _ h => h) (Or.inl ⟨by rfl, ?chy4⟩) hSS ?_
        case chy4 => (intro wz hSw; (try dsimp only at hSw); go_simp; try (with_reducible rfl))
        refine wpAnyE_one (i := 5) (by kernel_rfl) rfl (fun K hK => ?_)
        go_simp
        refine (in_any _ _ _ _).mono ?_
        rintro ee wq ⟨rfl, rfl⟩
        rw [h1]
        (try dsimp only)
        refine hK.out _ _ ⟨hSS.1, fun _ => trivial⟩ ?_
        clear hK K
        refine wpAnyE_take0 (i := 6) (v := ?cv6) rfl (by kernel_rfl) (by kernel_rfl) (by kernel_rfl) (by decide) (fun _ _ _ h => h) (Or.inl ⟨by rfl, ?chy6⟩) hSS ?_
        case chy6 => (intro wz hSw; (try dsimp only at hSw); go_simp; try (with_reducible rfl))
        refine wpAnyE_take0 (i := 7) (v := ?cv7) rfl (by kernel_rfl) (by kernel_rfl) (by kernel_rfl) (by decide) (fun _ _ _ h => h) (Or.inl ⟨by rfl, ?chy7⟩) hSS ?_
        case chy7 => (intro wz hSw; (try dsimp only at hSw); go_simp; try (with_reducible rfl))
        refine wpAnyE_take0 (i := 8) (v := ?cv8) rfl (by kernel_rfl) (by kernel_rfl) (by kernel_rfl) (by decide) (fun _ _ _ h => h) (Or.inl ⟨by rfl, ?chy8⟩) hSS ?_
        case chy8 => (intro wz hSw; (try dsimp only at hSw); go_simp; try (with_reducible rfl))
        refine wpAnyE_take0 (i := 9) (v := ?cv9) rfl (by kernel_rfl) (by kernel_rfl) (by kernel_rfl) (by decide) (fun _ _ _ h => h) (Or.inl ⟨by rfl, ?chy9⟩) hSS ?_
        case chy9 => (intro wz hSw; (try dsimp only at hSw); go_simp; try (with_reducible rfl))
        simp only [Act.put, List.setIfInBounds_toArray, List.set_cons_succ, List.set_cons_zero, List.getElem_toArray, List.getElem_cons_succ, List.getElem_cons_zero]
        refine wpAnyE_take0 (i := 10) (v := ?cv10) rfl (by kernel_rfl) (by kernel_rfl) (by kernel_rfl) (by decide) (fun _ _ _ h => h) (Or.inl ⟨by rfl, ?chy10⟩) hSS ?_
        case chy10 => (intro wz hSw; (try dsimp only at hSw); go_simp; try (with_reducible rfl))
        refine wpAnyE_take0 (i := 11) (v := ?cv11) rfl (by kernel_rfl) (by kernel_rfl) (by kernel_rfl) (by decide) (fun _ _ _ h => h) (Or.inl ⟨by rfl, ?chy11⟩) hSS ?_
        case chy11 => (intro wz hSw; (try dsimp only at hSw); go_simp; try (with_reducible rfl))
        refine wpAnyE_take0 (i := 12) (v := ?cv12) rfl (by kernel_rfl) (by kernel_rfl) (by kernel_rfl) (by decide) (fun _ _ _ h => h) (Or.inl ⟨by rfl, ?chy12⟩) hSS ?_
        case chy12 => (intro wz hSw; (try dsimp only at hSw); go_simp; try (with_reducible rfl))
        refine wpAnyE_take0 (i := 13) (v := ?cv13) rfl (by kernel_rfl) (by kernel_rfl) (by kernel_rfl) (by decide) (fun _ _ _ h => h) (Or.inl ⟨by rfl, ?chy13⟩) hSS ?_
        case chy13 => (intro wz hSw; (try dsimp only at hSw); go_simp; try (with_reducible rfl))
        simp only [Act.put, List.setIfInBounds_toArray, List.set_cons_succ, List.set_cons_zero, List.getElem_toArray, List.getElem_cons_succ, List.getElem_cons_zero]
        refine wpAnyE_take0 (i := 14) (v := ?cv14) rfl (by kernel_rfl) (by kernel_rfl) (by kernel_rfl) (by decide) (fun _ _ _ h => h) (Or.inl ⟨by rfl, ?chy14⟩) hSS ?_
        case chy14 => (intro wz hSw; (try dsimp only at hSw); go_simp; try (with_reducible rfl))
        refine wpAnyE_take0 (i := 15) (v := ?cv15) rfl (by kernel_rfl) (by kernel_rfl) (by kernel_rfl) (by decide) (fun _ _ _ h => h) (Or.inl ⟨by rfl, ?chy15⟩) hSS ?_
        case chy15 => (intro wz hSw; (try dsimp only at hSw); go_simp; try (with_reducible rfl))
        refine wpAnyE_take0 (i := 16) (v := ?cv16) rfl (by kernel_rfl) (by kernel_rfl) (by kernel_rfl) (by decide) (fun _ _ _ h => h) (Or.inl ⟨by rfl, ?chy16⟩) hSS ?_
        case chy16 => (intro wz hSw; (try dsimp only at hSw); go_simp; try (with_reducible rfl))
        refine wpAnyE_take0 (i := 17) (v := ?cv17) rfl (by kernel_rfl) (by kernel_rfl) (by kernel_rfl) (by decide) (fun _ _ _ h => h) (Or.inl ⟨by rfl, ?chy17⟩) hSS ?_
        case chy17 => (intro wz hSw; (try dsimp only at hSw); go_simp; try (with_reducible rfl))
        simp only [Act.put, List.setIfInBounds_toArray, List.set_cons_succ, List.set_cons_zero, List.getElem_toArray, List.getElem_cons_succ, List.getElem_cons_zero]
        refine wpAnyE_take0 (i := 18) (v := ?cv18) rfl (by kernel_rfl) (by kernel_rfl) (by kernel_rfl) (by decide) (fun _ _ _ h => h) (Or.inl ⟨by rfl, ?chy18⟩) hSS ?_
        case chy18 => (intro wz hSw; (try dsimp only at hSw); go_simp; try (with_reducible rfl))
        refine wpAnyE_take0 (i := 19) (v := ?cv19) rfl (by kernel_rfl) (by kernel_rfl) (by kernel_rfl) (by decide) (fun _ _ _ h => h) (Or.inl ⟨by rfl, ?chy19⟩) hSS ?_
        case chy19 => (intro wz hSw; (try dsimp only at hSw); go_simp; try (with_reducible rfl))
        refine wpAnyE_take0 (i := 20) (v := ?cv20) rfl (by kernel_rfl) (by kernel_rfl) (by kernel_rfl) (by decide) (fun _ _ _ h => h) (Or.inl ⟨by rfl, ?chy20⟩) hSS ?_
        case chy20 => (intro wz hSw; (try dsimp only at hSw); go_simp; try (with_reducible rfl))
        refine wpAnyE_take0 (i := 21) (v := ?cv21) rfl (by kernel_rfl) (by kernel_rfl) (by kernel_rfl) (by decide) (fun _ _ _ h => h) (Or.inl ⟨by rfl, ?chy21⟩) hSS ?_
        case chy21 => (intro wz hSw; (try dsimp only at hSw); go_simp; try (with_reducible rfl))
        simp only [Act.put, List.setIfInBounds_toArray, List.set_cons_succ, List.set_cons_zero, List.getElem_toArray, List.getElem_cons_succ, List.getElem_cons_zero]
        refine wpAnyE_take0 (i := 22) (v := ?cv22) rfl (by kernel_rfl) (by kernel_rfl) (by kernel_rfl) (by decide) (fun _ _ _ h => h) (Or.inl ⟨by rfl, ?chy22⟩) hSS ?_
        case chy22 => (intro wz hSw; (try dsimp only at hSw); go_simp; try (with_reducible rfl))
        refine wpAnyE_take0 (i := 23) (v := ?cv23) rfl (by kernel_rfl) (by kernel_rfl) (by kernel_rfl) (by decide) (fun _ _ _ h => h) (Or.inl ⟨by rfl, ?chy23⟩) hSS ?_
        case chy23 => (intro wz hSw; (try dsimp only at hSw); go_simp; try (with_reducible rfl))
        refine wpAnyE_take0 (i := 24) (v := ?cv24) rfl (by kernel_rfl) (by kernel_rfl) (by kernel_rfl) (by decide) (fun _ _ _ h => h) (Or.inl ⟨by rfl, ?chy24⟩) hSS ?_
        case chy24 => (intro wz hSw; (try dsimp only at hSw); go_simp; try (with_reducible rfl))
        refine wpAnyE_take0 (i := 25) (v := ?cv25) rfl (by kernel_rfl) (by kernel_rfl) (by kernel_rfl) (by decide) (fun _ _ _ h => h) (Or.inl ⟨by rfl, ?chy25⟩) hSS ?_
        case chy25 => (intro wz hSw; (try dsimp only at hSw); go_simp; try (with_reducible rfl))
        simp only [Act.put, List.setIfInBounds_toArray, List.set_cons_succ, List.set_cons_zero, List.getElem_toArray, List.getElem_cons_succ, List.getElem_cons_zero]
        refine wpAnyE_take0 (i := 26) (v := ?cv26) rfl (by kernel_rfl) (by kernel_rfl) (by kernel_rfl) (by decide) (fun _ _ _ h => h) (Or.inl ⟨by rfl, ?chy26⟩) hSS ?_
        case chy26 => (intro wz hSw; (try dsimp only at hSw); go_simp; try (with_reducible rfl))
        refine wpAnyE_take0 (i := 27) (v := ?cv27) rfl (by kernel_rfl) (by kernel_rfl) (by kernel_rfl) (by decide) (fun _ _ _ h => h) (Or.inl ⟨by rfl, ?chy27⟩) hSS ?_
        case chy27 => (intro wz hSw; (try dsimp only at hSw); go_simp; try (with_reducible rfl))
        refine wpAnyE_take0 (i := 28) (v := ?cv28) rfl (by kernel_rfl) (by kernel_rfl) (by kernel_rfl) (by decide) (fun _ _ _ h => h) (Or.inl ⟨by rfl, ?chy28⟩) hSS ?_
        case chy28 => (intro wz hSw; (try dsimp only at hSw); go_simp; try (with_reducible rfl))
        refine wpAnyE_take0 (i := 29) (v := ?cv29) rfl (by kernel_rfl) (by kernel_rfl) (by kernel_rfl) (by decide) (fun _ _ _ h => h) (Or.inl ⟨by rfl, ?chy29⟩) hSS ?_
        case chy29 => (intro wz hSw; (try dsimp only at hSw); go_simp; try (with_reducible rfl))
        simp only [Act.put, List.setIfInBounds_toArray, List.set_cons_succ, List.set_cons_zero, List.getElem_toArray, List.getElem_cons_succ, List.getElem_cons_zero]
        refine wpAnyE_take0 (i := 30) (v := ?cv30) rfl (by kernel_rfl) (by kernel_rfl) (by kernel_rfl) (by decide) (fun _ _ _ h => h) (Or.inl ⟨by rfl, ?chy30⟩) hSS ?_
        case chy30 => (intro wz hSw; (try dsimp only at hSw); go_simp; try (with_reducible rfl))
        refine wpAnyE_take0 (i := 31) (v := ?cv31) rfl (by kernel_rfl) (by kernel_rfl) (by kernel_rfl) (by decide) (fun _ _ _ h => h) (Or.inl ⟨by rfl, ?chy31⟩) hSS ?_
        case chy31 => (intro wz hSw; (try dsimp only at hSw); go_simp; try (with_reducible rfl))
        refine wpAnyE_take0 (i := 32) (v := ?cv32) rfl (by kernel_rfl) (by kernel_rfl) (by kernel_rfl) (by decide) (fun _ _ _ h => h) (Or.inl ⟨by rfl, ?chy32⟩) hSS ?_
        case chy32 => (intro wz hSw; (try dsimp only at hSw); go_simp; try (with_reducible rfl))
        refine wpAnyE_take0 (i := 33) (v := ?cv33) rfl (by kernel_rfl) (by kernel_rfl) (by kernel_rfl) (by decide) (fun _ _ _ h => h) (Or.inl ⟨by rfl, ?chy33⟩) hSS ?_
        case chy33 => (intro wz hSw; (try dsimp only at hSw); go_simp; try (with_reducible rfl))
        simp only [Act.put, List.setIfInBounds_toArray, List.set_cons_succ, List.set_cons_zero, List.getElem_toArray, List.getElem_cons_succ, List.getElem_cons_zero]
        refine wpAnyE_take0 (i := 34) (v := ?cv34) rfl (by kernel_rfl) (by kernel_rfl) (by kernel_rfl) (by decide) (fun _ _ _ h => h) (Or.inl ⟨by rfl, ?chy34⟩) hSS ?_
        case chy34 => (intro wz hSw; (try dsimp only at hSw); go_simp; try (with_reducible rfl))
        refine wpAnyE_take0 (i := 35) (v := ?cv35) rfl (by kernel_rfl) (by kernel_rfl) (by kernel_rfl) (by decide) (fun _ _ _ h => h) (Or.inl ⟨by rfl, ?chy35⟩) hSS ?_
        case chy35 => (intro wz hSw; (try dsimp only at hSw); go_simp; try (with_reducible rfl))
        refine wpAnyE_take0 (i := 36) (v := ?cv36) rfl (by kernel_rfl) (by kernel_rfl) (by kernel_rfl) (by decide) (fun _ _ _ h => h) (Or.inl ⟨by rfl, ?chy36⟩) hSS ?_
        case chy36 => (intro wz hSw; (try dsimp only at hSw); go_simp; try (with_reducible rfl))
        refine wpAnyE_one (i := 37) (by kernel_rfl) rfl (fun K hK => ?_)
        go_simp
        refine hK.out _ _ ⟨hSS.1, fun _ => trivial⟩ ?_
        clear hK K
        refine wpAnyE_take0 (i := 38) (v := ?cv38) rfl (by kernel_rfl) (by kernel_rfl) (by kernel_rfl) (by decide) (fun _ _ _ h => h) (Or.inl ⟨by rfl, ?chy38⟩) hSS ?_
        case chy38 => (intro wz hSw; (try dsimp only at hSw); go_simp; try (with_reducible rfl))
        refine wpAnyE_take0 (i := 39) (v := ?cv39) rfl (by kernel_rfl) (by kernel_rfl) (by kernel_rfl) (by decide) (fun _ _ _ h => h) (Or.inl ⟨by rfl, ?chy39⟩) hSS ?_
        case chy39 => (intro wz hSw; (try dsimp only at hSw); go_simp; try (with_reducible rfl))
        refine wpAnyE_take0 (i := 40) (v := ?cv40) rfl (by kernel_rfl) (by kernel_rfl) (by kernel_rfl) (by decide) (fun _ _ _ h => h) (Or.inl ⟨by rfl, ?chy40⟩) hSS ?_
        case chy40 => (intro wz hSw; (try dsimp only at hSw); go_simp; try (with_reducible rfl))
        refine wpAnyE_take0 (i := 41) (v := ?cv41) rfl (by kernel_rfl) (by kernel_rfl) (by kernel_rfl) (by decide) (fun _ _ _ h => h) (Or.inl ⟨by rfl, ?chy41⟩) hSS ?_
        case chy41 => (intro wz hSw; (try dsimp only at hSw); go_simp; try (with_reducible rfl))
        simp only [Act.put, List.setIfInBounds_toArray, List.set_cons_succ, List.set_cons_zero, List.getElem_toArray, List.getElem_cons_succ, List.getElem_cons_zero]
        refine wpAnyE_take0 (i := 42) (v := undef) rfl (by kernel_rfl) (by kernel_rfl) (by kernel_rfl) (by decide) (fun _ _ _ h => h) (Or.inr ⟨by kernel_rfl, rfl⟩) hSS ?_
        refine wpAnyE_take0 (i := 43) (v := undef) rfl (by kernel_rfl) (by kernel_rfl) (by kernel_rfl) (by decide) (fun _ _ _ h => h) (Or.inr ⟨by kernel_rfl, rfl⟩) hSS ?_
        refine wpAnyE_take0 (i := 44) (v := undef) rfl (by kernel_rfl) (by kernel_rfl) (by kernel_rfl) (by decide) (fun _ _ _ h => h) (Or.inr ⟨by kernel_rfl, rfl⟩) hSS ?_
        refine wpAnyE_take0 (i := 45) (v := undef) rfl (by kernel_rfl) (by kernel_rfl) (by kernel_rfl) (by decide) (fun _ _ _ h => h) (Or.inr ⟨by kernel_rfl, rfl⟩) hSS ?_
        simp only [Act.put, List.setIfInBounds_toArray, List.set_cons_succ, List.set_cons_zero, List.getElem_toArray, List.getElem_cons_succ, List.getElem_cons_zero]
        refine wpAnyE_take0 (i := 46) (v := undef) rfl (by kernel_rfl) (by kernel_rfl) (by kernel_rfl) (by decide) (fun _ _ _ h => h) (Or.inr ⟨by kernel_rfl, rfl⟩) hSS ?_
        refine wpAnyE_take0 (i := 47) (v := undef) rfl (by kernel_rfl) (by kernel_rfl) (by kernel_rfl) (by decide) (fun _ _ _ h => h) (Or.inr ⟨by kernel_rfl, rfl⟩) hSS ?_
        refine wpAnyE_take0 (i := 48) (v := undef) rfl (by kernel_rfl) (by kernel_rfl) (by kernel_rfl) (by decide) (fun _ _ _ h => h) (Or.inr ⟨by kernel_rfl, rfl⟩) hSS ?_
        refine wpAnyE_take0 (i := 49) (v := undef) rfl (by kernel_rfl) (by kernel_rfl) (by kernel_rfl) (by decide) (fun _ _ _ h => h) (Or.inr ⟨by kernel_rfl, rfl⟩) hSS ?_
        simp only [Act.put, List.setIfInBounds_toArray, List.set_cons_succ, List.set_cons_zero, List.getElem_toArray, List.getElem_cons_succ, List.getElem_cons_zero]
        refine wpAnyE_take0 (i := 50) (v := undef) rfl (by kernel_rfl) (by kernel_rfl) (by kernel_rfl) (by decide) (fun _ _ _ h => h) (Or.inr ⟨by kernel_rfl, rfl⟩) hSS ?_
        refine wpAnyE_take0 (i := 51) (v := undef) rfl (by kernel_rfl) (by kernel_rfl) (by kernel_rfl) (by decide) (fun _ _ _ h => h) (Or.inr ⟨by kernel_rfl, rfl⟩) hSS ?_
        refine wpAnyE_take0 (i := 52) (v := undef) rfl (by kernel_rfl) (by kernel_rfl) (by kernel_rfl) (by decide) (fun _ _ _ h => h) (Or.inr ⟨by kernel_rfl, rfl⟩) hSS ?_
        refine wpAnyE_take0 (i := 53) (v := undef) rfl (by kernel_rfl) (by kernel_rfl) (by kernel_rfl) (by decide) (fun _ _ _ h => h) (Or.inr ⟨by kernel_rfl, rfl⟩) hSS ?_
        simp only [Act.put, List.setIfInBounds_toArray, List.set_cons_succ, List.set_cons_zero, List.getElem_toArray, List.getElem_cons_succ, List.getElem_cons_zero]
        refine wpAnyE_take0 (i := 54) (v := undef) rfl (by kernel_rfl) (by kernel_rfl) (by kernel_rfl) (by decide) (fun _ _ _ h => h) (Or.inr ⟨by kernel_rfl, rfl⟩) hSS ?_
        refine wpAnyE_take0 (i := 55) (v := undef) rfl (by kernel_rfl) (by kernel_rfl) (by kernel_rfl) (by decide) (fun _ _ _ h => h) (Or.inr ⟨by kernel_rfl, rfl⟩) hSS ?_
        refine wpAnyE_take0 (i := 56) (v := undef) rfl (by kernel_rfl) (by kernel_rfl) (by kernel_rfl) (by decide) (fun _ _ _ h => h) (Or.inr ⟨by kernel_rfl, rfl⟩) hSS ?_
        refine wpAnyE_one (i := 57) (by kernel_rfl) rfl (fun K hK => ?_)
        go_simp
        refine hK.out _ _ ⟨hSS.1, fun _ => trivial⟩ ?_
        clear hK K
        refine wpAnyE_done (by kernel_rfl) ?_ _
        clear hSS
        go_wp2
        go_ret
        exact ⟨ret_bool (by rw [NO.out ND.out]), hb.drew⟩
      ·have ND : Hid (dnOk 0 gc gtn gtx = false) := by show _ = _; rw [dn_zero]; simp [hcd]
       have hcd' : (gc == 0) = false := by simpa using hcd
       have KP : Hid (∀ W, Below wr.heap.size wr W → W.cell? ⟨b, off + k * 3, none⟩ = some (.int .i64 0) ∧ W.cell? ⟨b, off + k * 3 + 1, none⟩ = some (.int .i64 gc) ∧ W.cell? ⟨b, off + k * 3 + 2, none⟩ = some (.slice gta gtn gtc)) := fun W hW => ⟨(hW.cell (p := ⟨b, off + k * 3, none⟩) (block_lt e0')).trans e0', (hW.cell (p := ⟨b, off + k * 3 + 1, none⟩) (block_lt e1')).trans e1', (hW.cell (p := ⟨b, off + k * 3 + 2, none⟩) (block_lt e2')).trans e2'⟩
       have hSS := And.intro (KP.out _ (Below.refl _ _).drew) True.intro
       clear e0' e1' e2'
       go_upto_region 6 with fail
       refine wp_region_ends (fun w' => w'.cell? ⟨b, off + k * 3, none⟩ = some (.int .i64 0) ∧ w'.cell? ⟨b, off + k * 3 + 1, none⟩ = some (.int .i64 gc) ∧ w'.cell? ⟨b, off + k * 3 + 2, none⟩ = some (.slice gta gtn gtc)) (fun _ => True) 57 (by kernel_rfl) ?_
       refine wpAnyE_take0 (i := 0) (v := ?dv0) rfl (by kernel_rfl) (by kernel_rfl) (by kernel_rfl) (by decide) (fun _ _ _ h => h) (Or.inl ⟨by rfl, ?dhy0⟩) hSS ?_
       case dhy0 => (intro wz hSw; (try dsimp only at hSw); go_simp; try (with_reducible rfl))
       refine wpAnyE_take0 (i := 1) (v := ?dv1) rfl (by kernel_rfl) (by kernel_rfl) (by kernel_rfl) (by decide) (fun _ _ _ h => h) (Or.inl ⟨by rfl, ?dhy1⟩) hSS ?_
       case dhy1 => (intro wz hSw; (try dsimp only at hSw); go_simp; try (with_reducible rfl))
       refine wpAnyE_take0 (i := 2) (v := ?dv2) rfl (by kernel_rfl) (by kernel_rfl) (by kernel_rfl) (by decide) (fun _ _ _ h => h) (Or.inl ⟨by rfl, ?dhy2⟩) hSS ?_
       case dhy2 => (intro wz hSw; (try dsimp only at hSw); go_simp; try (with_reducible rfl))
       refine wpAnyE_take0 (i := 3) (v := ?dv3) rfl (by kernel_rfl) (by kernel_rfl) (by kernel_rfl) (by decide) (fun _ _ _ h => h) (Or.inl ⟨by rfl, ?dhy3⟩) hSS ?_
       case dhy3 => (intro wz hSw; (try dsimp only at hSw); go_simp; try (with_reducible rfl))
       simp only [Act.put, List.setIfInBounds_toArray, List.set_cons_succ, List.set_cons_zero, List.getElem_toArray, List.getElem_cons_succ, List.getElem_cons_zero]
       refine wpAnyE_take0 (i := 4) (v := ?dv4) rfl (by kernel_rfl) (by kernel_rfl) (by kernel_rfl) (by decide) (fun _ _ _ h => h) (Or.inl ⟨by rfl, ?dhy4⟩) hSS ?_
       case dhy4 => (intro wz hSw; (try dsimp only at hSw); go_simp; try (with_reducible rfl))
       refine wpAnyE_one (i := 5) (by kernel_rfl) rfl (fun K hK => ?_)
       go_simp
       refine (in_any _ _ _ _).mono ?_
       rintro ee wq ⟨rfl, rfl⟩
       rw [h1]
       (try dsimp only)
       refine hK.out _ _ ⟨hSS.1, fun _ => trivial⟩ ?_
       clear hK K
       refine wpAnyE_take0 (i := 6) (v := ?dv6) rfl (by kernel_rfl) (by kernel_rfl) (by kernel_rfl) (by decide) (fun _ _ _ h => h) (Or.inl ⟨by rfl, ?dhy6⟩) hSS ?_
       case dhy6 => (intro wz hSw; (try dsimp only at hSw); go_simp; try (with_reducible rfl))
       refine wpAnyE_take0 (i := 7) (v := ?dv7) rfl (by kernel_rfl) (by kernel_rfl) (by kernel_rfl) (by decide) (fun _ _ _ h => h) (Or.inl ⟨by rfl, ?dhy7⟩) hSS ?_
       case dhy7 => (intro wz hSw; (try dsimp only at hSw); go_simp; try (with_reducible rfl))
       refine wpAnyE_take0 (i := 8) (v := ?dv8) rfl (by kernel_rfl) (by kernel_rfl) (by kernel_rfl) (by decide) (fun _ _ _ h => h) (Or.inl ⟨by rfl, ?dhy8⟩) hSS ?_
       case dhy8 => (intro wz hSw; (try dsimp only at hSw); go_simp; try (with_reducible rfl))
       refine wpAnyE_take0 (i := 9) (v := ?dv9) rfl (by kernel_rfl) (by kernel_rfl) (by kernel_rfl) (by decide) (fun _ _ _ h => h) (Or.inl ⟨by rfl, ?dhy9⟩) hSS ?_
       case dhy9 => (intro wz hSw; (try dsimp only at hSw); go_simp; try (with_reducible rfl))
       simp only [Act.put, List.setIfInBounds_toArray, List.set_cons_succ, List.set_cons_zero, List.getElem_toArray, List.getElem_cons_succ, List.getElem_cons_zero]
       refine wpAnyE_take0 (i := 10) (v := ?dv10) rfl (by kernel_rfl) (by kernel_rfl) (by kernel_rfl) (by decide) (fun _ _ _ h => h) (Or.inl ⟨by rfl, ?dhy10⟩) hSS ?_
       case dhy10 => (intro wz hSw; (try dsimp only at hSw); go_simp; try (with_reducible rfl))
       refine wpAnyE_take0 (i := 11) (v := ?dv11) rfl (by kernel_rfl) (by kernel_rfl) (by kernel_rfl) (by decide) (fun _ _ _ h => h) (Or.inl ⟨by rfl, ?dhy11⟩) hSS ?_
       case dhy11 => (intro wz hSw; (try dsimp only at hSw); go_simp; try (with_reducible rfl))
       refine wpAnyE_take0 (i := 12) (v := ?dv12) rfl (by kernel_rfl) (by kernel_rfl) (by kernel_rfl) (by decide) (fun _ _ _ h => h) (Or.inl ⟨by rfl, ?dhy12⟩) hSS ?_
       case dhy12 => (intro wz hSw; (try dsimp only at hSw); go_simp; try (with_reducible rfl))
       refine wpAnyE_take0 (i := 13) (v := ?dv13) rfl (by kernel_rfl) (by kernel_rfl) (by kernel_rfl) (by decide) (fun _ _ _ h => h) (Or.inl ⟨by rfl, ?dhy13⟩) hSS ?_
       case dhy13 => (intro wz hSw; (try dsimp only at hSw); go_simp; try (with_reducible rfl))
       simp only [Act.put, List.setIfInBounds_toArray, List.set_cons_succ, List.set_cons_zero, List.getElem_toArray, List.getElem_cons_succ, List.getElem_cons_zero]
       refine wpAnyE_take0 (i := 14) (v := ?dv14) rfl (by kernel_rfl) (by kernel_rfl) (by kernel_rfl) (by decide) (fun _ _ _ h => h) (Or.inl ⟨by rfl, ?dhy14⟩) hSS ?_
       case dhy14 => (intro wz hSw; (try dsimp only at hSw); go_simp; try (with_reducible rfl))
       refine wpAnyE_take0 (i := 15) (v := ?dv15) rfl (by kernel_rfl) (by kernel_rfl) (by kernel_rfl) (by decide) (fun _ _ _ h => h) (Or.inl ⟨by rfl, ?dhy15⟩) hSS ?_
       case dhy15 => (intro wz hSw; (try dsimp only at hSw); go_simp; try (with_reducible rfl))
       refine wpAnyE_take0 (i := 16) (v := ?dv16) rfl (by kernel_rfl) (by kernel_rfl) (by kernel_rfl) (by decide) (fun _ _ _ h => h) (Or.inl ⟨by rfl, ?dhy16⟩) hSS ?_
       case dhy16 => (intro wz hSw; (try dsimp only at hSw); go_simp; try (with_reducible rfl))
       refine wpAnyE_take0 (i := 17) (v := ?dv17) rfl (by kernel_rfl) (by kernel_rfl) (by kernel_rfl) (by decide) (fun _ _ _ h => h) (Or.inl ⟨by rfl, ?dhy17⟩) hSS ?_
       case dhy17 => (intro wz hSw; (try dsimp only at hSw); go_simp; try (with_reducible rfl))
       simp only [Act.put, List.setIfInBounds_toArray, List.set_cons_succ, List.set_cons_zero, List.getElem_toArray, List.getElem_cons_succ, List.getElem_cons_zero]
       refine wpAnyE_take0 (i := 18) (v := ?dv18) rfl (by kernel_rfl) (by kernel_rfl) (by kernel_rfl) (by decide) (fun _ _ _ h => h) (Or.inl ⟨by rfl, ?dhy18⟩) hSS ?_
       case dhy18 => (intro wz hSw; (try dsimp only at hSw); go_simp; try (with_reducible rfl))
       refine wpAnyE_take0 (i := 19) (v := ?dv19) rfl (by kernel_rfl) (by kernel_rfl) (by kernel_rfl) (by decide) (fun _ _ _ h => h) (Or.inl ⟨by rfl, ?dhy19⟩) hSS ?_
       case dhy19 => (intro wz hSw; (try dsimp only at hSw); go_simp; try (with_reducible rfl))
       refine wpAnyE_take0 (i := 20) (v := ?dv20) rfl (by kernel_rfl) (by kernel_rfl) (by kernel_rfl) (by decide) (fun _ _ _ h => h) (Or.inl ⟨by rfl, ?dhy20⟩) hSS ?_
       case dhy20 => (intro wz hSw; (try dsimp only at hSw); go_simp; try (with_reducible rfl))
       refine wpAnyE_take0 (i := 21) (v := ?dv21) rfl (by kernel_rfl) (by kernel_rfl) (by kernel_rfl) (by decide) (fun _ _ _ h => h) (Or.inl ⟨by rfl, ?dhy21⟩) hSS ?_
       case dhy21 => (intro wz hSw; (try dsimp only at hSw); go_simp; try (with_reducible rfl))
       simp only [Act.put, List.setIfInBounds_toArray, List.set_cons_succ, List.set_cons_zero, List.getElem_toArray, List.getElem_cons_succ, List.getElem_cons_zero]
       refine wpAnyE_take0 (i := 22) (v := ?dv22) rfl (by kernel_rfl) (by kernel_rfl) (by kernel_rfl) (by decide) (fun _ _ _ h => h) (Or.inl ⟨by rfl, ?dhy22⟩) hSS ?_
       case dhy22 => (intro wz hSw; (try dsimp only at hSw); go_simp; try (with_reducible rfl))
       refine wpAnyE_take0 (i := 23) (v := ?dv23) rfl (by kernel_rfl) (by kernel_rfl) (by kernel_rfl) (by decide) (fun _ _ _ h => h) (Or.inl ⟨by rfl, ?dhy23⟩) hSS ?_
       case dhy23 => (intro wz hSw; (try dsimp only at hSw); go_simp; try (with_reducible rfl))
       refine wpAnyE_take0 (i := 24) (v := undef) rfl (by kernel_rfl) (by kernel_rfl) (by kernel_rfl) (by decide) (fun _ _ _ h => h) (Or.inr ⟨by kernel_rfl, rfl⟩) hSS ?_
       refine wpAnyE_take0 (i := 25) (v := undef) rfl (by kernel_rfl) (by kernel_rfl) (by kernel_rfl) (by decide) (fun _ _ _ h => h) (Or.inr ⟨by kernel_rfl, rfl⟩) hSS ?_
       simp only [Act.put, List.setIfInBounds_toArray, List.set_cons_succ, List.set_cons_zero, List.getElem_toArray, List.getElem_cons_succ, List.getElem_cons_zero]
       refine wpAnyE_take0 (i := 26) (v := undef) rfl (by kernel_rfl) (by kernel_rfl) (by kernel_rfl) (by decide) (fun _ _ _ h => h) (Or.inr ⟨by kernel_rfl, rfl⟩) hSS ?_
       refine wpAnyE_take0 (i := 27) (v := undef) rfl (by kernel_rfl) (by kernel_rfl) (by kernel_rfl) (by decide) (fun _ _ _ h => h) (Or.inr ⟨by kernel_rfl, rfl⟩) hSS ?_
       refine wpAnyE_take0 (i := 28) (v := undef) rfl (by kernel_rfl) (by kernel_rfl) (by kernel_rfl) (by decide) (fun _ _ _ h => h) (Or.inr ⟨by kernel_rfl, rfl⟩) hSS ?_
       refine wpAnyE_take0 (i := 29) (v := undef) rfl (by kernel_rfl) (by kernel_rfl) (by kernel_rfl) (by decide) (fun _ _ _ h => h) (Or.inr ⟨by kernel_rfl, rfl⟩) hSS ?_
       simp only [Act.put, List.setIfInBounds_toArray, List.set_cons_succ, List.set_cons_zero, List.getElem_toArray, List.getElem_cons_succ, List.getElem_cons_zero]
       refine wpAnyE_take0 (i := 30) (v := undef) rfl (by kernel_rfl) (by kernel_rfl) (by kernel_rfl) (by decide) (fun _ _ _ h => h) (Or.inr ⟨by kernel_rfl, rfl⟩) hSS ?_
       refine wpAnyE_take0 (i := 31) (v := undef) rfl (by kernel_rfl) (by kernel_rfl) (by kernel_rfl) (by decide) (fun _ _ _ h => h) (Or.inr ⟨by kernel_rfl, rfl⟩) hSS ?_
       refine wpAnyE_take0 (i := 32) (v := undef) rfl (by kernel_rfl) (by kernel_rfl) (by kernel_rfl) (by decide) (fun _ _ _ h => h) (Or.inr ⟨by kernel_rfl, rfl⟩) hSS ?_
       refine wpAnyE_take0 (i := 33) (v := undef) rfl (by kernel_rfl) (by kernel_rfl) (by kernel_rfl) (by decide) (fun _ _ _ h => h) (Or.inr ⟨by kernel_rfl, rfl⟩) hSS ?_
       simp only [Act.put, List.setIfInBounds_toArray, List.set_cons_succ, List.set_cons_zero, List.getElem_toArray, List.getElem_cons_succ, List.getElem_cons_zero]
       refine wpAnyE_take0 (i := 34) (v := undef) rfl (by kernel_rfl) (by kernel_rfl) (by kernel_rfl) (by decide) (fun _ _ _ h => h) (Or.inr ⟨by kernel_rfl, rfl⟩) hSS ?_
       refine wpAnyE_take0 (i := 35) (v := undef) rfl (by kernel_rfl) (by kernel_rfl) (by kernel_rfl) (by decide) (fun _ _ _ h => h) (Or.inr ⟨by kernel_rfl, rfl⟩) hSS ?_
       refine wpAnyE_take0 (i := 36) (v := undef) rfl (by kernel_rfl) (by kernel_rfl) (by kernel_rfl) (by decide) (fun _ _ _ h => h) (Or.inr ⟨by kernel_rfl, rfl⟩) hSS ?_
       refine wpAnyE_take0 (i := 37) (v := undef) rfl (by kernel_rfl) (by kernel_rfl) (by kernel_rfl) (by decide) (fun _ _ _ h => h) (Or.inr ⟨by kernel_rfl, rfl⟩) hSS ?_
       simp only [Act.put, List.setIfInBounds_toArray, List.set_cons_succ, List.set_cons_zero, List.getElem_toArray, List.getElem_cons_succ, List.getElem_cons_zero]
       refine wpAnyE_take0 (i := 38) (v := undef) rfl (by kernel_rfl) (by kernel_rfl) (by kernel_rfl) (by decide) (fun _ _ _ h => h) (Or.inr ⟨by kernel_rfl, rfl⟩) hSS ?_
       refine wpAnyE_take0 (i := 39) (v := undef) rfl (by kernel_rfl) (by kernel_rfl) (by kernel_rfl) (by decide) (fun _ _ _ h => h) (Or.inr ⟨by kernel_rfl, rfl⟩) hSS ?_
       refine wpAnyE_take0 (i := 40) (v := ?dv40) rfl (by kernel_rfl) (by kernel_rfl) (by kernel_rfl) (by decide) (fun _ _ _ h => h) (Or.inl ⟨by rfl, ?dhy40⟩) hSS ?_
       case dhy40 => (intro wz hSw; (try dsimp only at hSw); go_simp; try (with_reducible rfl))
       refine wpAnyE_take0 (i := 41) (v := ?dv41) rfl (by kernel_rfl) (by kernel_rfl) (by kernel_rfl) (by decide) (fun _ _ _ h => h) (Or.inl ⟨by rfl, ?dhy41⟩) hSS ?_
       case dhy41 => (intro wz hSw; (try dsimp only at hSw); go_simp; try (with_reducible rfl))
       simp only [Act.put, List.setIfInBounds_toArray, List.set_cons_succ, List.set_cons_zero, List.getElem_toArray, List.getElem_cons_succ, List.getElem_cons_zero]
       refine wpAnyE_take0 (i := 42) (v := undef) rfl (by kernel_rfl) (by kernel_rfl) (by kernel_rfl) (by decide) (fun _ _ _ h => h) (Or.inr ⟨by kernel_rfl, rfl⟩) hSS ?_
       refine wpAnyE_take0 (i := 43) (v := undef) rfl (by kernel_rfl) (by kernel_rfl) (by kernel_rfl) (by decide) (fun _ _ _ h => h) (Or.inr ⟨by kernel_rfl, rfl⟩) hSS ?_
       refine wpAnyE_take0 (i := 44) (v := undef) rfl (by kernel_rfl) (by kernel_rfl) (by kernel_rfl) (by decide) (fun _ _ _ h => h) (Or.inr ⟨by kernel_rfl, rfl⟩) hSS ?_
       refine wpAnyE_take0 (i := 45) (v := undef) rfl (by kernel_rfl) (by kernel_rfl) (by kernel_rfl) (by decide) (fun _ _ _ h => h) (Or.inr ⟨by kernel_rfl, rfl⟩) hSS ?_
       simp only [Act.put, List.setIfInBounds_toArray, List.set_cons_succ, List.set_cons_zero, List.getElem_toArray, List.getElem_cons_succ, List.getElem_cons_zero]
       refine wpAnyE_take0 (i := 46) (v := undef) rfl (by kernel_rfl) (by kernel_rfl) (by kernel_rfl) (by decide) (fun _ _ _ h => h) (Or.inr ⟨by kernel_rfl, rfl⟩) hSS ?_
       refine wpAnyE_take0 (i := 47) (v := undef) rfl (by kernel_rfl) (by kernel_rfl) (by kernel_rfl) (by decide) (fun _ _ _ h => h) (Or.inr ⟨by kernel_rfl, rfl⟩) hSS ?_
       refine wpAnyE_take0 (i := 48) (v := undef) rfl (by kernel_rfl) (by kernel_rfl) (by kernel_rfl) (by decide) (fun _ _ _ h => h) (Or.inr ⟨by kernel_rfl, rfl⟩) hSS ?_
       refine wpAnyE_take0 (i := 49) (v := undef) rfl (by kernel_rfl) (by kernel_rfl) (by kernel_rfl) (by decide) (fun _ _ _ h => h) (Or.inr ⟨by kernel_rfl, rfl⟩) hSS ?_
       simp only [Act.put, List.setIfInBounds_toArray, List.set_cons_succ, List.set_cons_zero, List.getElem_toArray, List.getElem_cons_succ, List.getElem_cons_zero]
       refine wpAnyE_take0 (i := 50) (v := undef) rfl (by kernel_rfl) (by kernel_rfl) (by kernel_rfl) (by decide) (fun _ _ _ h => h) (Or.inr ⟨by kernel_rfl, rfl⟩) hSS ?_
       refine wpAnyE_take0 (i := 51) (v := undef) rfl (by kernel_rfl) (by kernel_rfl) (by kernel_rfl) (by decide) (fun _ _ _ h => h) (Or.inr ⟨by kernel_rfl, rfl⟩) hSS ?_
       refine wpAnyE_take0 (i := 52) (v := undef) rfl (by kernel_rfl) (by kernel_rfl) (by kernel_rfl) (by decide) (fun _ _ _ h => h) (Or.inr ⟨by kernel_rfl, rfl⟩) hSS ?_
       refine wpAnyE_take0 (i := 53) (v := undef) rfl (by kernel_rfl) (by kernel_rfl) (by kernel_rfl) (by decide) (fun _ _ _ h => h) (Or.inr ⟨by kernel_rfl, rfl⟩) hSS ?_
       simp only [Act.put, List.setIfInBounds_toArray, List.set_cons_succ, List.set_cons_zero, List.getElem_toArray, List.getElem_cons_succ, List.getElem_cons_zero]
       refine wpAnyE_take0 (i := 54) (v := undef) rfl (by kernel_rfl) (by kernel_rfl) (by kernel_rfl) (by decide) (fun _ _ _ h => h) (Or.inr ⟨by kernel_rfl, rfl⟩) hSS ?_
       refine wpAnyE_take0 (i := 55) (v := undef) rfl (by kernel_rfl) (by kernel_rfl) (by kernel_rfl) (by decide) (fun _ _ _ h => h) (Or.inr ⟨by kernel_rfl, rfl⟩) hSS ?_
       refine wpAnyE_take0 (i := 56) (v := undef) rfl (by kernel_rfl) (by kernel_rfl) (by kernel_rfl) (by decide) (fun _ _ _ h => h) (Or.inr ⟨by kernel_rfl, rfl⟩) hSS ?_
       refine wpAnyE_one (i := 57) (by kernel_rfl) rfl (fun K hK => ?_)
       go_simp
       refine hK.out _ _ ⟨hSS.1, fun _ => trivial⟩ ?_
       clear hK K
       refine wpAnyE_done (by kernel_rfl) ?_ _
       clear hSS
       go_wp2
       go_ret
       exact ⟨ret_bool (by rw [NO.out ND.out]), hb.drew⟩
     ·have hs' : (gs == 0) = false := by simpa using hs
      have hp : decide (0 < gs) = true := by simp; omega
      have ND : Hid (dnOk gs gc gtn gtx = fullB (resText gc gtn gtx)) := by show _ = _; rw [dn_some hs, inB_iff.2 (by omega)]; rfl
      clear hs h1'
      by_cases hcd : gc = 0
      ·subst hcd
       have ND2 : Hid (dnOk gs 0 gtn gtx = false) := by
        show _ = _
        rw [ND.out]
        cases hf : fullB (resText 0 gtn gtx)
        ·rfl
        ·exact absurd rfl (full_code hf)
       have KP : Hid (∀ W, Below wr.heap.size wr W → W.cell? ⟨b, off + k * 3, none⟩ = some (.int .i64 gs) ∧ W.cell? ⟨b, off + k * 3 + 1, none⟩ = some (.int .i64 0) ∧ W.cell? ⟨b, off + k * 3 + 2, none⟩ = some (.slice gta gtn gtc)) := fun W hW => ⟨(hW.cell (p := ⟨b, off + k * 3, none⟩) (block_lt e0')).trans e0', (hW.cell (p := ⟨b, off + k * 3 + 1, none⟩) (block_lt e1')).trans e1', (hW.cell (p := ⟨b, off + k * 3 + 2, none⟩) (block_lt e2')).trans e2'⟩
       have hSS := And.intro (KP.out _ (Below.refl _ _).drew) True.intro
       clear e0' e1' e2'
       go_upto_region 6 with fail
       refine wp_region_ends (fun w' => w'.cell? ⟨b, off + k * 3, none⟩ = some (.int .i64 gs) ∧ w'.cell? ⟨b, off + k * 3 + 1, none⟩ = some (.int .i64 0) ∧ w'.cell? ⟨b, off + k * 3 + 2, none⟩ = some (.slice gta gtn gtc)) (fun _ => True) 57 (by kernel_rfl) ?_
       refine wpAnyE_take0 (i := 0) (v := ?ev0) rfl (by kernel_rfl) (by kernel_rfl) (by kernel_rfl) (by decide) (fun _ _ _ h => h) (Or.inl ⟨by rfl, ?ehy0⟩) hSS ?_
       case ehy0 => (intro wz hSw; (try dsimp only at hSw); go_simp; try (with_reducible rfl))
       refine wpAnyE_take0 (i := 1) (v := ?ev1) rfl (by kernel_rfl) (by kernel_rfl) (by kernel_rfl) (by decide) (fun _ _ _ h => h) (Or.inl ⟨by rfl, ?ehy1⟩) hSS ?_
       case ehy1 => (intro wz hSw; (try dsimp only at hSw); go_simp; try (with_reducible rfl))
       refine wpAnyE_take0 (i := 2) (v := ?ev2) rfl (by kernel_rfl) (by kernel_rfl) (by kernel_rfl) (by decide) (fun _ _ _ h => h) (Or.inl ⟨by rfl, ?ehy2⟩) hSS ?_
       case ehy2 => (intro wz hSw; (try dsimp only at hSw); go_simp; try (with_reducible rfl))
       refine wpAnyE_take0 (i := 3) (v := ?ev3) rfl (by kernel_rfl) (by kernel_rfl) (by kernel_rfl) (by decide) (fun _ _ _ h => h) (Or.inl ⟨by rfl, ?ehy3⟩) hSS ?_
       case ehy3 => (intro wz hSw; (try dsimp only at hSw); go_simp; try (with_reducible rfl))
       simp only [Act.put, List.setIfInBounds_toArray, List.set_cons_succ, List.set_cons_zero, List.getElem_toArray, List.getElem_cons_succ, List.getElem_cons_zero]
       refine wpAnyE_take0 (i := 4) (v := ?ev4) rfl (by kernel_rfl) (by kernel_rfl) (by kernel_rfl) (by decide) (fun _ _ _ h => h) (Or.inl ⟨by rfl, ?ehy4⟩) hSS ?_
       case ehy4 => (intro wz hSw; (try dsimp only at hSw); go_simp; try (with_reducible rfl))
       refine wpAnyE_one (i := 5) (by kernel_rfl) rfl (fun K hK => ?_)
       go_simp
       refine (in_any _ _ _ _).mono ?_
       rintro ee wq ⟨rfl, rfl⟩
       rw [h1]
       (try dsimp only)
       refine hK.out _ _ ⟨hSS.1, fun _ => trivial⟩ ?_
       clear hK K
       refine wpAnyE_take0 (i := 6) (v := ?ev6) rfl (by kernel_rfl) (by kernel_rfl) (by kernel_rfl) (by decide) (fun _ _ _ h => h) (Or.inl ⟨by rfl, ?ehy6⟩) hSS ?_
       case ehy6 => (intro wz hSw; (try dsimp only at hSw); go_simp; try (with_reducible rfl))
       refine wpAnyE_take0 (i := 7) (v := ?ev7) rfl (by kernel_rfl) (by kernel_rfl) (by kernel_rfl) (by decide) (fun _ _ _ h => h) (Or.inl ⟨by rfl, ?ehy7⟩) hSS ?_
       case ehy7 => (intro wz hSw; (try dsimp only at hSw); go_simp; try (with_reducible rfl))
       refine wpAnyE_take0 (i := 8) (v := ?ev8) rfl (by kernel_rfl) (by kernel_rfl) (by kernel_rfl) (by decide) (fun _ _ _ h => h) (Or.inl ⟨by rfl, ?ehy8⟩) hSS ?_
       case ehy8 => (intro wz hSw; (try dsimp only at hSw); go_simp; try (with_reducible rfl))
       refine wpAnyE_take0 (i := 9) (v := ?ev9) rfl (by kernel_rfl) (by kernel_rfl) (by kernel_rfl) (by decide) (fun _ _ _ h => h) (Or.inl ⟨by rfl, ?ehy9⟩) hSS ?_
       case ehy9 => (intro wz hSw; (try dsimp only at hSw); go_simp; try (with_reducible rfl))
       simp only [Act.put, List.setIfInBounds_toArray, List.set_cons_succ, List.set_cons_zero, List.getElem_toArray, List.getElem_cons_succ, List.getElem_cons_zero]
       refine wpAnyE_take0 (i := 10) (v := ?ev10) rfl (by kernel_rfl) (by kernel_rfl) (by kernel_rfl) (by decide) (fun _ _ _ h => h) (Or.inl ⟨by rfl, ?ehy10⟩) hSS ?_
       case ehy10 => (intro wz hSw; (try dsimp only at hSw); go_simp; try (with_reducible rfl))
       refine wpAnyE_take0 (i := 11) (v := ?ev11) rfl (by kernel_rfl) (by kernel_rfl) (by kernel_rfl) (by decide) (fun _ _ _ h => h) (Or.inl ⟨by rfl, ?ehy11⟩) hSS ?_
       case ehy11 => (intro wz hSw; (try dsimp only at hSw); go_simp; try (with_reducible rfl))
       refine wpAnyE_take0 (i := 12) (v := ?ev12) rfl (by kernel_rfl) (by kernel_rfl) (by kernel_rfl) (by decide) (fun _ _ _ h => h) (Or.inl ⟨by rfl, ?ehy12⟩) hSS ?_
       case ehy12 => (intro wz hSw; (try dsimp only at hSw); go_simp; try (with_reducible rfl))
       refine wpAnyE_take0 (i := 13) (v := ?ev13) rfl (by kernel_rfl) (by kernel_rfl) (by kernel_rfl) (by decide) (fun _ _ _ h => h) (Or.inl ⟨by rfl, ?ehy13⟩) hSS ?_
       case ehy13 => (intro wz hSw; (try dsimp only at hSw); go_simp; try (with_reducible rfl))
       simp only [Act.put, List.setIfInBounds_toArray, List.set_cons_succ, List.set_cons_zero, List.getElem_toArray, List.getElem_cons_succ, List.getElem_cons_zero]
       refine wpAnyE_take0 (i := 14) (v := ?ev14) rfl (by kernel_rfl) (by kernel_rfl) (by kernel_rfl) (by decide) (fun _ _ _ h => h) (Or.inl ⟨by rfl, ?ehy14⟩) hSS ?_
       case ehy14 => (intro wz hSw; (try dsimp only at hSw); go_simp; try (with_reducible rfl))
       refine wpAnyE_take0 (i := 15) (v := ?ev15) rfl (by kernel_rfl) (by kernel_rfl) (by kernel_rfl) (by decide) (fun _ _ _ h => h) (Or.inl ⟨by rfl, ?ehy15⟩) hSS ?_
       case ehy15 => (intro wz hSw; (try dsimp only at hSw); go_simp; try (with_reducible rfl))
       refine wpAnyE_take0 (i := 16) (v := ?ev16) rfl (by kernel_rfl) (by kernel_rfl) (by kernel_rfl) (by decide) (fun _ _ _ h => h) (Or.inl ⟨by rfl, ?ehy16⟩) hSS ?_
       case ehy16 => (intro wz hSw; (try dsimp only at hSw); go_simp; try (with_reducible rfl))
       refine wpAnyE_take0 (i := 17) (v := ?ev17) rfl (by kernel_rfl) (by kernel_rfl) (by kernel_rfl) (by decide) (fun _ _ _ h => h) (Or.inl ⟨by rfl, ?ehy17⟩) hSS ?_
       case ehy17 => (intro wz hSw; (try dsimp only at hSw); go_simp; try (with_reducible rfl))
       simp only [Act.put, List.setIfInBounds_toArray, List.set_cons_succ, List.set_cons_zero, List.getElem_toArray, List.getElem_cons_succ, List.getElem_cons_zero]
       refine wpAnyE_take0 (i := 18) (v := ?ev18) rfl (by kernel_rfl) (by kernel_rfl) (by kernel_rfl) (by decide) (fun _ _ _ h => h) (Or.inl ⟨by rfl, ?ehy18⟩) hSS ?_
       case ehy18 => (intro wz hSw; (try dsimp only at hSw); go_simp; try (with_reducible rfl))
       refine wpAnyE_take0 (i := 19) (v := ?ev19) rfl (by kernel_rfl) (by kernel_rfl) (by kernel_rfl) (by decide) (fun _ _ _ h => h) (Or.inl ⟨by rfl, ?ehy19⟩) hSS ?_
       case ehy19 => (intro wz hSw; (try dsimp only at hSw); go_simp; try (with_reducible rfl))
       refine wpAnyE_take0 (i := 20) (v := ?ev20) rfl (by kernel_rfl) (by kernel_rfl) (by kernel_rfl) (by decide) (fun _ _ _ h => h) (Or.inl ⟨by rfl, ?ehy20⟩) hSS ?_
       case ehy20 => (intro wz hSw; (try dsimp only at hSw); go_simp; try (with_reducible rfl))
       refine wpAnyE_take0 (i := 21) (v := ?ev21) rfl (by kernel_rfl) (by kernel_rfl) (by kernel_rfl) (by decide) (fun _ _ _ h => h) (Or.inl ⟨by rfl, ?ehy21⟩) hSS ?_
       case ehy21 => (intro wz hSw; (try dsimp only at hSw); go_simp; try (with_reducible rfl))
       simp only [Act.put, List.setIfInBounds_toArray, List.set_cons_succ, List.set_cons_zero, List.getElem_toArray, List.getElem_cons_succ, List.getElem_cons_zero]
       refine wpAnyE_take0 (i := 22) (v := ?ev22) rfl (by kernel_rfl) (by kernel_rfl) (by kernel_rfl) (by decide) (fun _ _ _ h => h) (Or.inl ⟨by rfl, ?ehy22⟩) hSS ?_
       case ehy22 => (intro wz hSw; (try dsimp only at hSw); go_simp; try (with_reducible rfl))
       refine wpAnyE_take0 (i := 23) (v := ?ev23) rfl (by kernel_rfl) (by kernel_rfl) (by kernel_rfl) (by decide) (fun _ _ _ h => h) (Or.inl ⟨by rfl, ?ehy23⟩) hSS ?_
       case ehy23 => (intro wz hSw; (try dsimp only at hSw); go_simp; try (with_reducible rfl))
       refine wpAnyE_take0 (i := 24) (v := undef) rfl (by kernel_rfl) (by kernel_rfl) (by kernel_rfl) (by decide) (fun _ _ _ h => h) (Or.inr ⟨by kernel_rfl, rfl⟩) hSS ?_
       refine wpAnyE_take0 (i := 25) (v := undef) rfl (by kernel_rfl) (by kernel_rfl) (by kernel_rfl) (by decide) (fun _ _ _ h => h) (Or.inr ⟨by kernel_rfl, rfl⟩) hSS ?_
       simp only [Act.put, List.setIfInBounds_toArray, List.set_cons_succ, List.set_cons_zero, List.getElem_toArray, List.getElem_cons_succ, List.getElem_cons_zero]
       refine wpAnyE_take0 (i := 26) (v := undef) rfl (by kernel_rfl) (by kernel_rfl) (by kernel_rfl) (by decide) (fun _ _ _ h => h) (Or.inr ⟨by kernel_rfl, rfl⟩) hSS ?_
       refine wpAnyE_take0 (i := 27) (v := undef) rfl (by kernel_rfl) (by kernel_rfl) (by kernel_rfl) (by decide) (fun _ _ _ h => h) (Or.inr ⟨by kernel_rfl, rfl⟩) hSS ?_
       refine wpAnyE_take0 (i := 28) (v := undef) rfl (by kernel_rfl) (by kernel_rfl) (by kernel_rfl) (by decide) (fun _ _ _ h => h) (Or.inr ⟨by kernel_rfl, rfl⟩) hSS ?_
       refine wpAnyE_take0 (i := 29) (v := undef) rfl (by kernel_rfl) (by kernel_rfl) (by kernel_rfl) (by decide) (fun _ _ _ h => h) (Or.inr ⟨by kernel_rfl, rfl⟩) hSS ?_
       simp only [Act.put, List.setIfInBounds_toArray, List.set_cons_succ, List.set_cons_zero, List.getElem_toArray, List.getElem_cons_succ, List.getElem_cons_zero]
       refine wpAnyE_take0 (i := 30) (v := undef) rfl (by kernel_rfl) (by kernel_rfl) (by kernel_rfl) (by decide) (fun _ _ _ h => h) (Or.inr ⟨by kernel_rfl, rfl⟩) hSS ?_
       refine wpAnyE_take0 (i := 31) (v := undef) rfl (by kernel_rfl) (by kernel_rfl) (by kernel_rfl) (by decide) (fun _ _ _ h => h) (Or.inr ⟨by kernel_rfl, rfl⟩) hSS ?_
       refine wpAnyE_take0 (i := 32) (v := undef) rfl (by kernel_rfl) (by kernel_rfl) (by kernel_rfl) (by decide) (fun _ _ _ h => h) (Or.inr ⟨by kernel_rfl, rfl⟩) hSS ?_
       refine wpAnyE_take0 (i := 33) (v := undef) rfl (by kernel_rfl) (by kernel_rfl) (by kernel_rfl) (by decide) (fun _ _ _ h => h) (Or.inr ⟨by kernel_rfl, rfl⟩) hSS ?_
       simp only [Act.put, List.setIfInBounds_toArray, List.set_cons_succ, List.set_cons_zero, List.getElem_toArray, List.getElem_cons_succ, List.getElem_cons_zero]
       refine wpAnyE_take0 (i := 34) (v := undef) rfl (by kernel_rfl) (by kernel_rfl) (by kernel_rfl) (by decide) (fun _ _ _ h => h) (Or.inr ⟨by kernel_rfl, rfl⟩) hSS ?_
       refine wpAnyE_take0 (i := 35) (v := undef) rfl (by kernel_rfl) (by kernel_rfl) (by kernel_rfl) (by decide) (fun _ _ _ h => h) (Or.inr ⟨by kernel_rfl, rfl⟩) hSS ?_
       refine wpAnyE_take0 (i := 36) (v := undef) rfl (by kernel_rfl) (by kernel_rfl) (by kernel_rfl) (by decide) (fun _ _ _ h => h) (Or.inr ⟨by kernel_rfl, rfl⟩) hSS ?_
       refine wpAnyE_take0 (i := 37) (v := undef) rfl (by kernel_rfl) (by kernel_rfl) (by kernel_rfl) (by decide) (fun _ _ _ h => h) (Or.inr ⟨by kernel_rfl, rfl⟩) hSS ?_
       simp only [Act.put, List.setIfInBounds_toArray, List.set_cons_succ, List.set_cons_zero, List.getElem_toArray, List.getElem_cons_succ, List.getElem_cons_zero]
       refine wpAnyE_take0 (i := 38) (v := undef) rfl (by kernel_rfl) (by kernel_rfl) (by kernel_rfl) (by decide) (fun _ _ _ h => h) (Or.inr ⟨by kernel_rfl, rfl⟩) hSS ?_
       refine wpAnyE_take0 (i := 39) (v := undef) rfl (by kernel_rfl) (by kernel_rfl) (by kernel_rfl) (by decide) (fun _ _ _ h => h) (Or.inr ⟨by kernel_rfl, rfl⟩) hSS ?_
       refine wpAnyE_take0 (i := 40) (v := ?ev40) rfl (by kernel_rfl) (by kernel_rfl) (by kernel_rfl) (by decide) (fun _ _ _ h => h) (Or.inl ⟨by rfl, ?ehy40⟩) hSS ?_
       case ehy40 => (intro wz hSw; (try dsimp only at hSw); go_simp; try (with_reducible rfl))
       refine wpAnyE_take0 (i := 41) (v := ?ev41) rfl (by kernel_rfl) (by kernel_rfl) (by kernel_rfl) (by decide) (fun _ _ _ h => h) (Or.inl ⟨by rfl, ?ehy41⟩) hSS ?_
       case ehy41 => (intro wz hSw; (try dsimp only at hSw); go_simp; try (with_reducible rfl))
       simp only [Act.put, List.setIfInBounds_toArray, List.set_cons_succ, List.set_cons_zero, List.getElem_toArray, List.getElem_cons_succ, List.getElem_cons_zero]
       refine wpAnyE_take0 (i := 42) (v := undef) rfl (by kernel_rfl) (by kernel_rfl) (by kernel_rfl) (by decide) (fun _ _ _ h => h) (Or.inr ⟨by kernel_rfl, rfl⟩) hSS ?_
       refine wpAnyE_take0 (i := 43) (v := undef) rfl (by kernel_rfl) (by kernel_rfl) (by kernel_rfl) (by decide) (fun _ _ _ h => h) (Or.inr ⟨by kernel_rfl, rfl⟩) hSS ?_
       refine wpAnyE_take0 (i := 44) (v := undef) rfl (by kernel_rfl) (by kernel_rfl) (by kernel_rfl) (by decide) (fun _ _ _ h => h) (Or.inr ⟨by kernel_rfl, rfl⟩) hSS ?_
       refine wpAnyE_take0 (i := 45) (v := undef) rfl (by kernel_rfl) (by kernel_rfl) (by kernel_rfl) (by decide) (fun _ _ _ h => h) (Or.inr ⟨by kernel_rfl, rfl⟩) hSS ?_
       simp only [Act.put, List.setIfInBounds_toArray, List.set_cons_succ, List.set_cons_zero, List.getElem_toArray, List.getElem_cons_succ, List.getElem_cons_zero]
       refine wpAnyE_take0 (i := 46) (v := undef) rfl (by kernel_rfl) (by kernel_rfl) (by kernel_rfl) (by decide) (fun _ _ _ h => h) (Or.inr ⟨by kernel_rfl, rfl⟩) hSS ?_
       refine wpAnyE_take0 (i := 47) (v := undef) rfl (by kernel_rfl) (by kernel_rfl) (by kernel_rfl) (by decide) (fun _ _ _ h => h) (Or.inr ⟨by kernel_rfl, rfl⟩) hSS ?_
       refine wpAnyE_take0 (i := 48) (v := undef) rfl (by kernel_rfl) (by kernel_rfl) (by kernel_rfl) (by decide) (fun _ _ _ h => h) (Or.inr ⟨by kernel_rfl, rfl⟩) hSS ?_
       refine wpAnyE_take0 (i := 49) (v := undef) rfl (by kernel_rfl) (by kernel_rfl) (by kernel_rfl) (by decide) (fun _ _ _ h => h) (Or.inr ⟨by kernel_rfl, rfl⟩) hSS ?_
       simp only [Act.put, List.setIfInBounds_toArray, List.set_cons_succ, List.set_cons_zero, List.getElem_toArray, List.getElem_cons_succ, List.getElem_cons_zero]
       refine wpAnyE_take0 (i := 50) (v := undef) rfl (by kernel_rfl) (by kernel_rfl) (by kernel_rfl) (by decide) (fun _ _ _ h => h) (Or.inr ⟨by kernel_rfl, rfl⟩) hSS ?_
       refine wpAnyE_take0 (i := 51) (v := undef) rfl (by kernel_rfl) (by kernel_rfl) (by kernel_rfl) (by decide) (fun _ _ _ h => h) (Or.inr ⟨by kernel_rfl, rfl⟩) hSS ?_
       refine wpAnyE_take0 (i := 52) (v := undef) rfl (by kernel_rfl) (by kernel_rfl) (by kernel_rfl) (by decide) (fun _ _ _ h => h) (Or.inr ⟨by kernel_rfl, rfl⟩) hSS ?_
       refine wpAnyE_take0 (i := 53) (v := undef) rfl (by kernel_rfl) (by kernel_rfl) (by kernel_rfl) (by decide) (fun _ _ _ h => h) (Or.inr ⟨by kernel_rfl, rfl⟩) hSS ?_
       simp only [Act.put, List.setIfInBounds_toArray, List.set_cons_succ, List.set_cons_zero, List.getElem_toArray, List.getElem_cons_succ, List.getElem_cons_zero]
       refine wpAnyE_take0 (i := 54) (v := undef) rfl (by kernel_rfl) (by kernel_rfl) (by kernel_rfl) (by decide) (fun _ _ _ h => h) (Or.inr ⟨by kernel_rfl, rfl⟩) hSS ?_
       refine wpAnyE_take0 (i := 55) (v := undef) rfl (by kernel_rfl) (by kernel_rfl) (by kernel_rfl) (by decide) (fun _ _ _ h => h) (Or.inr ⟨by kernel_rfl, rfl⟩) hSS ?_
       refine wpAnyE_take0 (i := 56) (v := undef) rfl (by kernel_rfl) (by kernel_rfl) (by kernel_rfl) (by decide) (fun _ _ _ h => h) (Or.inr ⟨by kernel_rfl, rfl⟩) hSS ?_
       refine wpAnyE_one (i := 57) (by kernel_rfl) rfl (fun K hK => ?_)
       go_simp
       refine hK.out _ _ ⟨hSS.1, fun _ => trivial⟩ ?_
       clear hK K
       refine wpAnyE_done (by kernel_rfl) ?_ _
       clear hSS
       go_wp2
       go_ret
       exact ⟨ret_bool (by rw [NO.out ND2.out]), hb.drew⟩
      ·have hcd' : (gc == 0) = false := by simpa using hcd
       obtain ⟨x, hx⟩ : ∃ x, x = fullB (resText gc gtn gtx) := ⟨_, rfl⟩
       have HX : Hid _ := hx
       clear hx hcd
       have KP : Hid (∀ W, Below wr.heap.size wr W → W.cell? ⟨b, off + k * 3, none⟩ = some (.int .i64 gs) ∧ W.cell? ⟨b, off + k * 3 + 1, none⟩ = some (.int .i64 gc) ∧ W.cell? ⟨b, off + k * 3 + 2, none⟩ = some (.slice gta gtn gtc)) := fun W hW => ⟨(hW.cell (p := ⟨b, off + k * 3, none⟩) (block_lt e0')).trans e0', (hW.cell (p := ⟨b, off + k * 3 + 1, none⟩) (block_lt e1')).trans e1', (hW.cell (p := ⟨b, off + k * 3 + 2, none⟩) (block_lt e2')).trans e2'⟩
       have hSS := And.intro (KP.out _ (Below.refl _ _).drew) True.intro
       clear e0' e1' e2'
       go_upto_region 6 with fail
       refine wp_region_ends (fun w' => w'.cell? ⟨b, off + k * 3, none⟩ = some (.int .i64 gs) ∧ w'.cell? ⟨b, off + k * 3 + 1, none⟩ = some (.int .i64 gc) ∧ w'.cell? ⟨b, off + k * 3 + 2, none⟩ = some (.slice gta gtn gtc)) (fun _ => True) 57 (by kernel_rfl) ?_
       refine wpAnyE_take0 (i := 0) (v := ?fv0) rfl (by kernel_rfl) (by kernel_rfl) (by kernel_rfl) (by decide) (fun _ _ _ h => h) (Or.inl ⟨by rfl, ?fhy0⟩) hSS ?_
       case fhy0 => (intro wz hSw; (try dsimp only at hSw); go_simp; try (with_reducible rfl))
       refine wpAnyE_take0 (i := 1) (v := ?fv1) rfl (by kernel_rfl) (by kernel_rfl) (by kernel_rfl) (by decide) (fun _ _ _ h => h) (Or.inl ⟨by rfl, ?fhy1⟩) hSS ?_
       case fhy1 => (intro wz hSw; (try dsimp only at hSw); go_simp; try (with_reducible rfl))
       refine wpAnyE_take0 (i := 2) (v := ?fv2) rfl (by kernel_rfl) (by kernel_rfl) (by kernel_rfl) (by decide) (fun _ _ _ h => h) (Or.inl ⟨by rfl, ?fhy2⟩) hSS ?_
       case fhy2 => (intro wz hSw; (try dsimp only at hSw); go_simp; try (with_reducible rfl))
       refine wpAnyE_take0 (i := 3) (v := ?fv3) rfl (by kernel_rfl) (by kernel_rfl) (by kernel_rfl) (by decide) (fun _ _ _ h => h) (Or.inl ⟨by rfl, ?fhy3⟩) hSS ?_
       case fhy3 => (intro wz hSw; (try dsimp only at hSw); go_simp; try (with_reducible rfl))
       simp only [Act.put, List.setIfInBounds_toArray, List.set_cons_succ, List.set_cons_zero, List.getElem_toArray, List.getElem_cons_succ, List.getElem_cons_zero]
       refine wpAnyE_take0 (i := 4) (v := ?fv4) rfl (by kernel_rfl) (by kernel_rfl) (by kernel_rfl) (by decide) (fun _ _ _ h => h) (Or.inl ⟨by rfl, ?fhy4⟩) hSS ?_
       case fhy4 => (intro wz hSw; (try dsimp only at hSw); go_simp; try (with_reducible rfl))
       refine wpAnyE_one (i := 5) (by kernel_rfl) rfl (fun K hK => ?_)
       go_simp
       refine (in_any _ _ _ _).mono ?_
       rintro ee wq ⟨rfl, rfl⟩
       rw [h1]
       (try dsimp only)
       refine hK.out _ _ ⟨hSS.1, fun _ => trivial⟩ ?_
       clear hK K
       refine wpAnyE_take0 (i := 6) (v := ?fv6) rfl (by kernel_rfl) (by kernel_rfl) (by kernel_rfl) (by decide) (fun _ _ _ h => h) (Or.inl ⟨by rfl, ?fhy6⟩) hSS ?_
       case fhy6 => (intro wz hSw; (try dsimp only at hSw); go_simp; try (with_reducible rfl))
       refine wpAnyE_take0 (i := 7) (v := ?fv7) rfl (by kernel_rfl) (by kernel_rfl) (by kernel_rfl) (by decide) (fun _ _ _ h => h) (Or.inl ⟨by rfl, ?fhy7⟩) hSS ?_
       case fhy7 => (intro wz hSw; (try dsimp only at hSw); go_simp; try (with_reducible rfl))
       refine wpAnyE_take0 (i := 8) (v := ?fv8) rfl (by kernel_rfl) (by kernel_rfl) (by kernel_rfl) (by decide) (fun _ _ _ h => h) (Or.inl ⟨by rfl, ?fhy8⟩) hSS ?_
       case fhy8 => (intro wz hSw; (try dsimp only at hSw); go_simp; try (with_reducible rfl))
       refine wpAnyE_take0 (i := 9) (v := ?fv9) rfl (by kernel_rfl) (by kernel_rfl) (by kernel_rfl) (by decide) (fun _ _ _ h => h) (Or.inl ⟨by rfl, ?fhy9⟩) hSS ?_
       case fhy9 => (intro wz hSw; (try dsimp only at hSw); go_simp; try (with_reducible rfl))
       simp only [Act.put, List.setIfInBounds_toArray, List.set_cons_succ, List.set_cons_zero, List.getElem_toArray, List.getElem_cons_succ, List.getElem_cons_zero]
       refine wpAnyE_take0 (i := 10) (v := ?fv10) rfl (by kernel_rfl) (by kernel_rfl) (by kernel_rfl) (by decide) (fun _ _ _ h => h) (Or.inl ⟨by rfl, ?fhy10⟩) hSS ?_
       case fhy10 => (intro wz hSw; (try dsimp only at hSw); go_simp; try (with_reducible rfl))
       refine wpAnyE_take0 (i := 11) (v := ?fv11) rfl (by kernel_rfl) (by kernel_rfl) (by kernel_rfl) (by decide) (fun _ _ _ h => h) (Or.inl ⟨by rfl, ?fhy11⟩) hSS ?_
       case fhy11 => (intro wz hSw; (try dsimp only at hSw); go_simp; try (with_reducible rfl))
       refine wpAnyE_take0 (i := 12) (v := ?fv12) rfl (by kernel_rfl) (by kernel_rfl) (by kernel_rfl) (by decide) (fun _ _ _ h => h) (Or.inl ⟨by rfl, ?fhy12⟩) hSS ?_
       case fhy12 => (intro wz hSw; (try dsimp only at hSw); go_simp; try (with_reducible rfl))
       refine wpAnyE_take0 (i := 13) (v := ?fv13) rfl (by kernel_rfl) (by kernel_rfl) (by kernel_rfl) (by decide) (fun _ _ _ h => h) (Or.inl ⟨by rfl, ?fhy13⟩) hSS ?_
       case fhy13 => (intro wz hSw; (try dsimp only at hSw); go_simp; try (with_reducible rfl))
       simp only [Act.put, List.setIfInBounds_toArray, List.set_cons_succ, List.set_cons_zero, List.getElem_toArray, List.getElem_cons_succ, List.getElem_cons_zero]
       refine wpAnyE_take0 (i := 14) (v := ?fv14) rfl (by kernel_rfl) (by kernel_rfl) (by kernel_rfl) (by decide) (fun _ _ _ h => h) (Or.inl ⟨by rfl, ?fhy14⟩) hSS ?_
       case fhy14 => (intro wz hSw; (try dsimp only at hSw); go_simp; try (with_reducible rfl))
       refine wpAnyE_take0 (i := 15) (v := ?fv15) rfl (by kernel_rfl) (by kernel_rfl) (by kernel_rfl) (by decide) (fun _ _ _ h => h) (Or.inl ⟨by rfl, ?fhy15⟩) hSS ?_
       case fhy15 => (intro wz hSw; (try dsimp only at hSw); go_simp; try (with_reducible rfl))
       refine wpAnyE_take0 (i := 16) (v := ?fv16) rfl (by kernel_rfl) (by kernel_rfl) (by kernel_rfl) (by decide) (fun _ _ _ h => h) (Or.inl ⟨by rfl, ?fhy16⟩) hSS ?_
       case fhy16 => (intro wz hSw; (try dsimp only at hSw); go_simp; try (with_reducible rfl))
       refine wpAnyE_take0 (i := 17) (v := ?fv17) rfl (by kernel_rfl) (by kernel_rfl) (by kernel_rfl) (by decide) (fun _ _ _ h => h) (Or.inl ⟨by rfl, ?fhy17⟩) hSS ?_
       case fhy17 => (intro wz hSw; (try dsimp only at hSw); go_simp; try (with_reducible rfl))
       simp only [Act.put, List.setIfInBounds_toArray, List.set_cons_succ, List.set_cons_zero, List.getElem_toArray, List.getElem_cons_succ, List.getElem_cons_zero]
       refine wpAnyE_take0 (i := 18) (v := ?fv18) rfl (by kernel_rfl) (by kernel_rfl) (by kernel_rfl) (by decide) (fun _ _ _ h => h) (Or.inl ⟨by rfl, ?fhy18⟩) hSS ?_
       case fhy18 => (intro wz hSw; (try dsimp only at hSw); go_simp; try (with_reducible rfl))
       refine wpAnyE_take0 (i := 19) (v := ?fv19) rfl (by kernel_rfl) (by kernel_rfl) (by kernel_rfl) (by decide) (fun _ _ _ h => h) (Or.inl ⟨by rfl, ?fhy19⟩) hSS ?_
       case fhy19 => (intro wz hSw; (try dsimp only at hSw); go_simp; try (with_reducible rfl))
       refine wpAnyE_take0 (i := 20) (v := ?fv20) rfl (by kernel_rfl) (by kernel_rfl) (by kernel_rfl) (by decide) (fun _ _ _ h => h) (Or.inl ⟨by rfl, ?fhy20⟩) hSS ?_
       case fhy20 => (intro wz hSw; (try dsimp only at hSw); go_simp; try (with_reducible rfl))
       refine wpAnyE_take0 (i := 21) (v := ?fv21) rfl (by kernel_rfl) (by kernel_rfl) (by kernel_rfl) (by decide) (fun _ _ _ h => h) (Or.inl ⟨by rfl, ?fhy21⟩) hSS ?_
       case fhy21 => (intro wz hSw; (try dsimp only at hSw); go_simp; try (with_reducible rfl))
       simp only [Act.put, List.setIfInBounds_toArray, List.set_cons_succ, List.set_cons_zero, List.getElem_toArray, List.getElem_cons_succ, List.getElem_cons_zero]
       refine wpAnyE_take0 (i := 22) (v := ?fv22) rfl (by kernel_rfl) (by kernel_rfl) (by kernel_rfl) (by decide) (fun _ _ _ h => h) (Or.inl ⟨by rfl, ?fhy22⟩) hSS ?_
       case fhy22 => (intro wz hSw; (try dsimp only at hSw); go_simp; try (with_reducible rfl))
       refine wpAnyE_take0 (i := 23) (v := ?fv23) rfl (by kernel_rfl) (by kernel_rfl) (by kernel_rfl) (by decide) (fun _ _ _ h => h) (Or.inl ⟨by rfl, ?fhy23⟩) hSS ?_
       case fhy23 => (intro wz hSw; (try dsimp only at hSw); go_simp; try (with_reducible rfl))
       refine wpAnyE_take0 (i := 24) (v := ?fv24) rfl (by kernel_rfl) (by kernel_rfl) (by kernel_rfl) (by decide) (fun _ _ _ h => h) (Or.inl ⟨by rfl, ?fhy24⟩) hSS ?_
       case fhy24 => (intro wz hSw; (try dsimp only at hSw); go_simp; try (with_reducible rfl))
       refine wpAnyE_take0 (i := 25) (v := ?fv25) rfl (by kernel_rfl) (by kernel_rfl) (by kernel_rfl) (by decide) (fun _ _ _ h => h) (Or.inl ⟨by rfl, ?fhy25⟩) hSS ?_
       case fhy25 => (intro wz hSw; (try dsimp only at hSw); go_simp; try (with_reducible rfl))
       simp only [Act.put, List.setIfInBounds_toArray, List.set_cons_succ, List.set_cons_zero, List.getElem_toArray, List.getElem_cons_succ, List.getElem_cons_zero]
       refine wpAnyE_take0 (i := 26) (v := ?fv26) rfl (by kernel_rfl) (by kernel_rfl) (by kernel_rfl) (by decide) (fun _ _ _ h => h) (Or.inl ⟨by rfl, ?fhy26⟩) hSS ?_
       case fhy26 => (intro wz hSw; (try dsimp only at hSw); go_simp; try (with_reducible rfl))
       refine wpAnyE_take0 (i := 27) (v := ?fv27) rfl (by kernel_rfl) (by kernel_rfl) (by kernel_rfl) (by decide) (fun _ _ _ h => h) (Or.inl ⟨by rfl, ?fhy27⟩) hSS ?_
       case fhy27 => (intro wz hSw; (try dsimp only at hSw); go_simp; try (with_reducible rfl))
       refine wpAnyE_take0 (i := 28) (v := ?fv28) rfl (by kernel_rfl) (by kernel_rfl) (by kernel_rfl) (by decide) (fun _ _ _ h => h) (Or.inl ⟨by rfl, ?fhy28⟩) hSS ?_
       case fhy28 => (intro wz hSw; (try dsimp only at hSw); go_simp; try (with_reducible rfl))
       refine wpAnyE_take0 (i := 29) (v := ?fv29) rfl (by kernel_rfl) (by kernel_rfl) (by kernel_rfl) (by decide) (fun _ _ _ h => h) (Or.inl ⟨by rfl, ?fhy29⟩) hSS ?_
       case fhy29 => (intro wz hSw; (try dsimp only at hSw); go_simp; try (with_reducible rfl))
       simp only [Act.put, List.setIfInBounds_toArray, List.set_cons_succ, List.set_cons_zero, List.getElem_toArray, List.getElem_cons_succ, List.getElem_cons_zero]
       refine wpAnyE_take0 (i := 30) (v := ?fv30) rfl (by kernel_rfl) (by kernel_rfl) (by kernel_rfl) (by decide) (fun _ _ _ h => h) (Or.inl ⟨by rfl, ?fhy30⟩) hSS ?_
       case fhy30 => (intro wz hSw; (try dsimp only at hSw); go_simp; try (with_reducible rfl))
       refine wpAnyE_take0 (i := 31) (v := undef) rfl (by kernel_rfl) (by kernel_rfl) (by kernel_rfl) (by decide) (fun _ _ _ h => h) (Or.inr ⟨by kernel_rfl, rfl⟩) hSS ?_
       refine wpAnyE_take0 (i := 32) (v := undef) rfl (by kernel_rfl) (by kernel_rfl) (by kernel_rfl) (by decide) (fun _ _ _ h => h) (Or.inr ⟨by kernel_rfl, rfl⟩) hSS ?_
       refine wpAnyE_take0 (i := 33) (v := undef) rfl (by kernel_rfl) (by kernel_rfl) (by kernel_rfl) (by decide) (fun _ _ _ h => h) (Or.inr ⟨by kernel_rfl, rfl⟩) hSS ?_
       simp only [Act.put, List.setIfInBounds_toArray, List.set_cons_succ, List.set_cons_zero, List.getElem_toArray, List.getElem_cons_succ, List.getElem_cons_zero]
       refine wpAnyE_take0 (i := 34) (v := undef) rfl (by kernel_rfl) (by kernel_rfl) (by kernel_rfl) (by decide) (fun _ _ _ h => h) (Or.inr ⟨by kernel_rfl, rfl⟩) hSS ?_
       refine wpAnyE_take0 (i := 35) (v := undef) rfl (by kernel_rfl) (by kernel_rfl) (by kernel_rfl) (by decide) (fun _ _ _ h => h) (Or.inr ⟨by kernel_rfl, rfl⟩) hSS ?_
       refine wpAnyE_take0 (i := 36) (v := undef) rfl (by kernel_rfl) (by kernel_rfl) (by kernel_rfl) (by decide) (fun _ _ _ h => h) (Or.inr ⟨by kernel_rfl, rfl⟩) hSS ?_
       refine wpAnyE_take0 (i := 37) (v := undef) rfl (by kernel_rfl) (by kernel_rfl) (by kernel_rfl) (by decide) (fun _ _ _ h => h) (Or.inr ⟨by kernel_rfl, rfl⟩) hSS ?_
       simp only [Act.put, List.setIfInBounds_toArray, List.set_cons_succ, List.set_cons_zero, List.getElem_toArray, List.getElem_cons_succ, List.getElem_cons_zero]
       refine wpAnyE_take0 (i := 38) (v := undef) rfl (by kernel_rfl) (by kernel_rfl) (by kernel_rfl) (by decide) (fun _ _ _ h => h) (Or.inr ⟨by kernel_rfl, rfl⟩) hSS ?_
       refine wpAnyE_take0 (i := 39) (v := ?fv39) rfl (by kernel_rfl) (by kernel_rfl) (by kernel_rfl) (by decide) (fun _ _ _ h => h) (Or.inl ⟨by rfl, ?fhy39⟩) hSS ?_
       case fhy39 => (intro wz hSw; (try dsimp only at hSw); go_simp; try (with_reducible rfl))
       refine wpAnyE_take0 (i := 40) (v := ?fv40) rfl (by kernel_rfl) (by kernel_rfl) (by kernel_rfl) (by decide) (fun _ _ _ h => h) (Or.inl ⟨by rfl, ?fhy40⟩) hSS ?_
       case fhy40 => (intro wz hSw; (try dsimp only at hSw); go_simp; try (with_reducible rfl))
       refine wpAnyE_take0 (i := 41) (v := ?fv41) rfl (by kernel_rfl) (by kernel_rfl) (by kernel_rfl) (by decide) (fun _ _ _ h => h) (Or.inl ⟨by rfl, ?fhy41⟩) hSS ?_
       case fhy41 => (intro wz hSw; (try dsimp only at hSw); go_simp; try (with_reducible rfl))
       simp only [Act.put, List.setIfInBounds_toArray, List.set_cons_succ, List.set_cons_zero, List.getElem_toArray, List.getElem_cons_succ, List.getElem_cons_zero]
       refine wpAnyE_take0 (i := 42) (v := ?fv42) rfl (by kernel_rfl) (by kernel_rfl) (by kernel_rfl) (by decide) (fun _ _ _ h => h) (Or.inl ⟨by rfl, ?fhy42⟩) hSS ?_
       case fhy42 => (intro wz hSw; (try dsimp only at hSw); go_simp; try (with_reducible rfl))
       refine wpAnyE_take0 (i := 43) (v := ?fv43) rfl (by kernel_rfl) (by kernel_rfl) (by kernel_rfl) (by decide) (fun _ _ _ h => h) (Or.inl ⟨by rfl, ?fhy43⟩) hSS ?_
       case fhy43 => (intro wz hSw; (try dsimp only at hSw); go_simp; try (with_reducible rfl))
       refine wpAnyE_take0 (i := 44) (v := ?fv44) rfl (by kernel_rfl) (by kernel_rfl) (by kernel_rfl) (by decide) (fun _ _ _ h => h) (Or.inl ⟨by rfl, ?fhy44⟩) hSS ?_
       case fhy44 => (intro wz hSw; (try dsimp only at hSw); go_simp; try (with_reducible rfl))
       refine wpAnyE_take0 (i := 45) (v := ?fv45) rfl (by kernel_rfl) (by kernel_rfl) (by kernel_rfl) (by decide) (fun _ _ _ h => h) (Or.inl ⟨by rfl, ?fhy45⟩) hSS ?_
       case fhy45 => (intro wz hSw; (try dsimp only at hSw); go_simp; try (with_reducible rfl))
       simp only [Act.put, List.setIfInBounds_toArray, List.set_cons_succ, List.set_cons_zero, List.getElem_toArray, List.getElem_cons_succ, List.getElem_cons_zero]
       refine wpAnyE_take0 (i := 46) (v := ?fv46) rfl (by kernel_rfl) (by kernel_rfl) (by kernel_rfl) (by decide) (fun _ _ _ h => h) (Or.inl ⟨by rfl, ?fhy46⟩) hSS ?_
       case fhy46 => (intro wz hSw; (try dsimp only at hSw); go_simp; try (with_reducible rfl))
       refine wpAnyE_take0 (i := 47) (v := ?fv47) rfl (by kernel_rfl) (by kernel_rfl) (by kernel_rfl) (by decide) (fun _ _ _ h => h) (Or.inl ⟨by rfl, ?fhy47⟩) hSS ?_
       case fhy47 => (intro wz hSw; (try dsimp only at hSw); go_simp; try (with_reducible rfl))
       refine wpAnyE_take0 (i := 48) (v := ?fv48) rfl (by kernel_rfl) (by kernel_rfl) (by kernel_rfl) (by decide) (fun _ _ _ h => h) (Or.inl ⟨by rfl, ?fhy48⟩) hSS ?_
       case fhy48 => (intro wz hSw; (try dsimp only at hSw); go_simp; try (with_reducible rfl))
       refine wpAnyE_take0 (i := 49) (v := ?fv49) rfl (by kernel_rfl) (by kernel_rfl) (by kernel_rfl) (by decide) (fun _ _ _ h => h) (Or.inl ⟨by rfl, ?fhy49⟩) hSS ?_
       case fhy49 => (intro wz hSw; (try dsimp only at hSw); go_simp; try (with_reducible rfl))
       simp only [Act.put, List.setIfInBounds_toArray, List.set_cons_succ, List.set_cons_zero, List.getElem_toArray, List.getElem_cons_succ, List.getElem_cons_zero]
       refine wpAnyE_take0 (i := 50) (v := ?fv50) rfl (by kernel_rfl) (by kernel_rfl) (by kernel_rfl) (by decide) (fun _ _ _ h => h) (Or.inl ⟨by rfl, ?fhy50⟩) hSS ?_
       case fhy50 => (intro wz hSw; (try dsimp only at hSw); go_simp; try (with_reducible rfl))
       refine wpAnyE_take0 (i := 51) (v := ?fv51) rfl (by kernel_rfl) (by kernel_rfl) (by kernel_rfl) (by decide) (fun _ _ _ h => h) (Or.inl ⟨by rfl, ?fhy51⟩) hSS ?_
       case fhy51 => (intro wz hSw; (try dsimp only at hSw); go_simp; try (with_reducible rfl))
       refine wpAnyE_take0 (i := 52) (v := ?fv52) rfl (by kernel_rfl) (by kernel_rfl) (by kernel_rfl) (by decide) (fun _ _ _ h => h) (Or.inl ⟨by rfl, ?fhy52⟩) hSS ?_
       case fhy52 => (intro wz hSw; (try dsimp only at hSw); go_simp; try (with_reducible rfl))
       refine wpAnyE_take0 (i := 53) (v := ?fv53) rfl (by kernel_rfl) (by kernel_rfl) (by kernel_rfl) (by decide) (fun _ _ _ h => h) (Or.inl ⟨by rfl, ?fhy53⟩) hSS ?_
       case fhy53 => (intro wz hSw; (try dsimp only at hSw); go_simp; try (with_reducible rfl))
       simp only [Act.put, List.setIfInBounds_toArray, List.set_cons_succ, List.set_cons_zero, List.getElem_toArray, List.getElem_cons_succ, List.getElem_cons_zero]
       refine wpAnyE_one (i := 54) (by kernel_rfl) rfl (fun K hK => ?_)
       go_simp
       refine (sresok_any _ _ _ _ gtx _ (hI.below (Below.refl _ _).drew) hz').mono ?_
       rintro ee w1 ⟨rfl, bd1⟩
       rw [← HX.out]
       have b1 := below_of_drew bd1
       have hb1 := hb.trans (b1.mono hb.size)
       (try dsimp only)
       replace hSS := And.intro (KP.out w1 b1) True.intro
       refine hK.out _ _ ⟨hSS.1, fun _ => trivial⟩ ?_
       clear hK K
       refine wpAnyE_take0 (i := 55) (v := ?fv55) rfl (by kernel_rfl) (by kernel_rfl) (by kernel_rfl) (by decide) (fun _ _ _ h => h) (Or.inl ⟨by rfl, ?fhy55⟩) hSS ?_
       case fhy55 => (intro wz hSw; (try dsimp only at hSw); go_simp; try (with_reducible rfl))
       refine wpAnyE_take0 (i := 56) (v := ?fv56) rfl (by kernel_rfl) (by kernel_rfl) (by kernel_rfl) (by decide) (fun _ _ _ h => h) (Or.inl ⟨by rfl, ?fhy56⟩) hSS ?_
       case fhy56 => (intro wz hSw; (try dsimp only at hSw); go_simp; try (with_reducible rfl))
       refine wpAnyE_one (i := 57) (by kernel_rfl) rfl (fun K hK => ?_)
       go_simp
       refine hK.out _ _ ⟨hSS.1, fun _ => trivial⟩ ?_
       clear hK K
       refine wpAnyE_done (by kernel_rfl) ?_ _
       clear hSS
       cases x
       ·go_wp2
        go_ret
        exact ⟨ret_bool (by rw [NO.out (by rw [ND.out, ← HX.out])]), hb1⟩
       ·go_wp2
        go_roundw
        case rel => exact ⟨k + 1, by omega, by go_num, hb1, YES.out (by rw [ND.out, ← HX.out])⟩
        case measure => simp [intOf]; omega
   ·go_wp2
    go_ret
    exact ⟨ret_bool (by rw [dones_is HC.out, dones_end (by rw [HN.out]; omega) HA.out]), hb⟩
 ·have hc' : ((dn : Int) != cl) = true := by simpa using hc
  go_enter Tryz.func67, Tryz.ntmps67
  go_wp2
  go_ret
  exact ⟨ret_bool (by rw [dones_not hc]), B0⟩

end Go.Proofs.YtdigmokjedckeaaGreatDoor
namespace Go.Proofs.YtdigmokjedckeaaGreatDoor
open Go.RowKit Go.Deep
set_option linter.unusedVariables false
set_option maxRecDepth 100000

theorem pins_ba {W : World} {a : Option Addr} {lo : Nat} {R : Nat → Bool} (h : true = false ∨ (true = true ∧ ∃ G, a = some ⟨G, 0, none⟩ ∧ lo ≤ G ∧ OwnBB W G R)) : BA W a 3 R := by
 rcases h with h | ⟨-, G, rfl, -, o⟩
 ·cases h
 ·exact o.ba

set_option maxHeartbeats 6400000 in
theorem ikeeps_any (cl : Int) (ad : Option Addr) (N cap : Nat) (ga : Option Addr) (gn gc : Nat) (sa : Option Addr) (sn sc : Nat) (ss : List L2V) (G S : List Int) (ba : Option Addr) (bn bc : Nat) (bx : List Int) (s : Int) (aa : Option Addr) (an ac : Nat) (ax : List Int) (w : World) (hp : PlAt w ad N ss ga gn G sa sn S) (hc : catB N ss = true) (hb : Ints w ba bn bx) (zb : bn ≤ 1048576) (ha : Ints w aa an ax) (za : an ≤ 1048576) :
  Calls Tryz.prog 33 #[plV cl ad N cap ga gn gc sa sn sc, .slice ba bn bc, .int .i64 s, .slice aa an ac] w fun e w' => e = .returned (.bool (keepT bn gn bx G (catP ss) s an ax && stillB (pinsA ss) ax)) ∧ Below w.heap.size w w' := by
 have q0 := Cel.new w [.int .i64 cl, .slice ad N cap, .slice ga gn gc, .slice sa sn sc] 34
 have B0 := (Below.refl w.heap.size w).alloc (Nat.le_refl _) (.cells #[.int .i64 cl, .slice ad N cap, .slice ga gn gc, .slice sa sn sc] 34)
 obtain ⟨W0, hW0⟩ : ∃ W, W = w.alloc (.cells #[.int .i64 cl, .slice ad N cap, .slice ga gn gc, .slice sa sn sc] 34) := ⟨_, rfl⟩
 rw [← hW0] at q0 B0
 have HC : Hid (catB N ss = true) := hc
 have HCT : Hid (catT (catB N ss) (catP ss) = catP ss) := by show _ = _; rw [hc]; rfl
 have HLN : Hid ((catP ss).length ≤ 600000) := catP_len (by have := (catB_parts hc).1; rw [hp.ha]; exact this)
 clear hc
 obtain ⟨V, hV⟩ : ∃ V, V = (keepT bn gn bx G (catP ss) s an ax && stillB (pinsA ss) ax) := ⟨_, rfl⟩
 rw [← hV]
 have HW : Hid (V = (keepT bn gn bx G (catP ss) s an ax && stillB (pinsA ss) ax)) := hV
 clear hV
 cases h3 : keepT bn gn bx G (catP ss) s an ax
 ·have HV : Hid (false = V) := by show _ = _; rw [HW.out, h3]; rfl
  have KP : Hid (∀ W, Below W0.heap.size W0 W → W.cell? ⟨w.heap.size, 0, none⟩ = some (.int .i64 cl) ∧ W.cell? ⟨w.heap.size, 1, none⟩ = some (.slice ad N cap) ∧ W.cell? ⟨w.heap.size, 2, none⟩ = some (.slice ga gn gc) ∧ W.cell? ⟨w.heap.size, 3, none⟩ = some (.slice sa sn sc)) := fun W hW => (q0.below hW).quadP
  have hSS := And.intro (KP.out _ (Below.refl _ _).drew) True.intro
  go_enter Tryz.func33, Tryz.ntmps33
  go_upto_region 1 with fail
  rw [← hW0]
  clear hW0 q0
  refine wp_region_ends (fun w' => w'.cell? ⟨w.heap.size, 0, none⟩ = some (.int .i64 cl) ∧ w'.cell? ⟨w.heap.size, 1, none⟩ = some (.slice ad N cap) ∧ w'.cell? ⟨w.heap.size, 2, none⟩ = some (.slice ga gn gc) ∧ w'.cell? ⟨w.heap.size, 3, none⟩ = some (.slice sa sn sc)) (fun _ => True) 18 (by kernel_rfl) ?_
  refine wpAnyE_take0 (i := 0) (v := ?kv0) rfl (by kernel_rfl) (by kernel_rfl) (by kernel_rfl) (by decide) (fun _ _ _ h => h) (Or.inl ⟨by rfl, ?khy0⟩) hSS ?_
  case khy0 => (intro wz hSw; (try dsimp only at hSw); go_simp; try (with_reducible rfl))
  refine wpAnyE_take0 (i := 1) (v := ?kv1) rfl (by kernel_rfl) (by kernel_rfl) (by kernel_rfl) (by decide) (fun _ _ _ h => h) (Or.inl ⟨by rfl, ?khy1⟩) hSS ?_
  case khy1 => (intro wz hSw; (try dsimp only at hSw); go_simp; try (with_reducible rfl))
  refine wpAnyE_take0 (i := 2) (v := ?kv2) rfl (by kernel_rfl) (by kernel_rfl) (by kernel_rfl) (by decide) (fun _ _ _ h => h) (Or.inl ⟨by rfl, ?khy2⟩) hSS ?_
  case khy2 => (intro wz hSw; (try dsimp only at hSw); go_simp; try (with_reducible rfl))
  refine wpAnyE_take0 (i := 3) (v := ?kv3) rfl (by kernel_rfl) (by kernel_rfl) (by kernel_rfl) (by decide) (fun _ _ _ h => h) (Or.inl ⟨by rfl, ?khy3⟩) hSS ?_
  case khy3 => (intro wz hSw; (try dsimp only at hSw); go_simp; try (with_reducible rfl))
  simp only [Act.put, List.setIfInBounds_toArray, List.set_cons_succ, List.set_cons_zero, List.getElem_toArray, List.getElem_cons_succ, List.getElem_cons_zero]
  refine wpAnyE_take0 (i := 4) (v := ?kv4) rfl (by kernel_rfl) (by kernel_rfl) (by kernel_rfl) (by decide) (fun _ _ _ h => h) (Or.inl ⟨by rfl, ?khy4⟩) hSS ?_
  case khy4 => (intro wz hSw; (try dsimp only at hSw); go_simp; try (with_reducible rfl))
  refine wpAnyE_take0 (i := 5) (v := ?kv5) rfl (by kernel_rfl) (by kernel_rfl) (by kernel_rfl) (by decide) (fun _ _ _ h => h) (Or.inl ⟨by rfl, ?khy5⟩) hSS ?_
  case khy5 => (intro wz hSw; (try dsimp only at hSw); go_simp; try (with_reducible rfl))
  refine wpAnyE_take0 (i := 7) (v := ?kv7) rfl (by kernel_rfl) (by kernel_rfl) (by kernel_rfl) (by decide) (fun _ _ _ h => h) (Or.inl ⟨by rfl, ?khy7⟩) hSS ?_
  case khy7 => (intro wz hSw; (try dsimp only at hSw); go_simp; try (with_reducible rfl))
  refine wpAnyE_take0 (i := 8) (v := ?kv8) rfl (by kernel_rfl) (by kernel_rfl) (by kernel_rfl) (by decide) (fun _ _ _ h => h) (Or.inl ⟨by rfl, ?khy8⟩) hSS ?_
  case khy8 => (intro wz hSw; (try dsimp only at hSw); go_simp; try (with_reducible rfl))
  simp only [Act.put, List.setIfInBounds_toArray, List.set_cons_succ, List.set_cons_zero, List.getElem_toArray, List.getElem_cons_succ, List.getElem_cons_zero]
  refine wpAnyE_one (i := 6) (by kernel_rfl) rfl (fun K hK => ?_)
  go_simp
  refine (icatforms_at (catP ss) _ _ _ ss _ hp.ha (hp.below B0.drew).a hp.za HCT.out).mono ?_
  rintro ee w1 ⟨fa, fc, rfl, bd1, uf⟩
  have b1 := below_of_drew bd1
  have B1 := B0.trans (b1.mono B0.size)
  obtain ⟨ts, hts, hx⟩ := uf.isg
  have HX : Hid _ := hx
  clear uf hx bd1
  (try dsimp only)
  replace hSS := And.intro (KP.out w1 b1) True.intro
  refine hK.out _ _ ⟨hSS.1, fun _ => trivial⟩ ?_
  clear hK K
  refine wpAnyE_one (i := 9) (by kernel_rfl) rfl (fun K hK => ?_)
  go_simp
  refine (ikeep_any _ _ _ _ _ _ _ _ _ _ _ _ _ bx G ax ts _ (hb.below B1) (hp.below B1).g (ha.below B1) (map_len HX.out) hts zb hp.zg za (Nat.le_trans HLN.out (by omega))).mono ?_
  rintro ee w2 ⟨rfl, b2⟩
  rw [keep_of hts HX.out, h3]
  have b12 := b1.trans (b2.mono b1.size)
  have B2 := B1.trans (b2.mono B1.size)
  (try dsimp only)
  replace hSS := And.intro (KP.out w2 b12) True.intro
  refine hK.out _ _ ⟨hSS.1, fun _ => trivial⟩ ?_
  clear hK K
  refine wpAnyE_take0 (i := 10) (v := ?kv10) rfl (by kernel_rfl) (by kernel_rfl) (by kernel_rfl) (by decide) (fun _ _ _ h => h) (Or.inl ⟨by rfl, ?khy10⟩) hSS ?_
  case khy10 => (intro wz hSw; (try dsimp only at hSw); go_simp; try (with_reducible rfl))
  refine wpAnyE_take0 (i := 11) (v := undef) rfl (by kernel_rfl) (by kernel_rfl) (by kernel_rfl) (by decide) (fun _ _ _ h => h) (Or.inr ⟨by kernel_rfl, rfl⟩) hSS ?_
  refine wpAnyE_take0 (i := 12) (v := undef) rfl (by kernel_rfl) (by kernel_rfl) (by kernel_rfl) (by decide) (fun _ _ _ h => h) (Or.inr ⟨by kernel_rfl, rfl⟩) hSS ?_
  refine wpAnyE_take0 (i := 14) (v := undef) rfl (by kernel_rfl) (by kernel_rfl) (by kernel_rfl) (by decide) (fun _ _ _ h => h) (Or.inr ⟨by kernel_rfl, rfl⟩) hSS ?_
  simp only [Act.put, List.setIfInBounds_toArray, List.set_cons_succ, List.set_cons_zero, List.getElem_toArray, List.getElem_cons_succ, List.getElem_cons_zero]
  refine wpAnyE_take0 (i := 13) (v := undef) rfl (by kernel_rfl) (by kernel_rfl) (by kernel_rfl) (by decide) (fun _ _ _ h => h) (Or.inr ⟨by kernel_rfl, rfl⟩) hSS ?_
  refine wpAnyE_take0 (i := 15) (v := undef) rfl (by kernel_rfl) (by kernel_rfl) (by kernel_rfl) (by decide) (fun _ _ _ h => h) (Or.inr ⟨by kernel_rfl, rfl⟩) hSS ?_
  refine wpAnyE_take0 (i := 16) (v := undef) rfl (by kernel_rfl) (by kernel_rfl) (by kernel_rfl) (by decide) (fun _ _ _ h => h) (Or.inr ⟨by kernel_rfl, rfl⟩) hSS ?_
  refine wpAnyE_take0 (i := 17) (v := ?kv17) rfl (by kernel_rfl) (by kernel_rfl) (by kernel_rfl) (by decide) (fun _ _ _ h => h) (Or.inl ⟨by rfl, ?khy17⟩) hSS ?_
  case khy17 => (intro wz hSw; (try dsimp only at hSw); go_simp; try (with_reducible rfl))
  simp only [Act.put, List.setIfInBounds_toArray, List.set_cons_succ, List.set_cons_zero, List.getElem_toArray, List.getElem_cons_succ, List.getElem_cons_zero]
  refine wpAnyE_one (i := 18) (by kernel_rfl) rfl (fun K hK => ?_)
  go_simp
  refine hK.out _ _ ⟨hSS.1, fun _ => trivial⟩ ?_
  clear hK K
  refine wpAnyE_done (by kernel_rfl) ?_ _
  clear hSS
  go_wp2
  go_ret
  exact ⟨ret_bool HV.out, B2⟩
 obtain rfl : an = 3 := (keepT_elim h3).2.2
 obtain ⟨x4, h4⟩ : ∃ x, x = !stillB (pinsA ss) ax := ⟨_, rfl⟩
 have HST : Hid (x4 = !stillB (pinsA ss) ax) := h4
 clear h4
 have KP : Hid (∀ W, Below W0.heap.size W0 W → W.cell? ⟨w.heap.size, 0, none⟩ = some (.int .i64 cl) ∧ W.cell? ⟨w.heap.size, 1, none⟩ = some (.slice ad N cap) ∧ W.cell? ⟨w.heap.size, 2, none⟩ = some (.slice ga gn gc) ∧ W.cell? ⟨w.heap.size, 3, none⟩ = some (.slice sa sn sc)) := fun W hW => (q0.below hW).quadP
 have hSS := And.intro (KP.out _ (Below.refl _ _).drew) True.intro
 go_enter Tryz.func33, Tryz.ntmps33
 go_upto_region 1 with fail
 rw [← hW0]
 clear hW0 q0
 refine wp_region_ends (fun w' => w'.cell? ⟨w.heap.size, 0, none⟩ = some (.int .i64 cl) ∧ w'.cell? ⟨w.heap.size, 1, none⟩ = some (.slice ad N cap) ∧ w'.cell? ⟨w.heap.size, 2, none⟩ = some (.slice ga gn gc) ∧ w'.cell? ⟨w.heap.size, 3, none⟩ = some (.slice sa sn sc)) (fun _ => True) 18 (by kernel_rfl) ?_
 refine wpAnyE_take0 (i := 0) (v := ?lv0) rfl (by kernel_rfl) (by kernel_rfl) (by kernel_rfl) (by decide) (fun _ _ _ h => h) (Or.inl ⟨by rfl, ?lhy0⟩) hSS ?_
 case lhy0 => (intro wz hSw; (try dsimp only at hSw); go_simp; try (with_reducible rfl))
 refine wpAnyE_take0 (i := 1) (v := ?lv1) rfl (by kernel_rfl) (by kernel_rfl) (by kernel_rfl) (by decide) (fun _ _ _ h => h) (Or.inl ⟨by rfl, ?lhy1⟩) hSS ?_
 case lhy1 => (intro wz hSw; (try dsimp only at hSw); go_simp; try (with_reducible rfl))
 refine wpAnyE_take0 (i := 2) (v := ?lv2) rfl (by kernel_rfl) (by kernel_rfl) (by kernel_rfl) (by decide) (fun _ _ _ h => h) (Or.inl ⟨by rfl, ?lhy2⟩) hSS ?_
 case lhy2 => (intro wz hSw; (try dsimp only at hSw); go_simp; try (with_reducible rfl))
 refine wpAnyE_take0 (i := 3) (v := ?lv3) rfl (by kernel_rfl) (by kernel_rfl) (by kernel_rfl) (by decide) (fun _ _ _ h => h) (Or.inl ⟨by rfl, ?lhy3⟩) hSS ?_
 case lhy3 => (intro wz hSw; (try dsimp only at hSw); go_simp; try (with_reducible rfl))
 simp only [Act.put, List.setIfInBounds_toArray, List.set_cons_succ, List.set_cons_zero, List.getElem_toArray, List.getElem_cons_succ, List.getElem_cons_zero]
 refine wpAnyE_take0 (i := 4) (v := ?lv4) rfl (by kernel_rfl) (by kernel_rfl) (by kernel_rfl) (by decide) (fun _ _ _ h => h) (Or.inl ⟨by rfl, ?lhy4⟩) hSS ?_
 case lhy4 => (intro wz hSw; (try dsimp only at hSw); go_simp; try (with_reducible rfl))
 refine wpAnyE_take0 (i := 5) (v := ?lv5) rfl (by kernel_rfl) (by kernel_rfl) (by kernel_rfl) (by decide) (fun _ _ _ h => h) (Or.inl ⟨by rfl, ?lhy5⟩) hSS ?_
 case lhy5 => (intro wz hSw; (try dsimp only at hSw); go_simp; try (with_reducible rfl))
 refine wpAnyE_take0 (i := 7) (v := ?lv7) rfl (by kernel_rfl) (by kernel_rfl) (by kernel_rfl) (by decide) (fun _ _ _ h => h) (Or.inl ⟨by rfl, ?lhy7⟩) hSS ?_
 case lhy7 => (intro wz hSw; (try dsimp only at hSw); go_simp; try (with_reducible rfl))
 refine wpAnyE_take0 (i := 8) (v := ?lv8) rfl (by kernel_rfl) (by kernel_rfl) (by kernel_rfl) (by decide) (fun _ _ _ h => h) (Or.inl ⟨by rfl, ?lhy8⟩) hSS ?_
 case lhy8 => (intro wz hSw; (try dsimp only at hSw); go_simp; try (with_reducible rfl))
 simp only [Act.put, List.setIfInBounds_toArray, List.set_cons_succ, List.set_cons_zero, List.getElem_toArray, List.getElem_cons_succ, List.getElem_cons_zero]
 refine wpAnyE_one (i := 6) (by kernel_rfl) rfl (fun K hK => ?_)
 go_simp
 refine (icatforms_at (catP ss) _ _ _ ss _ hp.ha (hp.below B0.drew).a hp.za HCT.out).mono ?_
 rintro ee w1 ⟨fa, fc, rfl, bd1, uf⟩
 have b1 := below_of_drew bd1
 have B1 := B0.trans (b1.mono B0.size)
 obtain ⟨ts, hts, hx⟩ := uf.isg
 have HX : Hid _ := hx
 clear uf hx bd1
 (try dsimp only)
 replace hSS := And.intro (KP.out w1 b1) True.intro
 refine hK.out _ _ ⟨hSS.1, fun _ => trivial⟩ ?_
 clear hK K
 refine wpAnyE_one (i := 9) (by kernel_rfl) rfl (fun K hK => ?_)
 go_simp
 refine (ikeep_any _ _ _ _ _ _ _ _ _ _ _ _ _ bx G ax ts _ (hb.below B1) (hp.below B1).g (ha.below B1) (map_len HX.out) hts zb hp.zg za (Nat.le_trans HLN.out (by omega))).mono ?_
 rintro ee w2 ⟨rfl, b2⟩
 rw [keep_of hts HX.out, h3]
 have b12 := b1.trans (b2.mono b1.size)
 have B2 := B1.trans (b2.mono B1.size)
 (try dsimp only)
 replace hSS := And.intro (KP.out w2 b12) True.intro
 refine hK.out _ _ ⟨hSS.1, fun _ => trivial⟩ ?_
 clear hK K
 refine wpAnyE_take0 (i := 10) (v := ?lv10) rfl (by kernel_rfl) (by kernel_rfl) (by kernel_rfl) (by decide) (fun _ _ _ h => h) (Or.inl ⟨by rfl, ?lhy10⟩) hSS ?_
 case lhy10 => (intro wz hSw; (try dsimp only at hSw); go_simp; try (with_reducible rfl))
 refine wpAnyE_take0 (i := 11) (v := ?lv11) rfl (by kernel_rfl) (by kernel_rfl) (by kernel_rfl) (by decide) (fun _ _ _ h => h) (Or.inl ⟨by rfl, ?lhy11⟩) hSS ?_
 case lhy11 => (intro wz hSw; (try dsimp only at hSw); go_simp; try (with_reducible rfl))
 refine wpAnyE_take0 (i := 12) (v := ?lv12) rfl (by kernel_rfl) (by kernel_rfl) (by kernel_rfl) (by decide) (fun _ _ _ h => h) (Or.inl ⟨by rfl, ?lhy12⟩) hSS ?_
 case lhy12 => (intro wz hSw; (try dsimp only at hSw); go_simp; try (with_reducible rfl))
 refine wpAnyE_take0 (i := 14) (v := ?lv14) rfl (by kernel_rfl) (by kernel_rfl) (by kernel_rfl) (by decide) (fun _ _ _ h => h) (Or.inl ⟨by rfl, ?lhy14⟩) hSS ?_
 case lhy14 => (intro wz hSw; (try dsimp only at hSw); go_simp; try (with_reducible rfl))
 simp only [Act.put, List.setIfInBounds_toArray, List.set_cons_succ, List.set_cons_zero, List.getElem_toArray, List.getElem_cons_succ, List.getElem_cons_zero]
 refine wpAnyE_one (i := 13) (by kernel_rfl) rfl (fun K hK => ?_)
 go_simp
 refine (icatpins_at true (pinsA ss) _ _ _ ss _ hp.ha (hp.below B2).a hp.za HC.out rfl).mono ?_
 rintro ee w3 ⟨na, nc, rfl, b3, on⟩
 have b123 := b12.trans (b3.mono b12.size)
 have B3 := B2.trans (b3.mono B2.size)
 have hR := pins_ba on
 rw [show lenB true = 3 from rfl]
 clear on
 (try dsimp only)
 replace hSS := And.intro (KP.out w3 b123) True.intro
 refine hK.out _ _ ⟨hSS.1, fun _ => trivial⟩ ?_
 clear hK K
 refine wpAnyE_one (i := 15) (by kernel_rfl) rfl (fun K hK => ?_)
 go_simp
 refine (ipinned_any _ _ _ _ (pinsA ss) ax _ hR (ha.below B3)).mono ?_
 rintro ee wq ⟨rfl, rfl⟩
 rw [← HST.out]
 (try dsimp only)
 refine hK.out _ _ ⟨hSS.1, fun _ => trivial⟩ ?_
 clear hK K
 refine wpAnyE_take0 (i := 16) (v := ?lv16) rfl (by kernel_rfl) (by kernel_rfl) (by kernel_rfl) (by decide) (fun _ _ _ h => h) (Or.inl ⟨by rfl, ?lhy16⟩) hSS ?_
 case lhy16 => (intro wz hSw; (try dsimp only at hSw); go_simp; try (with_reducible rfl))
 refine wpAnyE_take0 (i := 17) (v := ?lv17) rfl (by kernel_rfl) (by kernel_rfl) (by kernel_rfl) (by decide) (fun _ _ _ h => h) (Or.inl ⟨by rfl, ?lhy17⟩) hSS ?_
 case lhy17 => (intro wz hSw; (try dsimp only at hSw); go_simp; try (with_reducible rfl))
 refine wpAnyE_one (i := 18) (by kernel_rfl) rfl (fun K hK => ?_)
 go_simp
 refine hK.out _ _ ⟨hSS.1, fun _ => trivial⟩ ?_
 clear hK K
 refine wpAnyE_done (by kernel_rfl) ?_ _
 clear hSS
 go_wp2
 go_ret
 exact ⟨ret_bool (by rw [HW.out, h3, HST.out]; simp), B3⟩


end Go.Proofs.YtdigmokjedckeaaGreatDoor
namespace Go.Proofs.YtdigmokjedckeaaGreatDoor
open Go.ChangeShapes Go.WideShapes Go.ChangeAt Go.RowKit Go.Joins
set_option linter.unusedVariables false
set_option maxRecDepth 100000

/-- A call as a value. -/
abbrev clV (cl sq ac : Int) (a : Option Addr) (n cap : Nat) : Value := .agg #[.int .i64 cl, .int .i64 sq, .int .i64 ac, .slice a n cap]

theorem Cel.quadC {w : World} {B : Nat} {x y z u : Value} {t : TypeId} (h : Cel w B [x, y, z, u] t) : w.cell? ⟨B, 0, none⟩ = some x ∧ w.cell? ⟨B, 1, none⟩ = some y ∧ w.cell? ⟨B, 2, none⟩ = some z ∧ w.cell? ⟨B, 3, none⟩ = some u := ⟨h.cell 0, h.cell 1, h.cell 2, h.cell 3⟩

theorem szC_any (cl sq ac : Int) (a : Option Addr) (n cap : Nat) (l : Int) (w : World) (hn : n ≤ maxLen) (h0 : 0 ≤ l) (hl : l ≤ 1048576) :
  Calls Tryz.prog 81 #[clV cl sq ac a n cap, .int .i64 l] w fun e w' => e = .returned (.int .i64 (leftOf l n)) ∧ Below w.heap.size w w' := by
 have g1 := leftOf_ge l n
 by_cases h : leftOf l n < 0
 ·go_enter Tryz.func81, Tryz.ntmps81
  go_wp2_with fail
  refine (sz_any _ _ _ _ _ hn h0 hl).mono ?_
  rintro e w1 ⟨rfl, rfl⟩
  go_wp2
  go_ret
  exact ⟨ret_int (by omega), (Below.refl _ _).alloc (Nat.le_refl _) _⟩
 ·go_enter Tryz.func81, Tryz.ntmps81
  go_wp2_with fail
  refine (sz_any _ _ _ _ _ hn h0 hl).mono ?_
  rintro e w1 ⟨rfl, rfl⟩
  go_wp2
  go_ret
  exact ⟨ret_int rfl, (Below.refl _ _).alloc (Nat.le_refl _) _⟩

set_option maxHeartbeats 1600000 in
theorem toC_any (cl sq ac : Int) (a : Option Addr) (n cap : Nat) (C : List Int) (w : World) (hC : Ints w a n C) (hn : n ≤ 1048576) :
  Calls Tryz.prog 85 #[clV cl sq ac a n cap] w fun e w' => ∃ B1, e = .returned (clV cl sq ac (some ⟨B1, 0, none⟩) n n) ∧ Below w.heap.size w w' ∧ w.heap.size ≤ B1 ∧ Blk w' B1 C := by
 go_enter Tryz.func85, Tryz.ntmps85
 go_wp2_with fail
 refine (to_any _ _ _ _ _ (((hC.alloc _).alloc _).alloc _) hn).mono ?_
 rintro e w1 ⟨rfl, b1, k1⟩
 have p1 := ((Cel.new (w.alloc _) _ _).alloc _).below b1
 have p2 := (Cel.new ((w.alloc _).alloc _) _ _).below b1
 rw [World.size_alloc] at p1
 rw [World.size_alloc, World.size_alloc] at p2
 rw [World.size_alloc, World.size_alloc, World.size_alloc] at k1
 have s1 := k1.lt
 have B1 : Below w.heap.size w w1 := ((((Below.refl _ _).alloc (Nat.le_refl _) _).alloc (by simp) _).alloc (by simp; omega) _).trans (b1.mono (by simp; omega))
 clear b1
 have g0 := p2.cell 0
 have g1 := p2.cell 1
 have g2 := p2.cell 2
 have g3 := p2.cell 3
 have f3 := p2.free 3
 have e0 := p1.cell 0
 have e1 := p1.cell 1
 have e2 := p1.cell 2
 have e3 := p1.cell 3
 have h0 := p1.free 0
 have h1 := p1.free 1
 have h2 := p1.free 2
 have h3 := p1.free 3
 simp only [List.getElem?_cons_zero, List.getElem?_cons_succ] at g0 g1 g2 g3 e0 e1 e2 e3
 have hlt1 : w.heap.size + 1 < w1.heap.size := by omega
 have hlt2 : w.heap.size + 1 + 1 < w1.heap.size := by omega
 go_wp2
 refine bodyPost_ret (v := clV cl sq ac (some ⟨w.heap.size + 1 + 1 + 1, 0, none⟩) n n) (by simp [results, Tryz.results85, go_sem, e0, e1, e2, e3]) rfl ⟨_, rfl, ?_, by omega, ?_⟩
 ·exact ((((B1.setCell (by simp only []; omega) _).setCell (by simp only []; omega) _).setCell (by simp only []; omega) _).setCell (by simp only []; omega) _).setCell (by simp only []; omega) _
 ·exact ((((k1.setOther (by omega) _ _).setOther (by omega) _ _).setOther (by omega) _ _).setOther (by omega) _ _).setOther (by omega) _ _

theorem eqC_same (cl sq ac : Int) (a : Option Addr) (n cap : Nat) (a' : Option Addr) (cap' : Nat) (tl : List Int) (w : World) (h : Ints w a n tl) (h' : Ints w a' n tl) (hn : n ≤ 1048576) :
  Calls Tryz.prog 92 #[clV cl sq ac a n cap, clV cl sq ac a' n cap'] w fun e w' => e = .returned (.bool true) ∧ Below w.heap.size w w' := by
 have h1 : (cl != cl) = false := by simp
 have h2 : (sq != sq) = false := by simp
 have h3 : (ac != ac) = false := by simp
 have HE := eqB_refl tl
 go_enter Tryz.func92, Tryz.ntmps92
 go_wp2_with fail
 refine (eq_any _ _ _ _ _ _ tl tl _ ((h.alloc _).alloc _) ((h'.alloc _).alloc _) hn hn).mono ?_
 rintro e w1 ⟨rfl, b1⟩
 rw [HE]
 go_wp2
 go_ret
 exact ⟨rfl, (((Below.refl _ _).alloc (Nat.le_refl _) _).alloc (by simp) _).trans (b1.mono (by simp; omega))⟩

end Go.Proofs.YtdigmokjedckeaaGreatDoor
namespace Go.Proofs.YtdigmokjedckeaaGreatDoor
open Go.ChangeShapes Go.WideShapes Go.ChangeAt Go.RowKit Go.Joins Go.Deep
set_option linter.unusedVariables false
set_option maxRecDepth 100000

/-- One of them, and what it holds. -/
structure QV where
 x : Int
 q : Int
 c : Int
 t : IV
def noQ : QV := ⟨0, 0, 0, noI⟩
def QV.cs (f : QV) : List Value := [.int .i64 f.x, .int .i64 f.q, .int .i64 f.c, IV.v f.t]
def QM (w : World) (f : QV) : Prop := IM w f.t ∧ True
def QG (w : World) (f : QV) : Prop := IG w f.t ∧ True
def QZ (f : QV) : Prop := IS f.t ∧ True
def QK (w : World) (lo : Nat) (f : QV) : Prop := IK w lo f.t ∧ True
def copiesQ (f g : QV) : Prop := g.x = f.x ∧ g.q = f.q ∧ g.c = f.c ∧ copiesI f.t g.t ∧ True
def sameQ (f g : QV) : Prop := f.x = g.x ∧ f.q = g.q ∧ f.c = g.c ∧ sameI f.t g.t ∧ True
theorem QM.below {w w' : World} {f : QV} (h : QM w f) (hb : Below w.heap.size w w') : QM w' f := ⟨h.1.below hb, trivial⟩
theorem QG.below {w w' : World} {f : QV} (h : QG w f) (hb : Below w.heap.size w w') : QG w' f := ⟨h.1.below hb, trivial⟩
theorem QM.g {w : World} {f : QV} (h : QM w f) (hs : QZ f) : QG w f := ⟨(h.1).g hs.1, trivial⟩
theorem QK.below {w w' : World} {lo : Nat} {f : QV} (h : QK w lo f) (hb : Below w.heap.size w w') : QK w' lo f := ⟨h.1.below hb, trivial⟩
theorem QK.touch {S : Nat → Prop} {w w' : World} {lo : Nat} {f : QV} (h : QK w lo f) (t : Touch S w w') (hs : ∀ k, S k → k < lo) : QK w' lo f := ⟨h.1.touch t hs, trivial⟩
theorem QK.mono {w : World} {lo lo' : Nat} {f : QV} (h : QK w lo f) (hl : lo' ≤ lo) : QK w lo' f := ⟨h.1.mono hl, trivial⟩
theorem QK.g {w : World} {lo : Nat} {f : QV} (h : QK w lo f) : QG w f := ⟨h.1.g, trivial⟩

theorem open_cells4 {H : Type} {enc : TypeId × Value → H} {W : World} {fuel : Nat} {t : TypeId} {f0 f1 f2 f3 : Field} {cs : List Value} {x : DataW H × List MemPlace} (hs : Tryz.prog.underlying t = some (.struct #[f0, f1, f2, f3])) (hone : oneCellFields Tryz.prog #[f0, f1, f2, f3] = true) (hC : Tryz.prog.cellsOf t = 4)
  (hf : DataW.trod enc Tryz.prog W 0 (fun _ => true) true fuel t cs = some x) :
  ∃ v0 v1 v2 v3 y0 y1 y2 y3 n, cs = [v0, v1, v2, v3] ∧ DataW.trod enc Tryz.prog W 0 (fun _ => true) true n f0.type [v0] = some y0 ∧ DataW.trod enc Tryz.prog W 0 (fun _ => true) true n f1.type [v1] = some y1 ∧ DataW.trod enc Tryz.prog W 0 (fun _ => true) true n f2.type [v2] = some y2 ∧ DataW.trod enc Tryz.prog W 0 (fun _ => true) true n f3.type [v3] = some y3 := by
 obtain ⟨y0, y1, y2, y3, n, _, hl, h0, h1, h2, h3⟩ := trod_struct4 hs hf
 obtain ⟨o0, k0⟩ := hone_of hone 0 f0 rfl
 obtain ⟨o1, k1⟩ := hone_of hone 1 f1 rfl
 obtain ⟨o2, k2⟩ := hone_of hone 2 f2 rfl
 obtain ⟨o3, k3⟩ := hone_of hone 3 f3 rfl
 have hl' : cs.length = 4 := hl.trans hC
 match cs, hl' with
 | [c0, c1, c2, c3], _ => exact ⟨c0, c1, c2, c3, y0, y1, y2, y3, n, rfl, by simpa [o0, k0] using h0, by simpa [o1, k1] using h1, by simpa [o2, k2] using h2, by simpa [o3, k3] using h3⟩

theorem open_QC {H : Type} {enc : TypeId × Value → H} {W : World} {fuel : Nat} {cs : List Value} {x : DataW H × List MemPlace}
  (hf : DataW.trod enc Tryz.prog W 0 (fun _ => true) true fuel 126 cs = some x) :
  ∃ f : QV, cs = f.cs ∧ QM W f := by
 obtain ⟨v0, v1, v2, v3, y0, y1, y2, y3, k, rfl, h0, h1, h2, h3⟩ := open_cells4 Tryz.underlying126 (by kernel_rfl) (by kernel_rfl) hf
 obtain ⟨x, rfl, _⟩ := open_num h0
 obtain ⟨q, rfl, _⟩ := open_num h1
 obtain ⟨c, rfl, _⟩ := open_num h2
 obtain ⟨a, m, cap, C, rfl, hC, hm⟩ := open_row h3
 exact ⟨⟨x, q, c, ⟨a, m, cap, C⟩⟩, rfl, ⟨hC, hm⟩, trivial⟩

theorem szQ_ex (x q c : Int) (ta : Option Addr) (tn tc : Nat) (tx : List Int) (l : Int) (w : World) (h : QM w ⟨x, q, c, ⟨ta, tn, tc, tx⟩⟩) (h0 : 0 ≤ l) (hl : l ≤ 1048576) :
  Calls Tryz.prog 81 #[clV x q c ta tn tc, .int .i64 l] w fun e w' => ∃ r, e = .returned (.int .i64 r) ∧ -1 ≤ r ∧ r ≤ 1048576 ∧ (0 ≤ r → QZ ⟨x, q, c, ⟨ta, tn, tc, tx⟩⟩) ∧ Below w.heap.size w w' := by
 refine (szC_any x q c ta tn tc l w h.1.2 h0 hl).mono ?_
 rintro e w' ⟨rfl, b⟩
 refine ⟨_, rfl, leftOf_ge _ _, ?_, fun hr => ?_, b⟩
 ·by_cases hh : 0 ≤ leftOf l tn
  ·have := leftOf_le hh; omega
  ·omega
 ·have := leftOf_le hr
  exact ⟨by show tn ≤ 1048576; omega, trivial⟩

theorem toQ_ex (x q c : Int) (ta : Option Addr) (tn tc : Nat) (tx : List Int) (w : World) (h : QG w ⟨x, q, c, ⟨ta, tn, tc, tx⟩⟩) :
  Calls Tryz.prog 85 #[clV x q c ta tn tc] w fun e w' => ∃ Pt Qt, e = .returned (clV x q c Pt tn tn) ∧ Below w.heap.size w w' ∧ QK w' w.heap.size ⟨x, q, c, ⟨Pt, tn, tn, Qt⟩⟩ ∧ copiesQ ⟨x, q, c, ⟨ta, tn, tc, tx⟩⟩ ⟨x, q, c, ⟨Pt, tn, tn, Qt⟩⟩ := by
 refine (toC_any x q c ta tn tc tx w h.1.1 h.1.2).mono ?_
 rintro e w' ⟨B1, rfl, b, lB, k⟩
 exact ⟨_, tx, rfl, b, ⟨⟨B1, rfl, lB, k, h.1.1.1, h.1.2⟩, trivial⟩, rfl, rfl, rfl, ⟨rfl, rfl⟩, trivial⟩

theorem eqQ_ex (x q c : Int) (ta : Option Addr) (tn tc : Nat) (tx : List Int) (x' q' c' : Int) (ta' : Option Addr) (tn' tc' : Nat) (tx' : List Int) (w : World) (h : QG w ⟨x, q, c, ⟨ta, tn, tc, tx⟩⟩) (h' : QG w ⟨x', q', c', ⟨ta', tn', tc', tx'⟩⟩) (hs : sameQ ⟨x, q, c, ⟨ta, tn, tc, tx⟩⟩ ⟨x', q', c', ⟨ta', tn', tc', tx'⟩⟩) :
  Calls Tryz.prog 92 #[clV x q c ta tn tc, clV x' q' c' ta' tn' tc'] w fun e w' => e = .returned (.bool true) ∧ Below w.heap.size w w' := by
 obtain ⟨e1, e2, e3, e4, -⟩ := hs
 have e1' : x = x' := e1
 have e2' : q = q' := e2
 have e3' : c = c' := e3
 have e4' : tx = tx' := e4
 have hI : Ints w ta tn tx := h.1.1
 have hI' : Ints w ta' tn' tx' := h'.1.1
 have en : tn = tn' := by rw [← hI.1, ← hI'.1, e4']
 have hz : tn ≤ 1048576 := h.1.2
 clear h h' e1 e2 e3 e4
 subst e1' e2' e3' e4' en
 exact eqC_same x q c ta tn tc ta' tc' tx w hI hI' hz

end Go.Proofs.YtdigmokjedckeaaGreatDoor
