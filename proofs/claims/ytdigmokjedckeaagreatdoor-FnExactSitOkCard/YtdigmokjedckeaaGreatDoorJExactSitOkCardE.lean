/-
  Lemmas that the claim's last text rests on: DonW, SitP.
-/
import Derived.Test.YtdigmokjedckeaaGreatDoorJExactSitOkCardD
import Derived.Test.YtdigmokjedckeaaGreatDoorJExactSitOkCardC
import Derived.Test.YtdigmokjedckeaaGreatDoorKeyed
namespace Go.Proofs.YtdigmokjedckeaaGreatDoor
open Go.RowKit Go.Deep
set_option linter.unusedVariables false
set_option maxRecDepth 100000

/-- What was done for one client is ok. -/
def dnOk (s c : Int) (n : Nat) (zs : List Int) : Bool := if s = 0 then decide (c = 0) && decide (n = 0) else inB s 1 300 && fullB (resText c n zs)
def DV.ok (f : DV) : Bool := dnOk f.q f.c f.t.n f.t.x
/-- What was done for all clients is ok. -/
def donesB (cl : Int) (N : Nat) (fs : List DV) : Bool := decide ((N : Int) = cl) && fs.all DV.ok
theorem full_code {c : Int} {n : Nat} {zs : List Int} (h : fullB (resText c n zs) = true) : c ≠ 0 := fun e => by
  subst e
  rw [resText_no (by simp [resOkB, inB])] at h
  simp [fullB, ByteArray.toList_mk] at h
theorem dn_zero {c : Int} {n : Nat} {zs : List Int} : dnOk 0 c n zs = (decide (c = 0) && decide (n = 0)) := by rw [dnOk, if_pos rfl]
theorem dn_some {s c : Int} {n : Nat} {zs : List Int} (h : s ≠ 0) : dnOk s c n zs = (inB s 1 300 && fullB (resText c n zs)) := by rw [dnOk, if_neg h]
theorem dones_not {cl : Int} {N : Nat} {fs : List DV} (h : ¬ (N : Int) = cl) : donesB cl N fs = false := by simp [donesB, h]
theorem dones_is {cl : Int} {N : Nat} {fs : List DV} (h : (N : Int) = cl) : donesB cl N fs = fs.all DV.ok := by simp [donesB, h]
theorem dones_step {fs : List DV} {k : Nat} (h : k < fs.length) (h1 : (fs.take k).all DV.ok = true) (h2 : (fs[k]?.getD noD).ok = true) : (fs.take (k + 1)).all DV.ok = true := by
  rw [List.take_succ_eq_append_getElem h, List.all_append, h1]
  rw [List.getElem?_eq_getElem h] at h2
  simpa using h2
theorem dones_no {fs : List DV} {k : Nat} (h : k < fs.length) (h2 : (fs[k]?.getD noD).ok = false) : fs.all DV.ok = false := by
  rw [List.all_eq_false]
  refine ⟨fs[k], List.getElem_mem h, ?_⟩
  rw [List.getElem?_eq_getElem h] at h2
  simpa using h2
theorem dones_end {fs : List DV} {k : Nat} (h : fs.length ≤ k) (h1 : (fs.take k).all DV.ok = true) : fs.all DV.ok = true := by rwa [List.take_of_length_le h] at h1
theorem dones_copy {cl : Int} {N : Nat} {fs gs : List DV} (hl : gs.length = fs.length) (h : copiesDS fs gs) : donesB cl N gs = donesB cl N fs := by
  have : gs.map DV.ok = fs.map DV.ok := by
    apply List.ext_getElem?
    intro i
    by_cases hi : i < gs.length
    · obtain ⟨e1, e2, ⟨e3, e4⟩, -⟩ := h i hi
      have e : (gs[i]?.getD noD).ok = (fs[i]?.getD noD).ok := by rw [DV.ok, DV.ok, e1, e2, e3, e4]
      rw [List.getElem?_eq_getElem hi, List.getElem?_eq_getElem (by omega)] at e
      simp only [Option.getD_some] at e
      rw [List.getElem?_map, List.getElem?_map, List.getElem?_eq_getElem hi, List.getElem?_eq_getElem (by omega)]
      simp [e]
    · rw [List.getElem?_eq_none (by simp; omega), List.getElem?_eq_none (by simp; omega)]
  have e1 : ∀ xs : List DV, xs.all DV.ok = (xs.map DV.ok).all id := fun xs => by simp [List.all_map]
  rw [donesB, donesB, e1, e1, this]
theorem same_copyD {fs gs hs : List DV} {N : Nat} (h1 : gs.length = N) (h2 : hs.length = N) (c1 : copiesDS fs gs) (c2 : copiesDS fs hs) : ∀ i, i < N → sameD (gs[i]?.getD noD) (hs[i]?.getD noD) := fun i hi => by
  obtain ⟨a1, a2, a3, -⟩ := c1 i (by omega)
  obtain ⟨b1, b2, b3, -⟩ := c2 i (by omega)
  exact ⟨by rw [a1, b1], by rw [a2, b2], by show _ = _; rw [a3.2, b3.2], trivial⟩

set_option maxHeartbeats 800000 in
theorem inothing_any (c : Int) (a : Option Addr) (n cap : Nat) (w : World) :
    Calls Tryz.prog 112 #[resP c a n cap] w fun e w' => e = .returned (.bool (decide (c = 0) && decide (n = 0))) ∧ Below w.heap.size w w' := by
  have B0 := (Below.refl w.heap.size w).alloc (Nat.le_refl _) (.cells #[.int .i64 c, .slice a n cap] 114)
  by_cases h : c = 0
  · subst h
    have e2 : ((n : Int) == 0) = decide (n = 0) := by by_cases hn : n = 0 <;> simp [hn]
    go_enter Tryz.func112, Tryz.ntmps112
    go_wp2
    go_ret
    exact ⟨ret_bool (by simp), B0⟩
  · have h' : (c == 0) = false := by simpa using h
    go_enter Tryz.func112, Tryz.ntmps112
    go_wp2
    go_ret
    exact ⟨ret_bool (by simp [h]), B0⟩

set_option maxHeartbeats 800000 in
theorem idone_any (s c : Int) (a : Option Addr) (n cap : Nat) (zs : List Int) (w : World) (hC : Ints w a n zs) (hn : n ≤ 1048576) (hT : Lib.TabBelow Tryz.prog w.heap.size w "internal/strconv.uint64pow10" .u64 Lib.pow10Tab) :
    Calls Tryz.prog 78 #[doV s c a n cap] w fun e w' => e = .returned (.bool (dnOk s c n zs)) ∧ Below w.heap.size w w' := by
  have HT : Hid _ := hT
  clear hT
  have n0 := Cel.new w [.int .i64 s, .int .i64 c, .slice a n cap] 116
  have B0 := (Below.refl w.heap.size w).alloc (Nat.le_refl _) (.cells #[.int .i64 s, .int .i64 c, .slice a n cap] 116)
  by_cases h : s = 0
  · subst h
    go_enter Tryz.func78, Tryz.ntmps78
    go_wp2_with fail
    refine (inothing_any _ _ _ _ _).mono ?_
    rintro e w1 ⟨rfl, b1⟩
    go_wp2
    go_ret
    exact ⟨ret_bool (by rw [dn_zero]), B0.trans (b1.mono B0.size)⟩
  · have h' : (s == 0) = false := by simpa using h
    have HS : Hid (s ≠ 0) := h
    clear h
    obtain ⟨x1, hx1⟩ : ∃ y, y = betB 1 300 [s] := ⟨_, rfl⟩
    have H1 : Hid _ := hx1
    clear hx1
    have HB : Hid (dnOk s c n zs = (x1 && fullB (resText c n zs))) := by show _ = _; rw [dn_some HS.out, H1.out, bet_one]
    have B1 := B0.alloc B0.size (.cells #[.int .i64 s] 3)
    go_enter Tryz.func78, Tryz.ntmps78
    go_wp2_with fail
    refine (between_any _ _ _ [s] _ _ _ (by have := one_ints (w.alloc (.cells #[.int .i64 s, .int .i64 c, .slice a n cap] 116)) s 3; rw [World.size_alloc] at this; exact this) (by omega)).mono ?_
    rintro e w1 ⟨rfl, rfl⟩
    rw [← H1.out]
    cases x1
    · go_wp2
      go_ret
      exact ⟨ret_bool (by rw [HB.out]; rfl), B1⟩
    go_wp2_with fail
    refine (iresok_any _ _ _ _ zs _ (hC.below B1) hn (fun w' h' => HT.out w' (B1.trans (h'.mono B1.size)))).mono ?_
    rintro e w1 ⟨rfl, b1⟩
    go_wp2
    go_ret
    exact ⟨ret_bool (by rw [HB.out]; rfl), B1.trans (b1.mono B1.size)⟩

set_option maxHeartbeats 1600000 in
theorem idones_any (cl : Int) (ad : Option Addr) (N cap : Nat) (ga : Option Addr) (gn gc : Nat) (sa : Option Addr) (sn sc : Nat) (da : Option Addr) (dn dc : Nat) (fs : List DV) (w : World) (hN : fs.length = dn) (hF : DSG w da fs) (hz : dn ≤ 1048576) (hT : Lib.TabBelow Tryz.prog w.heap.size w "internal/strconv.uint64pow10" .u64 Lib.pow10Tab) :
    Calls Tryz.prog 34 #[plV cl ad N cap ga gn gc sa sn sc, .slice da dn dc] w fun e w' => e = .returned (.bool (donesB cl dn fs)) ∧ Below w.heap.size w w' := by
  have HT : Hid _ := hT
  have HN : Hid (fs.length = dn) := hN
  clear hT hN
  have B0 := (Below.refl w.heap.size w).alloc (Nat.le_refl _) (.cells #[.int .i64 cl, .slice ad N cap, .slice ga gn gc, .slice sa sn sc] 34)
  by_cases hc : (dn : Int) = cl
  · have hc' : ((dn : Int) != cl) = false := by simpa using hc
    have HC : Hid _ := hc
    clear hc
    go_enter Tryz.func34, Tryz.ntmps34
    go_wp2_with fail
    obtain ⟨W0, hW0⟩ : ∃ W, W = w.alloc (.cells #[.int .i64 cl, .slice ad N cap, .slice ga gn gc, .slice sa sn sc] 34) := ⟨_, rfl⟩
    rw [← hW0] at B0 ⊢
    clear hW0
    go_loopw [6, 14] (fun _ i wr => ∃ k : Nat, k ≤ dn ∧ i = .int .i64 k ∧ Below w.heap.size w wr ∧ (fs.take k).all DV.ok = true) (fun _ i _ => dn - (intOf i).toNat)
    case atStart => exact ⟨0, Nat.zero_le _, rfl, B0, rfl⟩
    case round =>
      obtain ⟨k, hk, rfl, hb, hall⟩ := hrel
      have HA : Hid _ := hall
      clear hall
      by_cases hlt : k < dn
      · obtain ⟨b, off, rfl, hc, hr⟩ := (hF.below hb) k (by rw [HN.out]; exact hlt)
        generalize HG : fs[k]?.getD noD = g at *
        have HG' : Hid (fs[k]?.getD noD = g) := HG
        clear HG hF
        obtain ⟨e0, e1, e2⟩ := cellsD hc
        obtain ⟨gs, gc, ⟨gta, gtn, gtc, gtx⟩⟩ := g
        have e0' : wr.cell? ⟨b, off + k * 3, none⟩ = some (.int .i64 gs) := e0
        have e1' : wr.cell? ⟨b, off + k * 3 + 1, none⟩ = some (.int .i64 gc) := e1
        have e2' : wr.cell? ⟨b, off + k * 3 + 2, none⟩ = some (.slice gta gtn gtc) := e2
        have hI : Ints wr gta gtn gtx := hr.1.1
        have hz' : gtn ≤ 1048576 := hr.1.2
        clear e0 e1 e2 hc hr
        have hlt' : (k : Int) < (dn : Int) := by omega
        have bA := hb.alloc hb.size (.cells #[.int .i64 gs, .int .i64 gc, .slice gta gtn gtc] 116)
        go_wp2_with fail
        refine (idone_any _ _ _ _ _ gtx _ (hI.alloc _) hz' (fun w' h' => HT.out w' (bA.trans (h'.mono bA.size)))).mono ?_
        rintro e w1 ⟨rfl, b1⟩
        have hb1 := bA.trans (b1.mono bA.size)
        cases hd : dnOk gs gc gtn gtx
        · go_wp2
          go_ret
          exact ⟨ret_bool (by rw [dones_is HC.out, dones_no (by rw [HN.out]; exact hlt) (by rw [HG'.out]; exact hd)]), hb1⟩
        · go_wp2
          go_roundw
          case rel => exact ⟨k + 1, by omega, by go_num, hb1, dones_step (by rw [HN.out]; exact hlt) HA.out (by rw [HG'.out]; exact hd)⟩
          case measure => simp [intOf]; omega
      · go_wp2
        go_ret
        exact ⟨ret_bool (by rw [dones_is HC.out, dones_end (by rw [HN.out]; omega) HA.out]), hb⟩
  · have hc' : ((dn : Int) != cl) = true := by simpa using hc
    go_enter Tryz.func34, Tryz.ntmps34
    go_wp2
    go_ret
    exact ⟨ret_bool (by rw [dones_not hc]), B0⟩

theorem not_true_ofD {b : Bool} (h : b = false) : ¬ b = true := fun e => by rw [h] at e; cases e

set_option maxHeartbeats 12800000 in
theorem sdones_any (cl : Int) (ad : Option Addr) (N cap : Nat) (ga : Option Addr) (gn gc : Nat) (sa : Option Addr) (sn sc : Nat) (da : Option Addr) (dn dc : Nat) (fs : List DV) (w : World) (hN : fs.length = dn) (hF : DSG w da fs) (hz : dn ≤ 1048576) :
    Calls Tryz.prog 67 #[plV cl ad N cap ga gn gc sa sn sc, .slice da dn dc] w fun e w' => e = .returned (.bool (donesB cl dn fs)) ∧ Below w.heap.size w w' := by
  have HN : Hid (fs.length = dn) := hN
  clear hN
  have B0 := (Below.refl w.heap.size w).alloc (Nat.le_refl _) (.cells #[.int .i64 cl, .slice ad N cap, .slice ga gn gc, .slice sa sn sc] 34)
  by_cases hc : (dn : Int) = cl
  · have hc' : ((dn : Int) != cl) = false := by simpa using hc
    have HC : Hid _ := hc
    clear hc
    go_enter Tryz.func67, Tryz.ntmps67
    go_wp2_with fail
    obtain ⟨W0, hW0⟩ : ∃ W, W = w.alloc (.cells #[.int .i64 cl, .slice ad N cap, .slice ga gn gc, .slice sa sn sc] 34) := ⟨_, rfl⟩
    rw [← hW0] at B0 ⊢
    clear hW0
    go_loopw [5] (fun i wr => ∃ k : Nat, k ≤ dn ∧ i = .int .i64 k ∧ Below w.heap.size w wr ∧ (fs.take k).all DV.ok = true) (fun i _ => dn - (intOf i).toNat)
    case atStart => exact ⟨0, Nat.zero_le _, rfl, B0, rfl⟩
    case round =>
      obtain ⟨k, hk, rfl, hb, hall⟩ := hrel
      have HA : Hid _ := hall
      clear hall
      by_cases hlt : k < dn
      · obtain ⟨b, off, rfl, hc, hr⟩ := (hF.below hb) k (by rw [HN.out]; exact hlt)
        generalize HG : fs[k]?.getD noD = g at *
        have HG' : Hid (fs[k]?.getD noD = g) := HG
        clear HG hF
        obtain ⟨e0, e1, e2⟩ := cellsD hc
        obtain ⟨gs, gc, ⟨gta, gtn, gtc, gtx⟩⟩ := g
        have e0' : wr.cell? ⟨b, off + k * 3, none⟩ = some (.int .i64 gs) := e0
        have e1' : wr.cell? ⟨b, off + k * 3 + 1, none⟩ = some (.int .i64 gc) := e1
        have e2' : wr.cell? ⟨b, off + k * 3 + 2, none⟩ = some (.slice gta gtn gtc) := e2
        have hI : Ints wr gta gtn gtx := hr.1.1
        have hz' : gtn ≤ 1048576 := hr.1.2
        clear e0 e1 e2 hc hr
        have hlt' : (k : Int) < (dn : Int) := by omega
        have OK : Hid ((fs[k]?.getD noD).ok = dnOk gs gc gtn gtx) := by show _ = _; rw [HG'.out]; rfl
        have NO : Hid (dnOk gs gc gtn gtx = false → donesB cl dn fs = false) := fun hd => by rw [dones_is HC.out, dones_no (by rw [HN.out]; exact hlt) (by rw [OK.out]; exact hd)]
        have YES : Hid (dnOk gs gc gtn gtx = true → (fs.take (k + 1)).all DV.ok = true) := fun hd => dones_step (by rw [HN.out]; exact hlt) HA.out (by rw [OK.out]; exact hd)
        cases h1 : inB gs 0 300
        · have h1' := inB_not.1 h1
          have ND : Hid (dnOk gs gc gtn gtx = false) := by show _ = _; rw [dn_some (by omega), inB_not.2 (by omega)]; rfl
          clear h1'
          have KP : Hid (∀ W, Below wr.heap.size wr W → W.cell? ⟨b, off + k * 3, none⟩ = some (.int .i64 gs) ∧ W.cell? ⟨b, off + k * 3 + 1, none⟩ = some (.int .i64 gc) ∧ W.cell? ⟨b, off + k * 3 + 2, none⟩ = some (.slice gta gtn gtc)) := fun W hW => ⟨(hW.cell (p := ⟨b, off + k * 3, none⟩) (block_lt e0')).trans e0', (hW.cell (p := ⟨b, off + k * 3 + 1, none⟩) (block_lt e1')).trans e1', (hW.cell (p := ⟨b, off + k * 3 + 2, none⟩) (block_lt e2')).trans e2'⟩
          have hSS := And.intro (KP.out _ (Below.refl _ _).drew) True.intro
          clear e0' e1' e2'
          go_upto_region 6 with fail
          refine wp_region_ends (fun w' => w'.cell? ⟨b, off + k * 3, none⟩ = some (.int .i64 gs) ∧ w'.cell? ⟨b, off + k * 3 + 1, none⟩ = some (.int .i64 gc) ∧ w'.cell? ⟨b, off + k * 3 + 2, none⟩ = some (.slice gta gtn gtc)) (fun _ => True) 57 (by kernel_rfl) ?_
          refine wpAnyE_take0 (i := 0) (v := ?av0) rfl (by kernel_rfl) (by kernel_rfl) (by kernel_rfl) (by decide) (fun _ _ _ h => h) (Or.inl ⟨by rfl, ?ahy0⟩) hSS ?_
          case ahy0 => (intro wz hSw; (try dsimp only at hSw); go_simp; try (with_reducible rfl))
          refine wpAnyE_take0 (i := 1) (v := ?av1) rfl (by kernel_rfl) (by kernel_rfl) (by kernel_rfl) (by decide) (fun _ _ _ h => h) (Or.inl ⟨by rfl, ?ahy1⟩) hSS ?_
          case ahy1 => (intro wz hSw; (try dsimp only at hSw); go_simp; try (with_reducible rfl))
          refine wpAnyE_take0 (i := 2) (v := ?av2) rfl (by kernel_rfl) (by kernel_rfl) (by kernel_rfl) (by decide) (fun _ _ _ h => h) (Or.inl ⟨by rfl, ?ahy2⟩) hSS ?_
          case ahy2 => (intro wz hSw; (try dsimp only at hSw); go_simp; try (with_reducible rfl))
          refine wpAnyE_take0 (i := 3) (v := ?av3) rfl (by kernel_rfl) (by kernel_rfl) (by kernel_rfl) (by decide) (fun _ _ _ h => h) (Or.inl ⟨by rfl, ?ahy3⟩) hSS ?_
          case ahy3 => (intro wz hSw; (try dsimp only at hSw); go_simp; try (with_reducible rfl))
          simp only [Act.put, List.setIfInBounds_toArray, List.set_cons_succ, List.set_cons_zero, List.getElem_toArray, List.getElem_cons_succ, List.getElem_cons_zero]
          refine wpAnyE_take0 (i := 4) (v := ?av4) rfl (by kernel_rfl) (by kernel_rfl) (by kernel_rfl) (by decide) (fun _ _ _ h => h) (Or.inl ⟨by rfl, ?ahy4⟩) hSS ?_
          case ahy4 => (intro wz hSw; (try dsimp only at hSw); go_simp; try (with_reducible rfl))
          refine wpAnyE_one (i := 5) (by kernel_rfl) rfl (fun K hK => ?_)
          go_simp
          refine (in_any _ _ _ _).mono ?_
          rintro ee wq ⟨rfl, rfl⟩
          rw [h1]
          (try dsimp only)
          refine hK.out _ _ ⟨hSS.1, fun _ => trivial⟩ ?_
          clear hK K
          refine wpAnyE_take0 (i := 6) (v := ?av6) rfl (by kernel_rfl) (by kernel_rfl) (by kernel_rfl) (by decide) (fun _ _ _ h => h) (Or.inl ⟨by rfl, ?ahy6⟩) hSS ?_
          case ahy6 => (intro wz hSw; (try dsimp only at hSw); go_simp; try (with_reducible rfl))
          refine wpAnyE_take0 (i := 7) (v := ?av7) rfl (by kernel_rfl) (by kernel_rfl) (by kernel_rfl) (by decide) (fun _ _ _ h => h) (Or.inl ⟨by rfl, ?ahy7⟩) hSS ?_
          case ahy7 => (intro wz hSw; (try dsimp only at hSw); go_simp; try (with_reducible rfl))
          refine wpAnyE_take0 (i := 8) (v := undef) rfl (by kernel_rfl) (by kernel_rfl) (by kernel_rfl) (by decide) (fun _ _ _ h => h) (Or.inr ⟨by kernel_rfl, rfl⟩) hSS ?_
          refine wpAnyE_take0 (i := 9) (v := undef) rfl (by kernel_rfl) (by kernel_rfl) (by kernel_rfl) (by decide) (fun _ _ _ h => h) (Or.inr ⟨by kernel_rfl, rfl⟩) hSS ?_
          simp only [Act.put, List.setIfInBounds_toArray, List.set_cons_succ, List.set_cons_zero, List.getElem_toArray, List.getElem_cons_succ, List.getElem_cons_zero]
          refine wpAnyE_take0 (i := 10) (v := undef) rfl (by kernel_rfl) (by kernel_rfl) (by kernel_rfl) (by decide) (fun _ _ _ h => h) (Or.inr ⟨by kernel_rfl, rfl⟩) hSS ?_
          refine wpAnyE_take0 (i := 11) (v := undef) rfl (by kernel_rfl) (by kernel_rfl) (by kernel_rfl) (by decide) (fun _ _ _ h => h) (Or.inr ⟨by kernel_rfl, rfl⟩) hSS ?_
          refine wpAnyE_take0 (i := 12) (v := undef) rfl (by kernel_rfl) (by kernel_rfl) (by kernel_rfl) (by decide) (fun _ _ _ h => h) (Or.inr ⟨by kernel_rfl, rfl⟩) hSS ?_
          refine wpAnyE_take0 (i := 13) (v := undef) rfl (by kernel_rfl) (by kernel_rfl) (by kernel_rfl) (by decide) (fun _ _ _ h => h) (Or.inr ⟨by kernel_rfl, rfl⟩) hSS ?_
          simp only [Act.put, List.setIfInBounds_toArray, List.set_cons_succ, List.set_cons_zero, List.getElem_toArray, List.getElem_cons_succ, List.getElem_cons_zero]
          refine wpAnyE_take0 (i := 14) (v := undef) rfl (by kernel_rfl) (by kernel_rfl) (by kernel_rfl) (by decide) (fun _ _ _ h => h) (Or.inr ⟨by kernel_rfl, rfl⟩) hSS ?_
          refine wpAnyE_take0 (i := 15) (v := undef) rfl (by kernel_rfl) (by kernel_rfl) (by kernel_rfl) (by decide) (fun _ _ _ h => h) (Or.inr ⟨by kernel_rfl, rfl⟩) hSS ?_
          refine wpAnyE_take0 (i := 16) (v := undef) rfl (by kernel_rfl) (by kernel_rfl) (by kernel_rfl) (by decide) (fun _ _ _ h => h) (Or.inr ⟨by kernel_rfl, rfl⟩) hSS ?_
          refine wpAnyE_take0 (i := 17) (v := undef) rfl (by kernel_rfl) (by kernel_rfl) (by kernel_rfl) (by decide) (fun _ _ _ h => h) (Or.inr ⟨by kernel_rfl, rfl⟩) hSS ?_
          simp only [Act.put, List.setIfInBounds_toArray, List.set_cons_succ, List.set_cons_zero, List.getElem_toArray, List.getElem_cons_succ, List.getElem_cons_zero]
          refine wpAnyE_take0 (i := 18) (v := undef) rfl (by kernel_rfl) (by kernel_rfl) (by kernel_rfl) (by decide) (fun _ _ _ h => h) (Or.inr ⟨by kernel_rfl, rfl⟩) hSS ?_
          refine wpAnyE_take0 (i := 19) (v := undef) rfl (by kernel_rfl) (by kernel_rfl) (by kernel_rfl) (by decide) (fun _ _ _ h => h) (Or.inr ⟨by kernel_rfl, rfl⟩) hSS ?_
          refine wpAnyE_take0 (i := 20) (v := undef) rfl (by kernel_rfl) (by kernel_rfl) (by kernel_rfl) (by decide) (fun _ _ _ h => h) (Or.inr ⟨by kernel_rfl, rfl⟩) hSS ?_
          refine wpAnyE_take0 (i := 21) (v := undef) rfl (by kernel_rfl) (by kernel_rfl) (by kernel_rfl) (by decide) (fun _ _ _ h => h) (Or.inr ⟨by kernel_rfl, rfl⟩) hSS ?_
          simp only [Act.put, List.setIfInBounds_toArray, List.set_cons_succ, List.set_cons_zero, List.getElem_toArray, List.getElem_cons_succ, List.getElem_cons_zero]
          refine wpAnyE_take0 (i := 22) (v := ?av22) rfl (by kernel_rfl) (by kernel_rfl) (by kernel_rfl) (by decide) (fun _ _ _ h => h) (Or.inl ⟨by rfl, ?ahy22⟩) hSS ?_
          case ahy22 => (intro wz hSw; (try dsimp only at hSw); go_simp; try (with_reducible rfl))
          refine wpAnyE_take0 (i := 23) (v := ?av23) rfl (by kernel_rfl) (by kernel_rfl) (by kernel_rfl) (by decide) (fun _ _ _ h => h) (Or.inl ⟨by rfl, ?ahy23⟩) hSS ?_
          case ahy23 => (intro wz hSw; (try dsimp only at hSw); go_simp; try (with_reducible rfl))
          refine wpAnyE_take0 (i := 24) (v := undef) rfl (by kernel_rfl) (by kernel_rfl) (by kernel_rfl) (by decide) (fun _ _ _ h => h) (Or.inr ⟨by kernel_rfl, rfl⟩) hSS ?_
          refine wpAnyE_take0 (i := 25) (v := undef) rfl (by kernel_rfl) (by kernel_rfl) (by kernel_rfl) (by decide) (fun _ _ _ h => h) (Or.inr ⟨by kernel_rfl, rfl⟩) hSS ?_
          simp only [Act.put, List.setIfInBounds_toArray, List.set_cons_succ, List.set_cons_zero, List.getElem_toArray, List.getElem_cons_succ, List.getElem_cons_zero]
          refine wpAnyE_take0 (i := 26) (v := undef) rfl (by kernel_rfl) (by kernel_rfl) (by kernel_rfl) (by decide) (fun _ _ _ h => h) (Or.inr ⟨by kernel_rfl, rfl⟩) hSS ?_
          refine wpAnyE_take0 (i := 27) (v := undef) rfl (by kernel_rfl) (by kernel_rfl) (by kernel_rfl) (by decide) (fun _ _ _ h => h) (Or.inr ⟨by kernel_rfl, rfl⟩) hSS ?_
          refine wpAnyE_take0 (i := 28) (v := undef) rfl (by kernel_rfl) (by kernel_rfl) (by kernel_rfl) (by decide) (fun _ _ _ h => h) (Or.inr ⟨by kernel_rfl, rfl⟩) hSS ?_
          refine wpAnyE_take0 (i := 29) (v := undef) rfl (by kernel_rfl) (by kernel_rfl) (by kernel_rfl) (by decide) (fun _ _ _ h => h) (Or.inr ⟨by kernel_rfl, rfl⟩) hSS ?_
          simp only [Act.put, List.setIfInBounds_toArray, List.set_cons_succ, List.set_cons_zero, List.getElem_toArray, List.getElem_cons_succ, List.getElem_cons_zero]
          refine wpAnyE_take0 (i := 30) (v := undef) rfl (by kernel_rfl) (by kernel_rfl) (by kernel_rfl) (by decide) (fun _ _ _ h => h) (Or.inr ⟨by kernel_rfl, rfl⟩) hSS ?_
          refine wpAnyE_take0 (i := 31) (v := undef) rfl (by kernel_rfl) (by kernel_rfl) (by kernel_rfl) (by decide) (fun _ _ _ h => h) (Or.inr ⟨by kernel_rfl, rfl⟩) hSS ?_
          refine wpAnyE_take0 (i := 32) (v := undef) rfl (by kernel_rfl) (by kernel_rfl) (by kernel_rfl) (by decide) (fun _ _ _ h => h) (Or.inr ⟨by kernel_rfl, rfl⟩) hSS ?_
          refine wpAnyE_take0 (i := 33) (v := undef) rfl (by kernel_rfl) (by kernel_rfl) (by kernel_rfl) (by decide) (fun _ _ _ h => h) (Or.inr ⟨by kernel_rfl, rfl⟩) hSS ?_
          simp only [Act.put, List.setIfInBounds_toArray, List.set_cons_succ, List.set_cons_zero, List.getElem_toArray, List.getElem_cons_succ, List.getElem_cons_zero]
          refine wpAnyE_take0 (i := 34) (v := undef) rfl (by kernel_rfl) (by kernel_rfl) (by kernel_rfl) (by decide) (fun _ _ _ h => h) (Or.inr ⟨by kernel_rfl, rfl⟩) hSS ?_
          refine wpAnyE_take0 (i := 35) (v := undef) rfl (by kernel_rfl) (by kernel_rfl) (by kernel_rfl) (by decide) (fun _ _ _ h => h) (Or.inr ⟨by kernel_rfl, rfl⟩) hSS ?_
          refine wpAnyE_take0 (i := 36) (v := undef) rfl (by kernel_rfl) (by kernel_rfl) (by kernel_rfl) (by decide) (fun _ _ _ h => h) (Or.inr ⟨by kernel_rfl, rfl⟩) hSS ?_
          refine wpAnyE_take0 (i := 37) (v := undef) rfl (by kernel_rfl) (by kernel_rfl) (by kernel_rfl) (by decide) (fun _ _ _ h => h) (Or.inr ⟨by kernel_rfl, rfl⟩) hSS ?_
          simp only [Act.put, List.setIfInBounds_toArray, List.set_cons_succ, List.set_cons_zero, List.getElem_toArray, List.getElem_cons_succ, List.getElem_cons_zero]
          refine wpAnyE_take0 (i := 38) (v := undef) rfl (by kernel_rfl) (by kernel_rfl) (by kernel_rfl) (by decide) (fun _ _ _ h => h) (Or.inr ⟨by kernel_rfl, rfl⟩) hSS ?_
          refine wpAnyE_take0 (i := 39) (v := undef) rfl (by kernel_rfl) (by kernel_rfl) (by kernel_rfl) (by decide) (fun _ _ _ h => h) (Or.inr ⟨by kernel_rfl, rfl⟩) hSS ?_
          refine wpAnyE_take0 (i := 40) (v := ?av40) rfl (by kernel_rfl) (by kernel_rfl) (by kernel_rfl) (by decide) (fun _ _ _ h => h) (Or.inl ⟨by rfl, ?ahy40⟩) hSS ?_
          case ahy40 => (intro wz hSw; (try dsimp only at hSw); go_simp; try (with_reducible rfl))
          refine wpAnyE_take0 (i := 41) (v := ?av41) rfl (by kernel_rfl) (by kernel_rfl) (by kernel_rfl) (by decide) (fun _ _ _ h => h) (Or.inl ⟨by rfl, ?ahy41⟩) hSS ?_
          case ahy41 => (intro wz hSw; (try dsimp only at hSw); go_simp; try (with_reducible rfl))
          simp only [Act.put, List.setIfInBounds_toArray, List.set_cons_succ, List.set_cons_zero, List.getElem_toArray, List.getElem_cons_succ, List.getElem_cons_zero]
          refine wpAnyE_take0 (i := 42) (v := undef) rfl (by kernel_rfl) (by kernel_rfl) (by kernel_rfl) (by decide) (fun _ _ _ h => h) (Or.inr ⟨by kernel_rfl, rfl⟩) hSS ?_
          refine wpAnyE_take0 (i := 43) (v := undef) rfl (by kernel_rfl) (by kernel_rfl) (by kernel_rfl) (by decide) (fun _ _ _ h => h) (Or.inr ⟨by kernel_rfl, rfl⟩) hSS ?_
          refine wpAnyE_take0 (i := 44) (v := undef) rfl (by kernel_rfl) (by kernel_rfl) (by kernel_rfl) (by decide) (fun _ _ _ h => h) (Or.inr ⟨by kernel_rfl, rfl⟩) hSS ?_
          refine wpAnyE_take0 (i := 45) (v := undef) rfl (by kernel_rfl) (by kernel_rfl) (by kernel_rfl) (by decide) (fun _ _ _ h => h) (Or.inr ⟨by kernel_rfl, rfl⟩) hSS ?_
          simp only [Act.put, List.setIfInBounds_toArray, List.set_cons_succ, List.set_cons_zero, List.getElem_toArray, List.getElem_cons_succ, List.getElem_cons_zero]
          refine wpAnyE_take0 (i := 46) (v := undef) rfl (by kernel_rfl) (by kernel_rfl) (by kernel_rfl) (by decide) (fun _ _ _ h => h) (Or.inr ⟨by kernel_rfl, rfl⟩) hSS ?_
          refine wpAnyE_take0 (i := 47) (v := undef) rfl (by kernel_rfl) (by kernel_rfl) (by kernel_rfl) (by decide) (fun _ _ _ h => h) (Or.inr ⟨by kernel_rfl, rfl⟩) hSS ?_
          refine wpAnyE_take0 (i := 48) (v := undef) rfl (by kernel_rfl) (by kernel_rfl) (by kernel_rfl) (by decide) (fun _ _ _ h => h) (Or.inr ⟨by kernel_rfl, rfl⟩) hSS ?_
          refine wpAnyE_take0 (i := 49) (v := undef) rfl (by kernel_rfl) (by kernel_rfl) (by kernel_rfl) (by decide) (fun _ _ _ h => h) (Or.inr ⟨by kernel_rfl, rfl⟩) hSS ?_
          simp only [Act.put, List.setIfInBounds_toArray, List.set_cons_succ, List.set_cons_zero, List.getElem_toArray, List.getElem_cons_succ, List.getElem_cons_zero]
          refine wpAnyE_take0 (i := 50) (v := undef) rfl (by kernel_rfl) (by kernel_rfl) (by kernel_rfl) (by decide) (fun _ _ _ h => h) (Or.inr ⟨by kernel_rfl, rfl⟩) hSS ?_
          refine wpAnyE_take0 (i := 51) (v := undef) rfl (by kernel_rfl) (by kernel_rfl) (by kernel_rfl) (by decide) (fun _ _ _ h => h) (Or.inr ⟨by kernel_rfl, rfl⟩) hSS ?_
          refine wpAnyE_take0 (i := 52) (v := undef) rfl (by kernel_rfl) (by kernel_rfl) (by kernel_rfl) (by decide) (fun _ _ _ h => h) (Or.inr ⟨by kernel_rfl, rfl⟩) hSS ?_
          refine wpAnyE_take0 (i := 53) (v := undef) rfl (by kernel_rfl) (by kernel_rfl) (by kernel_rfl) (by decide) (fun _ _ _ h => h) (Or.inr ⟨by kernel_rfl, rfl⟩) hSS ?_
          simp only [Act.put, List.setIfInBounds_toArray, List.set_cons_succ, List.set_cons_zero, List.getElem_toArray, List.getElem_cons_succ, List.getElem_cons_zero]
          refine wpAnyE_take0 (i := 54) (v := undef) rfl (by kernel_rfl) (by kernel_rfl) (by kernel_rfl) (by decide) (fun _ _ _ h => h) (Or.inr ⟨by kernel_rfl, rfl⟩) hSS ?_
          refine wpAnyE_take0 (i := 55) (v := undef) rfl (by kernel_rfl) (by kernel_rfl) (by kernel_rfl) (by decide) (fun _ _ _ h => h) (Or.inr ⟨by kernel_rfl, rfl⟩) hSS ?_
          refine wpAnyE_take0 (i := 56) (v := undef) rfl (by kernel_rfl) (by kernel_rfl) (by kernel_rfl) (by decide) (fun _ _ _ h => h) (Or.inr ⟨by kernel_rfl, rfl⟩) hSS ?_
          refine wpAnyE_one (i := 57) (by kernel_rfl) rfl (fun K hK => ?_)
          go_simp
          refine hK.out _ _ ⟨hSS.1, fun _ => trivial⟩ ?_
          clear hK K
          refine wpAnyE_done (by kernel_rfl) ?_ _
          clear hSS
          go_wp2
          go_ret
          exact ⟨ret_bool (by rw [NO.out ND.out]), hb.drew⟩
        · have h1' := inB_iff.1 h1
          by_cases hs : gs = 0
          · subst hs
            by_cases hcd : gc = 0
            · subst hcd
              by_cases hn : gtn = 0
              · have ND : Hid (dnOk 0 0 gtn gtx = true) := by show _ = _; rw [dn_zero]; simp [hn]
                have hn3 : decide (0 < gtn) = false := by simp [hn]
                have hn4 : decide ((0 : Int) < (gtn : Int)) = false := by simp [hn]
                clear hn
                have KP : Hid (∀ W, Below wr.heap.size wr W → W.cell? ⟨b, off + k * 3, none⟩ = some (.int .i64 0) ∧ W.cell? ⟨b, off + k * 3 + 1, none⟩ = some (.int .i64 0) ∧ W.cell? ⟨b, off + k * 3 + 2, none⟩ = some (.slice gta gtn gtc)) := fun W hW => ⟨(hW.cell (p := ⟨b, off + k * 3, none⟩) (block_lt e0')).trans e0', (hW.cell (p := ⟨b, off + k * 3 + 1, none⟩) (block_lt e1')).trans e1', (hW.cell (p := ⟨b, off + k * 3 + 2, none⟩) (block_lt e2')).trans e2'⟩
                have hSS := And.intro (KP.out _ (Below.refl _ _).drew) True.intro
                clear e0' e1' e2'
                go_upto_region 6 with fail
                refine wp_region_ends (fun w' => w'.cell? ⟨b, off + k * 3, none⟩ = some (.int .i64 0) ∧ w'.cell? ⟨b, off + k * 3 + 1, none⟩ = some (.int .i64 0) ∧ w'.cell? ⟨b, off + k * 3 + 2, none⟩ = some (.slice gta gtn gtc)) (fun _ => True) 57 (by kernel_rfl) ?_
                refine wpAnyE_take0 (i := 0) (v := ?bv0) rfl (by kernel_rfl) (by kernel_rfl) (by kernel_rfl) (by decide) (fun _ _ _ h => h) (Or.inl ⟨by rfl, ?bhy0⟩) hSS ?_
                case bhy0 => (intro wz hSw; (try dsimp only at hSw); go_simp; try (with_reducible rfl))
                refine wpAnyE_take0 (i := 1) (v := ?bv1) rfl (by kernel_rfl) (by kernel_rfl) (by kernel_rfl) (by decide) (fun _ _ _ h => h) (Or.inl ⟨by rfl, ?bhy1⟩) hSS ?_
                case bhy1 => (intro wz hSw; (try dsimp only at hSw); go_simp; try (with_reducible rfl))
                refine wpAnyE_take0 (i := 2) (v := ?bv2) rfl (by kernel_rfl) (by kernel_rfl) (by kernel_rfl) (by decide) (fun _ _ _ h => h) (Or.inl ⟨by rfl, ?bhy2⟩) hSS ?_
                case bhy2 => (intro wz hSw; (try dsimp only at hSw); go_simp; try (with_reducible rfl))
                refine wpAnyE_take0 (i := 3) (v := ?bv3) rfl (by kernel_rfl) (by kernel_rfl) (by kernel_rfl) (by decide) (fun _ _ _ h => h) (Or.inl ⟨by rfl, ?bhy3⟩) hSS ?_
                case bhy3 => (intro wz hSw; (try dsimp only at hSw); go_simp; try (with_reducible rfl))
                simp only [Act.put, List.setIfInBounds_toArray, List.set_cons_succ, List.set_cons_zero, List.getElem_toArray, List.getElem_cons_succ, List.getElem_cons_zero]
                refine wpAnyE_take0 (i := 4) (v := ?bv4) rfl (by kernel_rfl) (by kernel_rfl) (by kernel_rfl) (by decide) (fun _ _ _ h => h) (Or.inl ⟨by rfl, ?bhy4⟩) hSS ?_
                case bhy4 => (intro wz hSw; (try dsimp only at hSw); go_simp; try (with_reducible rfl))
                refine wpAnyE_one (i := 5) (by kernel_rfl) rfl (fun K hK => ?_)
                go_simp
                refine (in_any _ _ _ _).mono ?_
                rintro ee wq ⟨rfl, rfl⟩
                rw [h1]
                (try dsimp only)
                refine hK.out _ _ ⟨hSS.1, fun _ => trivial⟩ ?_
                clear hK K
                refine wpAnyE_take0 (i := 6) (v := ?bv6) rfl (by kernel_rfl) (by kernel_rfl) (by kernel_rfl) (by decide) (fun _ _ _ h => h) (Or.inl ⟨by rfl, ?bhy6⟩) hSS ?_
                case bhy6 => (intro wz hSw; (try dsimp only at hSw); go_simp; try (with_reducible rfl))
                refine wpAnyE_take0 (i := 7) (v := ?bv7) rfl (by kernel_rfl) (by kernel_rfl) (by kernel_rfl) (by decide) (fun _ _ _ h => h) (Or.inl ⟨by rfl, ?bhy7⟩) hSS ?_
                case bhy7 => (intro wz hSw; (try dsimp only at hSw); go_simp; try (with_reducible rfl))
                refine wpAnyE_take0 (i := 8) (v := ?bv8) rfl (by kernel_rfl) (by kernel_rfl) (by kernel_rfl) (by decide) (fun _ _ _ h => h) (Or.inl ⟨by rfl, ?bhy8⟩) hSS ?_
                case bhy8 => (intro wz hSw; (try dsimp only at hSw); go_simp; try (with_reducible rfl))
                refine wpAnyE_take0 (i := 9) (v := ?bv9) rfl (by kernel_rfl) (by kernel_rfl) (by kernel_rfl) (by decide) (fun _ _ _ h => h) (Or.inl ⟨by rfl, ?bhy9⟩) hSS ?_
                case bhy9 => (intro wz hSw; (try dsimp only at hSw); go_simp; try (with_reducible rfl))
                simp only [Act.put, List.setIfInBounds_toArray, List.set_cons_succ, List.set_cons_zero, List.getElem_toArray, List.getElem_cons_succ, List.getElem_cons_zero]
                refine wpAnyE_take0 (i := 10) (v := ?bv10) rfl (by kernel_rfl) (by kernel_rfl) (by kernel_rfl) (by decide) (fun _ _ _ h => h) (Or.inl ⟨by rfl, ?bhy10⟩) hSS ?_
                case bhy10 => (intro wz hSw; (try dsimp only at hSw); go_simp; try (with_reducible rfl))
                refine wpAnyE_take0 (i := 11) (v := ?bv11) rfl (by kernel_rfl) (by kernel_rfl) (by kernel_rfl) (by decide) (fun _ _ _ h => h) (Or.inl ⟨by rfl, ?bhy11⟩) hSS ?_
                case bhy11 => (intro wz hSw; (try dsimp only at hSw); go_simp; try (with_reducible rfl))
                refine wpAnyE_take0 (i := 12) (v := ?bv12) rfl (by kernel_rfl) (by kernel_rfl) (by kernel_rfl) (by decide) (fun _ _ _ h => h) (Or.inl ⟨by rfl, ?bhy12⟩) hSS ?_
                case bhy12 => (intro wz hSw; (try dsimp only at hSw); go_simp; try (with_reducible rfl))
                refine wpAnyE_take0 (i := 13) (v := ?bv13) rfl (by kernel_rfl) (by kernel_rfl) (by kernel_rfl) (by decide) (fun _ _ _ h => h) (Or.inl ⟨by rfl, ?bhy13⟩) hSS ?_
                case bhy13 => (intro wz hSw; (try dsimp only at hSw); go_simp; try (with_reducible rfl))
                simp only [Act.put, List.setIfInBounds_toArray, List.set_cons_succ, List.set_cons_zero, List.getElem_toArray, List.getElem_cons_succ, List.getElem_cons_zero]
                refine wpAnyE_take0 (i := 14) (v := ?bv14) rfl (by kernel_rfl) (by kernel_rfl) (by kernel_rfl) (by decide) (fun _ _ _ h => h) (Or.inl ⟨by rfl, ?bhy14⟩) hSS ?_
                case bhy14 => (intro wz hSw; (try dsimp only at hSw); go_simp; try (with_reducible rfl))
                refine wpAnyE_take0 (i := 15) (v := ?bv15) rfl (by kernel_rfl) (by kernel_rfl) (by kernel_rfl) (by decide) (fun _ _ _ h => h) (Or.inl ⟨by rfl, ?bhy15⟩) hSS ?_
                case bhy15 => (intro wz hSw; (try dsimp only at hSw); go_simp; try (with_reducible rfl))
                refine wpAnyE_take0 (i := 16) (v := ?bv16) rfl (by kernel_rfl) (by kernel_rfl) (by kernel_rfl) (by decide) (fun _ _ _ h => h) (Or.inl ⟨by rfl, ?bhy16⟩) hSS ?_
                case bhy16 => (intro wz hSw; (try dsimp only at hSw); go_simp; try (with_reducible rfl))
                refine wpAnyE_take0 (i := 17) (v := ?bv17) rfl (by kernel_rfl) (by kernel_rfl) (by kernel_rfl) (by decide) (fun _ _ _ h => h) (Or.inl ⟨by rfl, ?bhy17⟩) hSS ?_
                case bhy17 => (intro wz hSw; (try dsimp only at hSw); go_simp; try (with_reducible rfl))
                simp only [Act.put, List.setIfInBounds_toArray, List.set_cons_succ, List.set_cons_zero, List.getElem_toArray, List.getElem_cons_succ, List.getElem_cons_zero]
                refine wpAnyE_take0 (i := 18) (v := ?bv18) rfl (by kernel_rfl) (by kernel_rfl) (by kernel_rfl) (by decide) (fun _ _ _ h => h) (Or.inl ⟨by rfl, ?bhy18⟩) hSS ?_
                case bhy18 => (intro wz hSw; (try dsimp only at hSw); go_simp; try (with_reducible rfl))
                refine wpAnyE_take0 (i := 19) (v := ?bv19) rfl (by kernel_rfl) (by kernel_rfl) (by kernel_rfl) (by decide) (fun _ _ _ h => h) (Or.inl ⟨by rfl, ?bhy19⟩) hSS ?_
                case bhy19 => (intro wz hSw; (try dsimp only at hSw); go_simp; try (with_reducible rfl))
                refine wpAnyE_take0 (i := 20) (v := ?bv20) rfl (by kernel_rfl) (by kernel_rfl) (by kernel_rfl) (by decide) (fun _ _ _ h => h) (Or.inl ⟨by rfl, ?bhy20⟩) hSS ?_
                case bhy20 => (intro wz hSw; (try dsimp only at hSw); go_simp; try (with_reducible rfl))
                refine wpAnyE_take0 (i := 21) (v := ?bv21) rfl (by kernel_rfl) (by kernel_rfl) (by kernel_rfl) (by decide) (fun _ _ _ h => h) (Or.inl ⟨by rfl, ?bhy21⟩) hSS ?_
                case bhy21 => (intro wz hSw; (try dsimp only at hSw); go_simp; try (with_reducible rfl))
                simp only [Act.put, List.setIfInBounds_toArray, List.set_cons_succ, List.set_cons_zero, List.getElem_toArray, List.getElem_cons_succ, List.getElem_cons_zero]
                refine wpAnyE_take0 (i := 22) (v := ?bv22) rfl (by kernel_rfl) (by kernel_rfl) (by kernel_rfl) (by decide) (fun _ _ _ h => h) (Or.inl ⟨by rfl, ?bhy22⟩) hSS ?_
                case bhy22 => (intro wz hSw; (try dsimp only at hSw); go_simp; try (with_reducible rfl))
                refine wpAnyE_take0 (i := 23) (v := ?bv23) rfl (by kernel_rfl) (by kernel_rfl) (by kernel_rfl) (by decide) (fun _ _ _ h => h) (Or.inl ⟨by rfl, ?bhy23⟩) hSS ?_
                case bhy23 => (intro wz hSw; (try dsimp only at hSw); go_simp; try (with_reducible rfl))
                refine wpAnyE_take0 (i := 24) (v := ?bv24) rfl (by kernel_rfl) (by kernel_rfl) (by kernel_rfl) (by decide) (fun _ _ _ h => h) (Or.inl ⟨by rfl, ?bhy24⟩) hSS ?_
                case bhy24 => (intro wz hSw; (try dsimp only at hSw); go_simp; try (with_reducible rfl))
                refine wpAnyE_take0 (i := 25) (v := ?bv25) rfl (by kernel_rfl) (by kernel_rfl) (by kernel_rfl) (by decide) (fun _ _ _ h => h) (Or.inl ⟨by rfl, ?bhy25⟩) hSS ?_
                case bhy25 => (intro wz hSw; (try dsimp only at hSw); go_simp; try (with_reducible rfl))
                simp only [Act.put, List.setIfInBounds_toArray, List.set_cons_succ, List.set_cons_zero, List.getElem_toArray, List.getElem_cons_succ, List.getElem_cons_zero]
                refine wpAnyE_take0 (i := 26) (v := ?bv26) rfl (by kernel_rfl) (by kernel_rfl) (by kernel_rfl) (by decide) (fun _ _ _ h => h) (Or.inl ⟨by rfl, ?bhy26⟩) hSS ?_
                case bhy26 => (intro wz hSw; (try dsimp only at hSw); go_simp; try (with_reducible rfl))
                refine wpAnyE_take0 (i := 27) (v := ?bv27) rfl (by kernel_rfl) (by kernel_rfl) (by kernel_rfl) (by decide) (fun _ _ _ h => h) (Or.inl ⟨by rfl, ?bhy27⟩) hSS ?_
                case bhy27 => (intro wz hSw; (try dsimp only at hSw); go_simp; try (with_reducible rfl))
                refine wpAnyE_take0 (i := 28) (v := ?bv28) rfl (by kernel_rfl) (by kernel_rfl) (by kernel_rfl) (by decide) (fun _ _ _ h => h) (Or.inl ⟨by rfl, ?bhy28⟩) hSS ?_
                case bhy28 => (intro wz hSw; (try dsimp only at hSw); go_simp; try (with_reducible rfl))
                refine wpAnyE_take0 (i := 29) (v := ?bv29) rfl (by kernel_rfl) (by kernel_rfl) (by kernel_rfl) (by decide) (fun _ _ _ h => h) (Or.inl ⟨by rfl, ?bhy29⟩) hSS ?_
                case bhy29 => (intro wz hSw; (try dsimp only at hSw); go_simp; try (with_reducible rfl))
                simp only [Act.put, List.setIfInBounds_toArray, List.set_cons_succ, List.set_cons_zero, List.getElem_toArray, List.getElem_cons_succ, List.getElem_cons_zero]
                refine wpAnyE_take0 (i := 30) (v := ?bv30) rfl (by kernel_rfl) (by kernel_rfl) (by kernel_rfl) (by decide) (fun _ _ _ h => h) (Or.inl ⟨by rfl, ?bhy30⟩) hSS ?_
                case bhy30 => (intro wz hSw; (try dsimp only at hSw); go_simp; try (with_reducible rfl))
                refine wpAnyE_take0 (i := 31) (v := ?bv31) rfl (by kernel_rfl) (by kernel_rfl) (by kernel_rfl) (by decide) (fun _ _ _ h => h) (Or.inl ⟨by rfl, ?bhy31⟩) hSS ?_
                case bhy31 => (intro wz hSw; (try dsimp only at hSw); go_simp; try (with_reducible rfl))
                refine wpAnyE_take0 (i := 32) (v := ?bv32) rfl (by kernel_rfl) (by kernel_rfl) (by kernel_rfl) (by decide) (fun _ _ _ h => h) (Or.inl ⟨by rfl, ?bhy32⟩) hSS ?_
                case bhy32 => (intro wz hSw; (try dsimp only at hSw); go_simp; try (with_reducible rfl))
                refine wpAnyE_take0 (i := 33) (v := ?bv33) rfl (by kernel_rfl) (by kernel_rfl) (by kernel_rfl) (by decide) (fun _ _ _ h => h) (Or.inl ⟨by rfl, ?bhy33⟩) hSS ?_
                case bhy33 => (intro wz hSw; (try dsimp only at hSw); go_simp; try (with_reducible rfl))
                simp only [Act.put, List.setIfInBounds_toArray, List.set_cons_succ, List.set_cons_zero, List.getElem_toArray, List.getElem_cons_succ, List.getElem_cons_zero]
                refine wpAnyE_take0 (i := 34) (v := ?bv34) rfl (by kernel_rfl) (by kernel_rfl) (by kernel_rfl) (by decide) (fun _ _ _ h => h) (Or.inl ⟨by rfl, ?bhy34⟩) hSS ?_
                case bhy34 => (intro wz hSw; (try dsimp only at hSw); go_simp; try (with_reducible rfl))
                refine wpAnyE_take0 (i := 35) (v := ?bv35) rfl (by kernel_rfl) (by kernel_rfl) (by kernel_rfl) (by decide) (fun _ _ _ h => h) (Or.inl ⟨by rfl, ?bhy35⟩) hSS ?_
                case bhy35 => (intro wz hSw; (try dsimp only at hSw); go_simp; try (with_reducible rfl))
                refine wpAnyE_take0 (i := 36) (v := ?bv36) rfl (by kernel_rfl) (by kernel_rfl) (by kernel_rfl) (by decide) (fun _ _ _ h => h) (Or.inl ⟨by rfl, ?bhy36⟩) hSS ?_
                case bhy36 => (intro wz hSw; (try dsimp only at hSw); go_simp; try (with_reducible rfl))
                refine wpAnyE_one (i := 37) (by kernel_rfl) rfl (fun K hK => ?_)
                go_simp
                refine hK.out _ _ ⟨hSS.1, fun _ => trivial⟩ ?_
                clear hK K
                refine wpAnyE_take0 (i := 38) (v := ?bv38) rfl (by kernel_rfl) (by kernel_rfl) (by kernel_rfl) (by decide) (fun _ _ _ h => h) (Or.inl ⟨by rfl, ?bhy38⟩) hSS ?_
                case bhy38 => (intro wz hSw; (try dsimp only at hSw); go_simp; try (with_reducible rfl))
                refine wpAnyE_take0 (i := 39) (v := ?bv39) rfl (by kernel_rfl) (by kernel_rfl) (by kernel_rfl) (by decide) (fun _ _ _ h => h) (Or.inl ⟨by rfl, ?bhy39⟩) hSS ?_
                case bhy39 => (intro wz hSw; (try dsimp only at hSw); go_simp; try (with_reducible rfl))
                refine wpAnyE_take0 (i := 40) (v := ?bv40) rfl (by kernel_rfl) (by kernel_rfl) (by kernel_rfl) (by decide) (fun _ _ _ h => h) (Or.inl ⟨by rfl, ?bhy40⟩) hSS ?_
                case bhy40 => (intro wz hSw; (try dsimp only at hSw); go_simp; try (with_reducible rfl))
                refine wpAnyE_take0 (i := 41) (v := ?bv41) rfl (by kernel_rfl) (by kernel_rfl) (by kernel_rfl) (by decide) (fun _ _ _ h => h) (Or.inl ⟨by rfl, ?bhy41⟩) hSS ?_
                case bhy41 => (intro wz hSw; (try dsimp only at hSw); go_simp; try (with_reducible rfl))
                simp only [Act.put, List.setIfInBounds_toArray, List.set_cons_succ, List.set_cons_zero, List.getElem_toArray, List.getElem_cons_succ, List.getElem_cons_zero]
                refine wpAnyE_take0 (i := 42) (v := ?bv42) rfl (by kernel_rfl) (by kernel_rfl) (by kernel_rfl) (by decide) (fun _ _ _ h => h) (Or.inl ⟨by rfl, ?bhy42⟩) hSS ?_
                case bhy42 => (intro wz hSw; (try dsimp only at hSw); go_simp; try (with_reducible rfl))
                refine wpAnyE_take0 (i := 43) (v := ?bv43) rfl (by kernel_rfl) (by kernel_rfl) (by kernel_rfl) (by decide) (fun _ _ _ h => h) (Or.inl ⟨by rfl, ?bhy43⟩) hSS ?_
                case bhy43 => (intro wz hSw; (try dsimp only at hSw); go_simp; try (with_reducible rfl))
                refine wpAnyE_take0 (i := 44) (v := ?bv44) rfl (by kernel_rfl) (by kernel_rfl) (by kernel_rfl) (by decide) (fun _ _ _ h => h) (Or.inl ⟨by rfl, ?bhy44⟩) hSS ?_
                case bhy44 => (intro wz hSw; (try dsimp only at hSw); go_simp; try (with_reducible rfl))
                refine wpAnyE_take0 (i := 45) (v := ?bv45) rfl (by kernel_rfl) (by kernel_rfl) (by kernel_rfl) (by decide) (fun _ _ _ h => h) (Or.inl ⟨by rfl, ?bhy45⟩) hSS ?_
                case bhy45 => (intro wz hSw; (try dsimp only at hSw); go_simp; try (with_reducible rfl))
                simp only [Act.put, List.setIfInBounds_toArray, List.set_cons_succ, List.set_cons_zero, List.getElem_toArray, List.getElem_cons_succ, List.getElem_cons_zero]
                refine wpAnyE_take0 (i := 46) (v := ?bv46) rfl (by kernel_rfl) (by kernel_rfl) (by kernel_rfl) (by decide) (fun _ _ _ h => h) (Or.inl ⟨by rfl, ?bhy46⟩) hSS ?_
                case bhy46 => (intro wz hSw; (try dsimp only at hSw); go_simp; try (with_reducible rfl))
                refine wpAnyE_take0 (i := 47) (v := ?bv47) rfl (by kernel_rfl) (by kernel_rfl) (by kernel_rfl) (by decide) (fun _ _ _ h => h) (Or.inl ⟨by rfl, ?bhy47⟩) hSS ?_
                case bhy47 => (intro wz hSw; (try dsimp only at hSw); go_simp; try (with_reducible rfl))
                refine wpAnyE_take0 (i := 48) (v := ?bv48) rfl (by kernel_rfl) (by kernel_rfl) (by kernel_rfl) (by decide) (fun _ _ _ h => h) (Or.inl ⟨by rfl, ?bhy48⟩) hSS ?_
                case bhy48 => (intro wz hSw; (try dsimp only at hSw); go_simp; try (with_reducible rfl))
                refine wpAnyE_take0 (i := 49) (v := undef) rfl (by kernel_rfl) (by kernel_rfl) (by kernel_rfl) (by decide) (fun _ _ _ h => h) (Or.inr ⟨by kernel_rfl, rfl⟩) hSS ?_
                simp only [Act.put, List.setIfInBounds_toArray, List.set_cons_succ, List.set_cons_zero, List.getElem_toArray, List.getElem_cons_succ, List.getElem_cons_zero]
                refine wpAnyE_take0 (i := 50) (v := undef) rfl (by kernel_rfl) (by kernel_rfl) (by kernel_rfl) (by decide) (fun _ _ _ h => h) (Or.inr ⟨by kernel_rfl, rfl⟩) hSS ?_
                refine wpAnyE_take0 (i := 51) (v := undef) rfl (by kernel_rfl) (by kernel_rfl) (by kernel_rfl) (by decide) (fun _ _ _ h => h) (Or.inr ⟨by kernel_rfl, rfl⟩) hSS ?_
                refine wpAnyE_take0 (i := 52) (v := undef) rfl (by kernel_rfl) (by kernel_rfl) (by kernel_rfl) (by decide) (fun _ _ _ h => h) (Or.inr ⟨by kernel_rfl, rfl⟩) hSS ?_
                refine wpAnyE_take0 (i := 53) (v := undef) rfl (by kernel_rfl) (by kernel_rfl) (by kernel_rfl) (by decide) (fun _ _ _ h => h) (Or.inr ⟨by kernel_rfl, rfl⟩) hSS ?_
                simp only [Act.put, List.setIfInBounds_toArray, List.set_cons_succ, List.set_cons_zero, List.getElem_toArray, List.getElem_cons_succ, List.getElem_cons_zero]
                refine wpAnyE_take0 (i := 54) (v := undef) rfl (by kernel_rfl) (by kernel_rfl) (by kernel_rfl) (by decide) (fun _ _ _ h => h) (Or.inr ⟨by kernel_rfl, rfl⟩) hSS ?_
                refine wpAnyE_take0 (i := 55) (v := undef) rfl (by kernel_rfl) (by kernel_rfl) (by kernel_rfl) (by decide) (fun _ _ _ h => h) (Or.inr ⟨by kernel_rfl, rfl⟩) hSS ?_
                refine wpAnyE_take0 (i := 56) (v := ?bv56) rfl (by kernel_rfl) (by kernel_rfl) (by kernel_rfl) (by decide) (fun _ _ _ h => h) (Or.inl ⟨by rfl, ?bhy56⟩) hSS ?_
                case bhy56 => (intro wz hSw; (try dsimp only at hSw); go_simp; try (with_reducible rfl))
                refine wpAnyE_one (i := 57) (by kernel_rfl) rfl (fun K hK => ?_)
                go_simp
                refine hK.out _ _ ⟨hSS.1, fun _ => trivial⟩ ?_
                clear hK K
                refine wpAnyE_done (by kernel_rfl) ?_ _
                clear hSS
                go_wp2
                go_roundw
                case rel => exact ⟨k + 1, by omega, by go_num, hb.drew, YES.out ND.out⟩
                case measure => simp [intOf]; omega
              · have ND : Hid (dnOk 0 0 gtn gtx = false) := by show _ = _; rw [dn_zero]; simp [hn]
                have hn3 : decide (0 < gtn) = true := by simp; omega
                have hn4 : decide ((0 : Int) < (gtn : Int)) = true := by simp; omega
                clear hn
                have KP : Hid (∀ W, Below wr.heap.size wr W → W.cell? ⟨b, off + k * 3, none⟩ = some (.int .i64 0) ∧ W.cell? ⟨b, off + k * 3 + 1, none⟩ = some (.int .i64 0) ∧ W.cell? ⟨b, off + k * 3 + 2, none⟩ = some (.slice gta gtn gtc)) := fun W hW => ⟨(hW.cell (p := ⟨b, off + k * 3, none⟩) (block_lt e0')).trans e0', (hW.cell (p := ⟨b, off + k * 3 + 1, none⟩) (block_lt e1')).trans e1', (hW.cell (p := ⟨b, off + k * 3 + 2, none⟩) (block_lt e2')).trans e2'⟩
                have hSS := And.intro (KP.out _ (Below.refl _ _).drew) True.intro
                clear e0' e1' e2'
                go_upto_region 6 with fail
                refine wp_region_ends (fun w' => w'.cell? ⟨b, off + k * 3, none⟩ = some (.int .i64 0) ∧ w'.cell? ⟨b, off + k * 3 + 1, none⟩ = some (.int .i64 0) ∧ w'.cell? ⟨b, off + k * 3 + 2, none⟩ = some (.slice gta gtn gtc)) (fun _ => True) 57 (by kernel_rfl) ?_
                refine wpAnyE_take0 (i := 0) (v := ?cv0) rfl (by kernel_rfl) (by kernel_rfl) (by kernel_rfl) (by decide) (fun _ _ _ h => h) (Or.inl ⟨by rfl, ?chy0⟩) hSS ?_
                case chy0 => (intro wz hSw; (try dsimp only at hSw); go_simp; try (with_reducible rfl))
                refine wpAnyE_take0 (i := 1) (v := ?cv1) rfl (by kernel_rfl) (by kernel_rfl) (by kernel_rfl) (by decide) (fun _ _ _ h => h) (Or.inl ⟨by rfl, ?chy1⟩) hSS ?_
                case chy1 => (intro wz hSw; (try dsimp only at hSw); go_simp; try (with_reducible rfl))
                refine wpAnyE_take0 (i := 2) (v := ?cv2) rfl (by kernel_rfl) (by kernel_rfl) (by kernel_rfl) (by decide) (fun _ _ _ h => h) (Or.inl ⟨by rfl, ?chy2⟩) hSS ?_
                case chy2 => (intro wz hSw; (try dsimp only at hSw); go_simp; try (with_reducible rfl))
                refine wpAnyE_take0 (i := 3) (v := ?cv3) rfl (by kernel_rfl) (by kernel_rfl) (by kernel_rfl) (by decide) (fun _ _ _ h => h) (Or.inl ⟨by rfl, ?chy3⟩) hSS ?_
                case chy3 => (intro wz hSw; (try dsimp only at hSw); go_simp; try (with_reducible rfl))
                simp only [Act.put, List.setIfInBounds_toArray, List.set_cons_succ, List.set_cons_zero, List.getElem_toArray, List.getElem_cons_succ, List.getElem_cons_zero]
                refine wpAnyE_take0 (i := 4) (v := ?cv4) rfl (by kernel_rfl) (by kernel_rfl) (by kernel_rfl) (by decide) (fun _ _ _ h => h) (Or.inl ⟨by rfl, ?chy4⟩) hSS ?_
                case chy4 => (intro wz hSw; (try dsimp only at hSw); go_simp; try (with_reducible rfl))
                refine wpAnyE_one (i := 5) (by kernel_rfl) rfl (fun K hK => ?_)
                go_simp
                refine (in_any _ _ _ _).mono ?_
                rintro ee wq ⟨rfl, rfl⟩
                rw [h1]
                (try dsimp only)
                refine hK.out _ _ ⟨hSS.1, fun _ => trivial⟩ ?_
                clear hK K
                refine wpAnyE_take0 (i := 6) (v := ?cv6) rfl (by kernel_rfl) (by kernel_rfl) (by kernel_rfl) (by decide) (fun _ _ _ h => h) (Or.inl ⟨by rfl, ?chy6⟩) hSS ?_
                case chy6 => (intro wz hSw; (try dsimp only at hSw); go_simp; try (with_reducible rfl))
                refine wpAnyE_take0 (i := 7) (v := ?cv7) rfl (by kernel_rfl) (by kernel_rfl) (by kernel_rfl) (by decide) (fun _ _ _ h => h) (Or.inl ⟨by rfl, ?chy7⟩) hSS ?_
                case chy7 => (intro wz hSw; (try dsimp only at hSw); go_simp; try (with_reducible rfl))
                refine wpAnyE_take0 (i := 8) (v := ?cv8) rfl (by kernel_rfl) (by kernel_rfl) (by kernel_rfl) (by decide) (fun _ _ _ h => h) (Or.inl ⟨by rfl, ?chy8⟩) hSS ?_
                case chy8 => (intro wz hSw; (try dsimp only at hSw); go_simp; try (with_reducible rfl))
                refine wpAnyE_take0 (i := 9) (v := ?cv9) rfl (by kernel_rfl) (by kernel_rfl) (by kernel_rfl) (by decide) (fun _ _ _ h => h) (Or.inl ⟨by rfl, ?chy9⟩) hSS ?_
                case chy9 => (intro wz hSw; (try dsimp only at hSw); go_simp; try (with_reducible rfl))
                simp only [Act.put, List.setIfInBounds_toArray, List.set_cons_succ, List.set_cons_zero, List.getElem_toArray, List.getElem_cons_succ, List.getElem_cons_zero]
                refine wpAnyE_take0 (i := 10) (v := ?cv10) rfl (by kernel_rfl) (by kernel_rfl) (by kernel_rfl) (by decide) (fun _ _ _ h => h) (Or.inl ⟨by rfl, ?chy10⟩) hSS ?_
                case chy10 => (intro wz hSw; (try dsimp only at hSw); go_simp; try (with_reducible rfl))
                refine wpAnyE_take0 (i := 11) (v := ?cv11) rfl (by kernel_rfl) (by kernel_rfl) (by kernel_rfl) (by decide) (fun _ _ _ h => h) (Or.inl ⟨by rfl, ?chy11⟩) hSS ?_
                case chy11 => (intro wz hSw; (try dsimp only at hSw); go_simp; try (with_reducible rfl))
                refine wpAnyE_take0 (i := 12) (v := ?cv12) rfl (by kernel_rfl) (by kernel_rfl) (by kernel_rfl) (by decide) (fun _ _ _ h => h) (Or.inl ⟨by rfl, ?chy12⟩) hSS ?_
                case chy12 => (intro wz hSw; (try dsimp only at hSw); go_simp; try (with_reducible rfl))
                refine wpAnyE_take0 (i := 13) (v := ?cv13) rfl (by kernel_rfl) (by kernel_rfl) (by kernel_rfl) (by decide) (fun _ _ _ h => h) (Or.inl ⟨by rfl, ?chy13⟩) hSS ?_
                case chy13 => (intro wz hSw; (try dsimp only at hSw); go_simp; try (with_reducible rfl))
                simp only [Act.put, List.setIfInBounds_toArray, List.set_cons_succ, List.set_cons_zero, List.getElem_toArray, List.getElem_cons_succ, List.getElem_cons_zero]
                refine wpAnyE_take0 (i := 14) (v := ?cv14) rfl (by kernel_rfl) (by kernel_rfl) (by kernel_rfl) (by decide) (fun _ _ _ h => h) (Or.inl ⟨by rfl, ?chy14⟩) hSS ?_
                case chy14 => (intro wz hSw; (try dsimp only at hSw); go_simp; try (with_reducible rfl))
                refine wpAnyE_take0 (i := 15) (v := ?cv15) rfl (by kernel_rfl) (by kernel_rfl) (by kernel_rfl) (by decide) (fun _ _ _ h => h) (Or.inl ⟨by rfl, ?chy15⟩) hSS ?_
                case chy15 => (intro wz hSw; (try dsimp only at hSw); go_simp; try (with_reducible rfl))
                refine wpAnyE_take0 (i := 16) (v := ?cv16) rfl (by kernel_rfl) (by kernel_rfl) (by kernel_rfl) (by decide) (fun _ _ _ h => h) (Or.inl ⟨by rfl, ?chy16⟩) hSS ?_
                case chy16 => (intro wz hSw; (try dsimp only at hSw); go_simp; try (with_reducible rfl))
                refine wpAnyE_take0 (i := 17) (v := ?cv17) rfl (by kernel_rfl) (by kernel_rfl) (by kernel_rfl) (by decide) (fun _ _ _ h => h) (Or.inl ⟨by rfl, ?chy17⟩) hSS ?_
                case chy17 => (intro wz hSw; (try dsimp only at hSw); go_simp; try (with_reducible rfl))
                simp only [Act.put, List.setIfInBounds_toArray, List.set_cons_succ, List.set_cons_zero, List.getElem_toArray, List.getElem_cons_succ, List.getElem_cons_zero]
                refine wpAnyE_take0 (i := 18) (v := ?cv18) rfl (by kernel_rfl) (by kernel_rfl) (by kernel_rfl) (by decide) (fun _ _ _ h => h) (Or.inl ⟨by rfl, ?chy18⟩) hSS ?_
                case chy18 => (intro wz hSw; (try dsimp only at hSw); go_simp; try (with_reducible rfl))
                refine wpAnyE_take0 (i := 19) (v := ?cv19) rfl (by kernel_rfl) (by kernel_rfl) (by kernel_rfl) (by decide) (fun _ _ _ h => h) (Or.inl ⟨by rfl, ?chy19⟩) hSS ?_
                case chy19 => (intro wz hSw; (try dsimp only at hSw); go_simp; try (with_reducible rfl))
                refine wpAnyE_take0 (i := 20) (v := ?cv20) rfl (by kernel_rfl) (by kernel_rfl) (by kernel_rfl) (by decide) (fun _ _ _ h => h) (Or.inl ⟨by rfl, ?chy20⟩) hSS ?_
                case chy20 => (intro wz hSw; (try dsimp only at hSw); go_simp; try (with_reducible rfl))
                refine wpAnyE_take0 (i := 21) (v := ?cv21) rfl (by kernel_rfl) (by kernel_rfl) (by kernel_rfl) (by decide) (fun _ _ _ h => h) (Or.inl ⟨by rfl, ?chy21⟩) hSS ?_
                case chy21 => (intro wz hSw; (try dsimp only at hSw); go_simp; try (with_reducible rfl))
                simp only [Act.put, List.setIfInBounds_toArray, List.set_cons_succ, List.set_cons_zero, List.getElem_toArray, List.getElem_cons_succ, List.getElem_cons_zero]
                refine wpAnyE_take0 (i := 22) (v := ?cv22) rfl (by kernel_rfl) (by kernel_rfl) (by kernel_rfl) (by decide) (fun _ _ _ h => h) (Or.inl ⟨by rfl, ?chy22⟩) hSS ?_
                case chy22 => (intro wz hSw; (try dsimp only at hSw); go_simp; try (with_reducible rfl))
                refine wpAnyE_take0 (i := 23) (v := ?cv23) rfl (by kernel_rfl) (by kernel_rfl) (by kernel_rfl) (by decide) (fun _ _ _ h => h) (Or.inl ⟨by rfl, ?chy23⟩) hSS ?_
                case chy23 => (intro wz hSw; (try dsimp only at hSw); go_simp; try (with_reducible rfl))
                refine wpAnyE_take0 (i := 24) (v := ?cv24) rfl (by kernel_rfl) (by kernel_rfl) (by kernel_rfl) (by decide) (fun _ _ _ h => h) (Or.inl ⟨by rfl, ?chy24⟩) hSS ?_
                case chy24 => (intro wz hSw; (try dsimp only at hSw); go_simp; try (with_reducible rfl))
                refine wpAnyE_take0 (i := 25) (v := ?cv25) rfl (by kernel_rfl) (by kernel_rfl) (by kernel_rfl) (by decide) (fun _ _ _ h => h) (Or.inl ⟨by rfl, ?chy25⟩) hSS ?_
                case chy25 => (intro wz hSw; (try dsimp only at hSw); go_simp; try (with_reducible rfl))
                simp only [Act.put, List.setIfInBounds_toArray, List.set_cons_succ, List.set_cons_zero, List.getElem_toArray, List.getElem_cons_succ, List.getElem_cons_zero]
                refine wpAnyE_take0 (i := 26) (v := ?cv26) rfl (by kernel_rfl) (by kernel_rfl) (by kernel_rfl) (by decide) (fun _ _ _ h => h) (Or.inl ⟨by rfl, ?chy26⟩) hSS ?_
                case chy26 => (intro wz hSw; (try dsimp only at hSw); go_simp; try (with_reducible rfl))
                refine wpAnyE_take0 (i := 27) (v := ?cv27) rfl (by kernel_rfl) (by kernel_rfl) (by kernel_rfl) (by decide) (fun _ _ _ h => h) (Or.inl ⟨by rfl, ?chy27⟩) hSS ?_
                case chy27 => (intro wz hSw; (try dsimp only at hSw); go_simp; try (with_reducible rfl))
                refine wpAnyE_take0 (i := 28) (v := ?cv28) rfl (by kernel_rfl) (by kernel_rfl) (by kernel_rfl) (by decide) (fun _ _ _ h => h) (Or.inl ⟨by rfl, ?chy28⟩) hSS ?_
                case chy28 => (intro wz hSw; (try dsimp only at hSw); go_simp; try (with_reducible rfl))
                refine wpAnyE_take0 (i := 29) (v := ?cv29) rfl (by kernel_rfl) (by kernel_rfl) (by kernel_rfl) (by decide) (fun _ _ _ h => h) (Or.inl ⟨by rfl, ?chy29⟩) hSS ?_
                case chy29 => (intro wz hSw; (try dsimp only at hSw); go_simp; try (with_reducible rfl))
                simp only [Act.put, List.setIfInBounds_toArray, List.set_cons_succ, List.set_cons_zero, List.getElem_toArray, List.getElem_cons_succ, List.getElem_cons_zero]
                refine wpAnyE_take0 (i := 30) (v := ?cv30) rfl (by kernel_rfl) (by kernel_rfl) (by kernel_rfl) (by decide) (fun _ _ _ h => h) (Or.inl ⟨by rfl, ?chy30⟩) hSS ?_
                case chy30 => (intro wz hSw; (try dsimp only at hSw); go_simp; try (with_reducible rfl))
                refine wpAnyE_take0 (i := 31) (v := ?cv31) rfl (by kernel_rfl) (by kernel_rfl) (by kernel_rfl) (by decide) (fun _ _ _ h => h) (Or.inl ⟨by rfl, ?chy31⟩) hSS ?_
                case chy31 => (intro wz hSw; (try dsimp only at hSw); go_simp; try (with_reducible rfl))
                refine wpAnyE_take0 (i := 32) (v := ?cv32) rfl (by kernel_rfl) (by kernel_rfl) (by kernel_rfl) (by decide) (fun _ _ _ h => h) (Or.inl ⟨by rfl, ?chy32⟩) hSS ?_
                case chy32 => (intro wz hSw; (try dsimp only at hSw); go_simp; try (with_reducible rfl))
                refine wpAnyE_take0 (i := 33) (v := ?cv33) rfl (by kernel_rfl) (by kernel_rfl) (by kernel_rfl) (by decide) (fun _ _ _ h => h) (Or.inl ⟨by rfl, ?chy33⟩) hSS ?_
                case chy33 => (intro wz hSw; (try dsimp only at hSw); go_simp; try (with_reducible rfl))
                simp only [Act.put, List.setIfInBounds_toArray, List.set_cons_succ, List.set_cons_zero, List.getElem_toArray, List.getElem_cons_succ, List.getElem_cons_zero]
                refine wpAnyE_take0 (i := 34) (v := ?cv34) rfl (by kernel_rfl) (by kernel_rfl) (by kernel_rfl) (by decide) (fun _ _ _ h => h) (Or.inl ⟨by rfl, ?chy34⟩) hSS ?_
                case chy34 => (intro wz hSw; (try dsimp only at hSw); go_simp; try (with_reducible rfl))
                refine wpAnyE_take0 (i := 35) (v := ?cv35) rfl (by kernel_rfl) (by kernel_rfl) (by kernel_rfl) (by decide) (fun _ _ _ h => h) (Or.inl ⟨by rfl, ?chy35⟩) hSS ?_
                case chy35 => (intro wz hSw; (try dsimp only at hSw); go_simp; try (with_reducible rfl))
                refine wpAnyE_take0 (i := 36) (v := ?cv36) rfl (by kernel_rfl) (by kernel_rfl) (by kernel_rfl) (by decide) (fun _ _ _ h => h) (Or.inl ⟨by rfl, ?chy36⟩) hSS ?_
                case chy36 => (intro wz hSw; (try dsimp only at hSw); go_simp; try (with_reducible rfl))
                refine wpAnyE_one (i := 37) (by kernel_rfl) rfl (fun K hK => ?_)
                go_simp
                refine hK.out _ _ ⟨hSS.1, fun _ => trivial⟩ ?_
                clear hK K
                refine wpAnyE_take0 (i := 38) (v := ?cv38) rfl (by kernel_rfl) (by kernel_rfl) (by kernel_rfl) (by decide) (fun _ _ _ h => h) (Or.inl ⟨by rfl, ?chy38⟩) hSS ?_
                case chy38 => (intro wz hSw; (try dsimp only at hSw); go_simp; try (with_reducible rfl))
                refine wpAnyE_take0 (i := 39) (v := ?cv39) rfl (by kernel_rfl) (by kernel_rfl) (by kernel_rfl) (by decide) (fun _ _ _ h => h) (Or.inl ⟨by rfl, ?chy39⟩) hSS ?_
                case chy39 => (intro wz hSw; (try dsimp only at hSw); go_simp; try (with_reducible rfl))
                refine wpAnyE_take0 (i := 40) (v := ?cv40) rfl (by kernel_rfl) (by kernel_rfl) (by kernel_rfl) (by decide) (fun _ _ _ h => h) (Or.inl ⟨by rfl, ?chy40⟩) hSS ?_
                case chy40 => (intro wz hSw; (try dsimp only at hSw); go_simp; try (with_reducible rfl))
                refine wpAnyE_take0 (i := 41) (v := ?cv41) rfl (by kernel_rfl) (by kernel_rfl) (by kernel_rfl) (by decide) (fun _ _ _ h => h) (Or.inl ⟨by rfl, ?chy41⟩) hSS ?_
                case chy41 => (intro wz hSw; (try dsimp only at hSw); go_simp; try (with_reducible rfl))
                simp only [Act.put, List.setIfInBounds_toArray, List.set_cons_succ, List.set_cons_zero, List.getElem_toArray, List.getElem_cons_succ, List.getElem_cons_zero]
                refine wpAnyE_take0 (i := 42) (v := undef) rfl (by kernel_rfl) (by kernel_rfl) (by kernel_rfl) (by decide) (fun _ _ _ h => h) (Or.inr ⟨by kernel_rfl, rfl⟩) hSS ?_
                refine wpAnyE_take0 (i := 43) (v := undef) rfl (by kernel_rfl) (by kernel_rfl) (by kernel_rfl) (by decide) (fun _ _ _ h => h) (Or.inr ⟨by kernel_rfl, rfl⟩) hSS ?_
                refine wpAnyE_take0 (i := 44) (v := undef) rfl (by kernel_rfl) (by kernel_rfl) (by kernel_rfl) (by decide) (fun _ _ _ h => h) (Or.inr ⟨by kernel_rfl, rfl⟩) hSS ?_
                refine wpAnyE_take0 (i := 45) (v := undef) rfl (by kernel_rfl) (by kernel_rfl) (by kernel_rfl) (by decide) (fun _ _ _ h => h) (Or.inr ⟨by kernel_rfl, rfl⟩) hSS ?_
                simp only [Act.put, List.setIfInBounds_toArray, List.set_cons_succ, List.set_cons_zero, List.getElem_toArray, List.getElem_cons_succ, List.getElem_cons_zero]
                refine wpAnyE_take0 (i := 46) (v := undef) rfl (by kernel_rfl) (by kernel_rfl) (by kernel_rfl) (by decide) (fun _ _ _ h => h) (Or.inr ⟨by kernel_rfl, rfl⟩) hSS ?_
                refine wpAnyE_take0 (i := 47) (v := undef) rfl (by kernel_rfl) (by kernel_rfl) (by kernel_rfl) (by decide) (fun _ _ _ h => h) (Or.inr ⟨by kernel_rfl, rfl⟩) hSS ?_
                refine wpAnyE_take0 (i := 48) (v := undef) rfl (by kernel_rfl) (by kernel_rfl) (by kernel_rfl) (by decide) (fun _ _ _ h => h) (Or.inr ⟨by kernel_rfl, rfl⟩) hSS ?_
                refine wpAnyE_take0 (i := 49) (v := undef) rfl (by kernel_rfl) (by kernel_rfl) (by kernel_rfl) (by decide) (fun _ _ _ h => h) (Or.inr ⟨by kernel_rfl, rfl⟩) hSS ?_
                simp only [Act.put, List.setIfInBounds_toArray, List.set_cons_succ, List.set_cons_zero, List.getElem_toArray, List.getElem_cons_succ, List.getElem_cons_zero]
                refine wpAnyE_take0 (i := 50) (v := undef) rfl (by kernel_rfl) (by kernel_rfl) (by kernel_rfl) (by decide) (fun _ _ _ h => h) (Or.inr ⟨by kernel_rfl, rfl⟩) hSS ?_
                refine wpAnyE_take0 (i := 51) (v := undef) rfl (by kernel_rfl) (by kernel_rfl) (by kernel_rfl) (by decide) (fun _ _ _ h => h) (Or.inr ⟨by kernel_rfl, rfl⟩) hSS ?_
                refine wpAnyE_take0 (i := 52) (v := undef) rfl (by kernel_rfl) (by kernel_rfl) (by kernel_rfl) (by decide) (fun _ _ _ h => h) (Or.inr ⟨by kernel_rfl, rfl⟩) hSS ?_
                refine wpAnyE_take0 (i := 53) (v := undef) rfl (by kernel_rfl) (by kernel_rfl) (by kernel_rfl) (by decide) (fun _ _ _ h => h) (Or.inr ⟨by kernel_rfl, rfl⟩) hSS ?_
                simp only [Act.put, List.setIfInBounds_toArray, List.set_cons_succ, List.set_cons_zero, List.getElem_toArray, List.getElem_cons_succ, List.getElem_cons_zero]
                refine wpAnyE_take0 (i := 54) (v := undef) rfl (by kernel_rfl) (by kernel_rfl) (by kernel_rfl) (by decide) (fun _ _ _ h => h) (Or.inr ⟨by kernel_rfl, rfl⟩) hSS ?_
                refine wpAnyE_take0 (i := 55) (v := undef) rfl (by kernel_rfl) (by kernel_rfl) (by kernel_rfl) (by decide) (fun _ _ _ h => h) (Or.inr ⟨by kernel_rfl, rfl⟩) hSS ?_
                refine wpAnyE_take0 (i := 56) (v := undef) rfl (by kernel_rfl) (by kernel_rfl) (by kernel_rfl) (by decide) (fun _ _ _ h => h) (Or.inr ⟨by kernel_rfl, rfl⟩) hSS ?_
                refine wpAnyE_one (i := 57) (by kernel_rfl) rfl (fun K hK => ?_)
                go_simp
                refine hK.out _ _ ⟨hSS.1, fun _ => trivial⟩ ?_
                clear hK K
                refine wpAnyE_done (by kernel_rfl) ?_ _
                clear hSS
                go_wp2
                go_ret
                exact ⟨ret_bool (by rw [NO.out ND.out]), hb.drew⟩
            · have ND : Hid (dnOk 0 gc gtn gtx = false) := by show _ = _; rw [dn_zero]; simp [hcd]
              have hcd' : (gc == 0) = false := by simpa using hcd
              have KP : Hid (∀ W, Below wr.heap.size wr W → W.cell? ⟨b, off + k * 3, none⟩ = some (.int .i64 0) ∧ W.cell? ⟨b, off + k * 3 + 1, none⟩ = some (.int .i64 gc) ∧ W.cell? ⟨b, off + k * 3 + 2, none⟩ = some (.slice gta gtn gtc)) := fun W hW => ⟨(hW.cell (p := ⟨b, off + k * 3, none⟩) (block_lt e0')).trans e0', (hW.cell (p := ⟨b, off + k * 3 + 1, none⟩) (block_lt e1')).trans e1', (hW.cell (p := ⟨b, off + k * 3 + 2, none⟩) (block_lt e2')).trans e2'⟩
              have hSS := And.intro (KP.out _ (Below.refl _ _).drew) True.intro
              clear e0' e1' e2'
              go_upto_region 6 with fail
              refine wp_region_ends (fun w' => w'.cell? ⟨b, off + k * 3, none⟩ = some (.int .i64 0) ∧ w'.cell? ⟨b, off + k * 3 + 1, none⟩ = some (.int .i64 gc) ∧ w'.cell? ⟨b, off + k * 3 + 2, none⟩ = some (.slice gta gtn gtc)) (fun _ => True) 57 (by kernel_rfl) ?_
              refine wpAnyE_take0 (i := 0) (v := ?dv0) rfl (by kernel_rfl) (by kernel_rfl) (by kernel_rfl) (by decide) (fun _ _ _ h => h) (Or.inl ⟨by rfl, ?dhy0⟩) hSS ?_
              case dhy0 => (intro wz hSw; (try dsimp only at hSw); go_simp; try (with_reducible rfl))
              refine wpAnyE_take0 (i := 1) (v := ?dv1) rfl (by kernel_rfl) (by kernel_rfl) (by kernel_rfl) (by decide) (fun _ _ _ h => h) (Or.inl ⟨by rfl, ?dhy1⟩) hSS ?_
              case dhy1 => (intro wz hSw; (try dsimp only at hSw); go_simp; try (with_reducible rfl))
              refine wpAnyE_take0 (i := 2) (v := ?dv2) rfl (by kernel_rfl) (by kernel_rfl) (by kernel_rfl) (by decide) (fun _ _ _ h => h) (Or.inl ⟨by rfl, ?dhy2⟩) hSS ?_
              case dhy2 => (intro wz hSw; (try dsimp only at hSw); go_simp; try (with_reducible rfl))
              refine wpAnyE_take0 (i := 3) (v := ?dv3) rfl (by kernel_rfl) (by kernel_rfl) (by kernel_rfl) (by decide) (fun _ _ _ h => h) (Or.inl ⟨by rfl, ?dhy3⟩) hSS ?_
              case dhy3 => (intro wz hSw; (try dsimp only at hSw); go_simp; try (with_reducible rfl))
              simp only [Act.put, List.setIfInBounds_toArray, List.set_cons_succ, List.set_cons_zero, List.getElem_toArray, List.getElem_cons_succ, List.getElem_cons_zero]
              refine wpAnyE_take0 (i := 4) (v := ?dv4) rfl (by kernel_rfl) (by kernel_rfl) (by kernel_rfl) (by decide) (fun _ _ _ h => h) (Or.inl ⟨by rfl, ?dhy4⟩) hSS ?_
              case dhy4 => (intro wz hSw; (try dsimp only at hSw); go_simp; try (with_reducible rfl))
              refine wpAnyE_one (i := 5) (by kernel_rfl) rfl (fun K hK => ?_)
              go_simp
              refine (in_any _ _ _ _).mono ?_
              rintro ee wq ⟨rfl, rfl⟩
              rw [h1]
              (try dsimp only)
              refine hK.out _ _ ⟨hSS.1, fun _ => trivial⟩ ?_
              clear hK K
              refine wpAnyE_take0 (i := 6) (v := ?dv6) rfl (by kernel_rfl) (by kernel_rfl) (by kernel_rfl) (by decide) (fun _ _ _ h => h) (Or.inl ⟨by rfl, ?dhy6⟩) hSS ?_
              case dhy6 => (intro wz hSw; (try dsimp only at hSw); go_simp; try (with_reducible rfl))
              refine wpAnyE_take0 (i := 7) (v := ?dv7) rfl (by kernel_rfl) (by kernel_rfl) (by kernel_rfl) (by decide) (fun _ _ _ h => h) (Or.inl ⟨by rfl, ?dhy7⟩) hSS ?_
              case dhy7 => (intro wz hSw; (try dsimp only at hSw); go_simp; try (with_reducible rfl))
              refine wpAnyE_take0 (i := 8) (v := ?dv8) rfl (by kernel_rfl) (by kernel_rfl) (by kernel_rfl) (by decide) (fun _ _ _ h => h) (Or.inl ⟨by rfl, ?dhy8⟩) hSS ?_
              case dhy8 => (intro wz hSw; (try dsimp only at hSw); go_simp; try (with_reducible rfl))
              refine wpAnyE_take0 (i := 9) (v := ?dv9) rfl (by kernel_rfl) (by kernel_rfl) (by kernel_rfl) (by decide) (fun _ _ _ h => h) (Or.inl ⟨by rfl, ?dhy9⟩) hSS ?_
              case dhy9 => (intro wz hSw; (try dsimp only at hSw); go_simp; try (with_reducible rfl))
              simp only [Act.put, List.setIfInBounds_toArray, List.set_cons_succ, List.set_cons_zero, List.getElem_toArray, List.getElem_cons_succ, List.getElem_cons_zero]
              refine wpAnyE_take0 (i := 10) (v := ?dv10) rfl (by kernel_rfl) (by kernel_rfl) (by kernel_rfl) (by decide) (fun _ _ _ h => h) (Or.inl ⟨by rfl, ?dhy10⟩) hSS ?_
              case dhy10 => (intro wz hSw; (try dsimp only at hSw); go_simp; try (with_reducible rfl))
              refine wpAnyE_take0 (i := 11) (v := ?dv11) rfl (by kernel_rfl) (by kernel_rfl) (by kernel_rfl) (by decide) (fun _ _ _ h => h) (Or.inl ⟨by rfl, ?dhy11⟩) hSS ?_
              case dhy11 => (intro wz hSw; (try dsimp only at hSw); go_simp; try (with_reducible rfl))
              refine wpAnyE_take0 (i := 12) (v := ?dv12) rfl (by kernel_rfl) (by kernel_rfl) (by kernel_rfl) (by decide) (fun _ _ _ h => h) (Or.inl ⟨by rfl, ?dhy12⟩) hSS ?_
              case dhy12 => (intro wz hSw; (try dsimp only at hSw); go_simp; try (with_reducible rfl))
              refine wpAnyE_take0 (i := 13) (v := ?dv13) rfl (by kernel_rfl) (by kernel_rfl) (by kernel_rfl) (by decide) (fun _ _ _ h => h) (Or.inl ⟨by rfl, ?dhy13⟩) hSS ?_
              case dhy13 => (intro wz hSw; (try dsimp only at hSw); go_simp; try (with_reducible rfl))
              simp only [Act.put, List.setIfInBounds_toArray, List.set_cons_succ, List.set_cons_zero, List.getElem_toArray, List.getElem_cons_succ, List.getElem_cons_zero]
              refine wpAnyE_take0 (i := 14) (v := ?dv14) rfl (by kernel_rfl) (by kernel_rfl) (by kernel_rfl) (by decide) (fun _ _ _ h => h) (Or.inl ⟨by rfl, ?dhy14⟩) hSS ?_
              case dhy14 => (intro wz hSw; (try dsimp only at hSw); go_simp; try (with_reducible rfl))
              refine wpAnyE_take0 (i := 15) (v := ?dv15) rfl (by kernel_rfl) (by kernel_rfl) (by kernel_rfl) (by decide) (fun _ _ _ h => h) (Or.inl ⟨by rfl, ?dhy15⟩) hSS ?_
              case dhy15 => (intro wz hSw; (try dsimp only at hSw); go_simp; try (with_reducible rfl))
              refine wpAnyE_take0 (i := 16) (v := ?dv16) rfl (by kernel_rfl) (by kernel_rfl) (by kernel_rfl) (by decide) (fun _ _ _ h => h) (Or.inl ⟨by rfl, ?dhy16⟩) hSS ?_
              case dhy16 => (intro wz hSw; (try dsimp only at hSw); go_simp; try (with_reducible rfl))
              refine wpAnyE_take0 (i := 17) (v := ?dv17) rfl (by kernel_rfl) (by kernel_rfl) (by kernel_rfl) (by decide) (fun _ _ _ h => h) (Or.inl ⟨by rfl, ?dhy17⟩) hSS ?_
              case dhy17 => (intro wz hSw; (try dsimp only at hSw); go_simp; try (with_reducible rfl))
              simp only [Act.put, List.setIfInBounds_toArray, List.set_cons_succ, List.set_cons_zero, List.getElem_toArray, List.getElem_cons_succ, List.getElem_cons_zero]
              refine wpAnyE_take0 (i := 18) (v := ?dv18) rfl (by kernel_rfl) (by kernel_rfl) (by kernel_rfl) (by decide) (fun _ _ _ h => h) (Or.inl ⟨by rfl, ?dhy18⟩) hSS ?_
              case dhy18 => (intro wz hSw; (try dsimp only at hSw); go_simp; try (with_reducible rfl))
              refine wpAnyE_take0 (i := 19) (v := ?dv19) rfl (by kernel_rfl) (by kernel_rfl) (by kernel_rfl) (by decide) (fun _ _ _ h => h) (Or.inl ⟨by rfl, ?dhy19⟩) hSS ?_
              case dhy19 => (intro wz hSw; (try dsimp only at hSw); go_simp; try (with_reducible rfl))
              refine wpAnyE_take0 (i := 20) (v := ?dv20) rfl (by kernel_rfl) (by kernel_rfl) (by kernel_rfl) (by decide) (fun _ _ _ h => h) (Or.inl ⟨by rfl, ?dhy20⟩) hSS ?_
              case dhy20 => (intro wz hSw; (try dsimp only at hSw); go_simp; try (with_reducible rfl))
              refine wpAnyE_take0 (i := 21) (v := ?dv21) rfl (by kernel_rfl) (by kernel_rfl) (by kernel_rfl) (by decide) (fun _ _ _ h => h) (Or.inl ⟨by rfl, ?dhy21⟩) hSS ?_
              case dhy21 => (intro wz hSw; (try dsimp only at hSw); go_simp; try (with_reducible rfl))
              simp only [Act.put, List.setIfInBounds_toArray, List.set_cons_succ, List.set_cons_zero, List.getElem_toArray, List.getElem_cons_succ, List.getElem_cons_zero]
              refine wpAnyE_take0 (i := 22) (v := ?dv22) rfl (by kernel_rfl) (by kernel_rfl) (by kernel_rfl) (by decide) (fun _ _ _ h => h) (Or.inl ⟨by rfl, ?dhy22⟩) hSS ?_
              case dhy22 => (intro wz hSw; (try dsimp only at hSw); go_simp; try (with_reducible rfl))
              refine wpAnyE_take0 (i := 23) (v := ?dv23) rfl (by kernel_rfl) (by kernel_rfl) (by kernel_rfl) (by decide) (fun _ _ _ h => h) (Or.inl ⟨by rfl, ?dhy23⟩) hSS ?_
              case dhy23 => (intro wz hSw; (try dsimp only at hSw); go_simp; try (with_reducible rfl))
              refine wpAnyE_take0 (i := 24) (v := undef) rfl (by kernel_rfl) (by kernel_rfl) (by kernel_rfl) (by decide) (fun _ _ _ h => h) (Or.inr ⟨by kernel_rfl, rfl⟩) hSS ?_
              refine wpAnyE_take0 (i := 25) (v := undef) rfl (by kernel_rfl) (by kernel_rfl) (by kernel_rfl) (by decide) (fun _ _ _ h => h) (Or.inr ⟨by kernel_rfl, rfl⟩) hSS ?_
              simp only [Act.put, List.setIfInBounds_toArray, List.set_cons_succ, List.set_cons_zero, List.getElem_toArray, List.getElem_cons_succ, List.getElem_cons_zero]
              refine wpAnyE_take0 (i := 26) (v := undef) rfl (by kernel_rfl) (by kernel_rfl) (by kernel_rfl) (by decide) (fun _ _ _ h => h) (Or.inr ⟨by kernel_rfl, rfl⟩) hSS ?_
              refine wpAnyE_take0 (i := 27) (v := undef) rfl (by kernel_rfl) (by kernel_rfl) (by kernel_rfl) (by decide) (fun _ _ _ h => h) (Or.inr ⟨by kernel_rfl, rfl⟩) hSS ?_
              refine wpAnyE_take0 (i := 28) (v := undef) rfl (by kernel_rfl) (by kernel_rfl) (by kernel_rfl) (by decide) (fun _ _ _ h => h) (Or.inr ⟨by kernel_rfl, rfl⟩) hSS ?_
              refine wpAnyE_take0 (i := 29) (v := undef) rfl (by kernel_rfl) (by kernel_rfl) (by kernel_rfl) (by decide) (fun _ _ _ h => h) (Or.inr ⟨by kernel_rfl, rfl⟩) hSS ?_
              simp only [Act.put, List.setIfInBounds_toArray, List.set_cons_succ, List.set_cons_zero, List.getElem_toArray, List.getElem_cons_succ, List.getElem_cons_zero]
              refine wpAnyE_take0 (i := 30) (v := undef) rfl (by kernel_rfl) (by kernel_rfl) (by kernel_rfl) (by decide) (fun _ _ _ h => h) (Or.inr ⟨by kernel_rfl, rfl⟩) hSS ?_
              refine wpAnyE_take0 (i := 31) (v := undef) rfl (by kernel_rfl) (by kernel_rfl) (by kernel_rfl) (by decide) (fun _ _ _ h => h) (Or.inr ⟨by kernel_rfl, rfl⟩) hSS ?_
              refine wpAnyE_take0 (i := 32) (v := undef) rfl (by kernel_rfl) (by kernel_rfl) (by kernel_rfl) (by decide) (fun _ _ _ h => h) (Or.inr ⟨by kernel_rfl, rfl⟩) hSS ?_
              refine wpAnyE_take0 (i := 33) (v := undef) rfl (by kernel_rfl) (by kernel_rfl) (by kernel_rfl) (by decide) (fun _ _ _ h => h) (Or.inr ⟨by kernel_rfl, rfl⟩) hSS ?_
              simp only [Act.put, List.setIfInBounds_toArray, List.set_cons_succ, List.set_cons_zero, List.getElem_toArray, List.getElem_cons_succ, List.getElem_cons_zero]
              refine wpAnyE_take0 (i := 34) (v := undef) rfl (by kernel_rfl) (by kernel_rfl) (by kernel_rfl) (by decide) (fun _ _ _ h => h) (Or.inr ⟨by kernel_rfl, rfl⟩) hSS ?_
              refine wpAnyE_take0 (i := 35) (v := undef) rfl (by kernel_rfl) (by kernel_rfl) (by kernel_rfl) (by decide) (fun _ _ _ h => h) (Or.inr ⟨by kernel_rfl, rfl⟩) hSS ?_
              refine wpAnyE_take0 (i := 36) (v := undef) rfl (by kernel_rfl) (by kernel_rfl) (by kernel_rfl) (by decide) (fun _ _ _ h => h) (Or.inr ⟨by kernel_rfl, rfl⟩) hSS ?_
              refine wpAnyE_take0 (i := 37) (v := undef) rfl (by kernel_rfl) (by kernel_rfl) (by kernel_rfl) (by decide) (fun _ _ _ h => h) (Or.inr ⟨by kernel_rfl, rfl⟩) hSS ?_
              simp only [Act.put, List.setIfInBounds_toArray, List.set_cons_succ, List.set_cons_zero, List.getElem_toArray, List.getElem_cons_succ, List.getElem_cons_zero]
              refine wpAnyE_take0 (i := 38) (v := undef) rfl (by kernel_rfl) (by kernel_rfl) (by kernel_rfl) (by decide) (fun _ _ _ h => h) (Or.inr ⟨by kernel_rfl, rfl⟩) hSS ?_
              refine wpAnyE_take0 (i := 39) (v := undef) rfl (by kernel_rfl) (by kernel_rfl) (by kernel_rfl) (by decide) (fun _ _ _ h => h) (Or.inr ⟨by kernel_rfl, rfl⟩) hSS ?_
              refine wpAnyE_take0 (i := 40) (v := ?dv40) rfl (by kernel_rfl) (by kernel_rfl) (by kernel_rfl) (by decide) (fun _ _ _ h => h) (Or.inl ⟨by rfl, ?dhy40⟩) hSS ?_
              case dhy40 => (intro wz hSw; (try dsimp only at hSw); go_simp; try (with_reducible rfl))
              refine wpAnyE_take0 (i := 41) (v := ?dv41) rfl (by kernel_rfl) (by kernel_rfl) (by kernel_rfl) (by decide) (fun _ _ _ h => h) (Or.inl ⟨by rfl, ?dhy41⟩) hSS ?_
              case dhy41 => (intro wz hSw; (try dsimp only at hSw); go_simp; try (with_reducible rfl))
              simp only [Act.put, List.setIfInBounds_toArray, List.set_cons_succ, List.set_cons_zero, List.getElem_toArray, List.getElem_cons_succ, List.getElem_cons_zero]
              refine wpAnyE_take0 (i := 42) (v := undef) rfl (by kernel_rfl) (by kernel_rfl) (by kernel_rfl) (by decide) (fun _ _ _ h => h) (Or.inr ⟨by kernel_rfl, rfl⟩) hSS ?_
              refine wpAnyE_take0 (i := 43) (v := undef) rfl (by kernel_rfl) (by kernel_rfl) (by kernel_rfl) (by decide) (fun _ _ _ h => h) (Or.inr ⟨by kernel_rfl, rfl⟩) hSS ?_
              refine wpAnyE_take0 (i := 44) (v := undef) rfl (by kernel_rfl) (by kernel_rfl) (by kernel_rfl) (by decide) (fun _ _ _ h => h) (Or.inr ⟨by kernel_rfl, rfl⟩) hSS ?_
              refine wpAnyE_take0 (i := 45) (v := undef) rfl (by kernel_rfl) (by kernel_rfl) (by kernel_rfl) (by decide) (fun _ _ _ h => h) (Or.inr ⟨by kernel_rfl, rfl⟩) hSS ?_
              simp only [Act.put, List.setIfInBounds_toArray, List.set_cons_succ, List.set_cons_zero, List.getElem_toArray, List.getElem_cons_succ, List.getElem_cons_zero]
              refine wpAnyE_take0 (i := 46) (v := undef) rfl (by kernel_rfl) (by kernel_rfl) (by kernel_rfl) (by decide) (fun _ _ _ h => h) (Or.inr ⟨by kernel_rfl, rfl⟩) hSS ?_
              refine wpAnyE_take0 (i := 47) (v := undef) rfl (by kernel_rfl) (by kernel_rfl) (by kernel_rfl) (by decide) (fun _ _ _ h => h) (Or.inr ⟨by kernel_rfl, rfl⟩) hSS ?_
              refine wpAnyE_take0 (i := 48) (v := undef) rfl (by kernel_rfl) (by kernel_rfl) (by kernel_rfl) (by decide) (fun _ _ _ h => h) (Or.inr ⟨by kernel_rfl, rfl⟩) hSS ?_
              refine wpAnyE_take0 (i := 49) (v := undef) rfl (by kernel_rfl) (by kernel_rfl) (by kernel_rfl) (by decide) (fun _ _ _ h => h) (Or.inr ⟨by kernel_rfl, rfl⟩) hSS ?_
              simp only [Act.put, List.setIfInBounds_toArray, List.set_cons_succ, List.set_cons_zero, List.getElem_toArray, List.getElem_cons_succ, List.getElem_cons_zero]
              refine wpAnyE_take0 (i := 50) (v := undef) rfl (by kernel_rfl) (by kernel_rfl) (by kernel_rfl) (by decide) (fun _ _ _ h => h) (Or.inr ⟨by kernel_rfl, rfl⟩) hSS ?_
              refine wpAnyE_take0 (i := 51) (v := undef) rfl (by kernel_rfl) (by kernel_rfl) (by kernel_rfl) (by decide) (fun _ _ _ h => h) (Or.inr ⟨by kernel_rfl, rfl⟩) hSS ?_
              refine wpAnyE_take0 (i := 52) (v := undef) rfl (by kernel_rfl) (by kernel_rfl) (by kernel_rfl) (by decide) (fun _ _ _ h => h) (Or.inr ⟨by kernel_rfl, rfl⟩) hSS ?_
              refine wpAnyE_take0 (i := 53) (v := undef) rfl (by kernel_rfl) (by kernel_rfl) (by kernel_rfl) (by decide) (fun _ _ _ h => h) (Or.inr ⟨by kernel_rfl, rfl⟩) hSS ?_
              simp only [Act.put, List.setIfInBounds_toArray, List.set_cons_succ, List.set_cons_zero, List.getElem_toArray, List.getElem_cons_succ, List.getElem_cons_zero]
              refine wpAnyE_take0 (i := 54) (v := undef) rfl (by kernel_rfl) (by kernel_rfl) (by kernel_rfl) (by decide) (fun _ _ _ h => h) (Or.inr ⟨by kernel_rfl, rfl⟩) hSS ?_
              refine wpAnyE_take0 (i := 55) (v := undef) rfl (by kernel_rfl) (by kernel_rfl) (by kernel_rfl) (by decide) (fun _ _ _ h => h) (Or.inr ⟨by kernel_rfl, rfl⟩) hSS ?_
              refine wpAnyE_take0 (i := 56) (v := undef) rfl (by kernel_rfl) (by kernel_rfl) (by kernel_rfl) (by decide) (fun _ _ _ h => h) (Or.inr ⟨by kernel_rfl, rfl⟩) hSS ?_
              refine wpAnyE_one (i := 57) (by kernel_rfl) rfl (fun K hK => ?_)
              go_simp
              refine hK.out _ _ ⟨hSS.1, fun _ => trivial⟩ ?_
              clear hK K
              refine wpAnyE_done (by kernel_rfl) ?_ _
              clear hSS
              go_wp2
              go_ret
              exact ⟨ret_bool (by rw [NO.out ND.out]), hb.drew⟩
          · have hs' : (gs == 0) = false := by simpa using hs
            have hp : decide (0 < gs) = true := by simp; omega
            have ND : Hid (dnOk gs gc gtn gtx = fullB (resText gc gtn gtx)) := by show _ = _; rw [dn_some hs, inB_iff.2 (by omega)]; rfl
            clear hs h1'
            by_cases hcd : gc = 0
            · subst hcd
              have ND2 : Hid (dnOk gs 0 gtn gtx = false) := by
                show _ = _
                rw [ND.out]
                cases hf : fullB (resText 0 gtn gtx)
                · rfl
                · exact absurd rfl (full_code hf)
              have KP : Hid (∀ W, Below wr.heap.size wr W → W.cell? ⟨b, off + k * 3, none⟩ = some (.int .i64 gs) ∧ W.cell? ⟨b, off + k * 3 + 1, none⟩ = some (.int .i64 0) ∧ W.cell? ⟨b, off + k * 3 + 2, none⟩ = some (.slice gta gtn gtc)) := fun W hW => ⟨(hW.cell (p := ⟨b, off + k * 3, none⟩) (block_lt e0')).trans e0', (hW.cell (p := ⟨b, off + k * 3 + 1, none⟩) (block_lt e1')).trans e1', (hW.cell (p := ⟨b, off + k * 3 + 2, none⟩) (block_lt e2')).trans e2'⟩
              have hSS := And.intro (KP.out _ (Below.refl _ _).drew) True.intro
              clear e0' e1' e2'
              go_upto_region 6 with fail
              refine wp_region_ends (fun w' => w'.cell? ⟨b, off + k * 3, none⟩ = some (.int .i64 gs) ∧ w'.cell? ⟨b, off + k * 3 + 1, none⟩ = some (.int .i64 0) ∧ w'.cell? ⟨b, off + k * 3 + 2, none⟩ = some (.slice gta gtn gtc)) (fun _ => True) 57 (by kernel_rfl) ?_
              refine wpAnyE_take0 (i := 0) (v := ?ev0) rfl (by kernel_rfl) (by kernel_rfl) (by kernel_rfl) (by decide) (fun _ _ _ h => h) (Or.inl ⟨by rfl, ?ehy0⟩) hSS ?_
              case ehy0 => (intro wz hSw; (try dsimp only at hSw); go_simp; try (with_reducible rfl))
              refine wpAnyE_take0 (i := 1) (v := ?ev1) rfl (by kernel_rfl) (by kernel_rfl) (by kernel_rfl) (by decide) (fun _ _ _ h => h) (Or.inl ⟨by rfl, ?ehy1⟩) hSS ?_
              case ehy1 => (intro wz hSw; (try dsimp only at hSw); go_simp; try (with_reducible rfl))
              refine wpAnyE_take0 (i := 2) (v := ?ev2) rfl (by kernel_rfl) (by kernel_rfl) (by kernel_rfl) (by decide) (fun _ _ _ h => h) (Or.inl ⟨by rfl, ?ehy2⟩) hSS ?_
              case ehy2 => (intro wz hSw; (try dsimp only at hSw); go_simp; try (with_reducible rfl))
              refine wpAnyE_take0 (i := 3) (v := ?ev3) rfl (by kernel_rfl) (by kernel_rfl) (by kernel_rfl) (by decide) (fun _ _ _ h => h) (Or.inl ⟨by rfl, ?ehy3⟩) hSS ?_
              case ehy3 => (intro wz hSw; (try dsimp only at hSw); go_simp; try (with_reducible rfl))
              simp only [Act.put, List.setIfInBounds_toArray, List.set_cons_succ, List.set_cons_zero, List.getElem_toArray, List.getElem_cons_succ, List.getElem_cons_zero]
              refine wpAnyE_take0 (i := 4) (v := ?ev4) rfl (by kernel_rfl) (by kernel_rfl) (by kernel_rfl) (by decide) (fun _ _ _ h => h) (Or.inl ⟨by rfl, ?ehy4⟩) hSS ?_
              case ehy4 => (intro wz hSw; (try dsimp only at hSw); go_simp; try (with_reducible rfl))
              refine wpAnyE_one (i := 5) (by kernel_rfl) rfl (fun K hK => ?_)
              go_simp
              refine (in_any _ _ _ _).mono ?_
              rintro ee wq ⟨rfl, rfl⟩
              rw [h1]
              (try dsimp only)
              refine hK.out _ _ ⟨hSS.1, fun _ => trivial⟩ ?_
              clear hK K
              refine wpAnyE_take0 (i := 6) (v := ?ev6) rfl (by kernel_rfl) (by kernel_rfl) (by kernel_rfl) (by decide) (fun _ _ _ h => h) (Or.inl ⟨by rfl, ?ehy6⟩) hSS ?_
              case ehy6 => (intro wz hSw; (try dsimp only at hSw); go_simp; try (with_reducible rfl))
              refine wpAnyE_take0 (i := 7) (v := ?ev7) rfl (by kernel_rfl) (by kernel_rfl) (by kernel_rfl) (by decide) (fun _ _ _ h => h) (Or.inl ⟨by rfl, ?ehy7⟩) hSS ?_
              case ehy7 => (intro wz hSw; (try dsimp only at hSw); go_simp; try (with_reducible rfl))
              refine wpAnyE_take0 (i := 8) (v := ?ev8) rfl (by kernel_rfl) (by kernel_rfl) (by kernel_rfl) (by decide) (fun _ _ _ h => h) (Or.inl ⟨by rfl, ?ehy8⟩) hSS ?_
              case ehy8 => (intro wz hSw; (try dsimp only at hSw); go_simp; try (with_reducible rfl))
              refine wpAnyE_take0 (i := 9) (v := ?ev9) rfl (by kernel_rfl) (by kernel_rfl) (by kernel_rfl) (by decide) (fun _ _ _ h => h) (Or.inl ⟨by rfl, ?ehy9⟩) hSS ?_
              case ehy9 => (intro wz hSw; (try dsimp only at hSw); go_simp; try (with_reducible rfl))
              simp only [Act.put, List.setIfInBounds_toArray, List.set_cons_succ, List.set_cons_zero, List.getElem_toArray, List.getElem_cons_succ, List.getElem_cons_zero]
              refine wpAnyE_take0 (i := 10) (v := ?ev10) rfl (by kernel_rfl) (by kernel_rfl) (by kernel_rfl) (by decide) (fun _ _ _ h => h) (Or.inl ⟨by rfl, ?ehy10⟩) hSS ?_
              case ehy10 => (intro wz hSw; (try dsimp only at hSw); go_simp; try (with_reducible rfl))
              refine wpAnyE_take0 (i := 11) (v := ?ev11) rfl (by kernel_rfl) (by kernel_rfl) (by kernel_rfl) (by decide) (fun _ _ _ h => h) (Or.inl ⟨by rfl, ?ehy11⟩) hSS ?_
              case ehy11 => (intro wz hSw; (try dsimp only at hSw); go_simp; try (with_reducible rfl))
              refine wpAnyE_take0 (i := 12) (v := ?ev12) rfl (by kernel_rfl) (by kernel_rfl) (by kernel_rfl) (by decide) (fun _ _ _ h => h) (Or.inl ⟨by rfl, ?ehy12⟩) hSS ?_
              case ehy12 => (intro wz hSw; (try dsimp only at hSw); go_simp; try (with_reducible rfl))
              refine wpAnyE_take0 (i := 13) (v := ?ev13) rfl (by kernel_rfl) (by kernel_rfl) (by kernel_rfl) (by decide) (fun _ _ _ h => h) (Or.inl ⟨by rfl, ?ehy13⟩) hSS ?_
              case ehy13 => (intro wz hSw; (try dsimp only at hSw); go_simp; try (with_reducible rfl))
              simp only [Act.put, List.setIfInBounds_toArray, List.set_cons_succ, List.set_cons_zero, List.getElem_toArray, List.getElem_cons_succ, List.getElem_cons_zero]
              refine wpAnyE_take0 (i := 14) (v := ?ev14) rfl (by kernel_rfl) (by kernel_rfl) (by kernel_rfl) (by decide) (fun _ _ _ h => h) (Or.inl ⟨by rfl, ?ehy14⟩) hSS ?_
              case ehy14 => (intro wz hSw; (try dsimp only at hSw); go_simp; try (with_reducible rfl))
              refine wpAnyE_take0 (i := 15) (v := ?ev15) rfl (by kernel_rfl) (by kernel_rfl) (by kernel_rfl) (by decide) (fun _ _ _ h => h) (Or.inl ⟨by rfl, ?ehy15⟩) hSS ?_
              case ehy15 => (intro wz hSw; (try dsimp only at hSw); go_simp; try (with_reducible rfl))
              refine wpAnyE_take0 (i := 16) (v := ?ev16) rfl (by kernel_rfl) (by kernel_rfl) (by kernel_rfl) (by decide) (fun _ _ _ h => h) (Or.inl ⟨by rfl, ?ehy16⟩) hSS ?_
              case ehy16 => (intro wz hSw; (try dsimp only at hSw); go_simp; try (with_reducible rfl))
              refine wpAnyE_take0 (i := 17) (v := ?ev17) rfl (by kernel_rfl) (by kernel_rfl) (by kernel_rfl) (by decide) (fun _ _ _ h => h) (Or.inl ⟨by rfl, ?ehy17⟩) hSS ?_
              case ehy17 => (intro wz hSw; (try dsimp only at hSw); go_simp; try (with_reducible rfl))
              simp only [Act.put, List.setIfInBounds_toArray, List.set_cons_succ, List.set_cons_zero, List.getElem_toArray, List.getElem_cons_succ, List.getElem_cons_zero]
              refine wpAnyE_take0 (i := 18) (v := ?ev18) rfl (by kernel_rfl) (by kernel_rfl) (by kernel_rfl) (by decide) (fun _ _ _ h => h) (Or.inl ⟨by rfl, ?ehy18⟩) hSS ?_
              case ehy18 => (intro wz hSw; (try dsimp only at hSw); go_simp; try (with_reducible rfl))
              refine wpAnyE_take0 (i := 19) (v := ?ev19) rfl (by kernel_rfl) (by kernel_rfl) (by kernel_rfl) (by decide) (fun _ _ _ h => h) (Or.inl ⟨by rfl, ?ehy19⟩) hSS ?_
              case ehy19 => (intro wz hSw; (try dsimp only at hSw); go_simp; try (with_reducible rfl))
              refine wpAnyE_take0 (i := 20) (v := ?ev20) rfl (by kernel_rfl) (by kernel_rfl) (by kernel_rfl) (by decide) (fun _ _ _ h => h) (Or.inl ⟨by rfl, ?ehy20⟩) hSS ?_
              case ehy20 => (intro wz hSw; (try dsimp only at hSw); go_simp; try (with_reducible rfl))
              refine wpAnyE_take0 (i := 21) (v := ?ev21) rfl (by kernel_rfl) (by kernel_rfl) (by kernel_rfl) (by decide) (fun _ _ _ h => h) (Or.inl ⟨by rfl, ?ehy21⟩) hSS ?_
              case ehy21 => (intro wz hSw; (try dsimp only at hSw); go_simp; try (with_reducible rfl))
              simp only [Act.put, List.setIfInBounds_toArray, List.set_cons_succ, List.set_cons_zero, List.getElem_toArray, List.getElem_cons_succ, List.getElem_cons_zero]
              refine wpAnyE_take0 (i := 22) (v := ?ev22) rfl (by kernel_rfl) (by kernel_rfl) (by kernel_rfl) (by decide) (fun _ _ _ h => h) (Or.inl ⟨by rfl, ?ehy22⟩) hSS ?_
              case ehy22 => (intro wz hSw; (try dsimp only at hSw); go_simp; try (with_reducible rfl))
              refine wpAnyE_take0 (i := 23) (v := ?ev23) rfl (by kernel_rfl) (by kernel_rfl) (by kernel_rfl) (by decide) (fun _ _ _ h => h) (Or.inl ⟨by rfl, ?ehy23⟩) hSS ?_
              case ehy23 => (intro wz hSw; (try dsimp only at hSw); go_simp; try (with_reducible rfl))
              refine wpAnyE_take0 (i := 24) (v := undef) rfl (by kernel_rfl) (by kernel_rfl) (by kernel_rfl) (by decide) (fun _ _ _ h => h) (Or.inr ⟨by kernel_rfl, rfl⟩) hSS ?_
              refine wpAnyE_take0 (i := 25) (v := undef) rfl (by kernel_rfl) (by kernel_rfl) (by kernel_rfl) (by decide) (fun _ _ _ h => h) (Or.inr ⟨by kernel_rfl, rfl⟩) hSS ?_
              simp only [Act.put, List.setIfInBounds_toArray, List.set_cons_succ, List.set_cons_zero, List.getElem_toArray, List.getElem_cons_succ, List.getElem_cons_zero]
              refine wpAnyE_take0 (i := 26) (v := undef) rfl (by kernel_rfl) (by kernel_rfl) (by kernel_rfl) (by decide) (fun _ _ _ h => h) (Or.inr ⟨by kernel_rfl, rfl⟩) hSS ?_
              refine wpAnyE_take0 (i := 27) (v := undef) rfl (by kernel_rfl) (by kernel_rfl) (by kernel_rfl) (by decide) (fun _ _ _ h => h) (Or.inr ⟨by kernel_rfl, rfl⟩) hSS ?_
              refine wpAnyE_take0 (i := 28) (v := undef) rfl (by kernel_rfl) (by kernel_rfl) (by kernel_rfl) (by decide) (fun _ _ _ h => h) (Or.inr ⟨by kernel_rfl, rfl⟩) hSS ?_
              refine wpAnyE_take0 (i := 29) (v := undef) rfl (by kernel_rfl) (by kernel_rfl) (by kernel_rfl) (by decide) (fun _ _ _ h => h) (Or.inr ⟨by kernel_rfl, rfl⟩) hSS ?_
              simp only [Act.put, List.setIfInBounds_toArray, List.set_cons_succ, List.set_cons_zero, List.getElem_toArray, List.getElem_cons_succ, List.getElem_cons_zero]
              refine wpAnyE_take0 (i := 30) (v := undef) rfl (by kernel_rfl) (by kernel_rfl) (by kernel_rfl) (by decide) (fun _ _ _ h => h) (Or.inr ⟨by kernel_rfl, rfl⟩) hSS ?_
              refine wpAnyE_take0 (i := 31) (v := undef) rfl (by kernel_rfl) (by kernel_rfl) (by kernel_rfl) (by decide) (fun _ _ _ h => h) (Or.inr ⟨by kernel_rfl, rfl⟩) hSS ?_
              refine wpAnyE_take0 (i := 32) (v := undef) rfl (by kernel_rfl) (by kernel_rfl) (by kernel_rfl) (by decide) (fun _ _ _ h => h) (Or.inr ⟨by kernel_rfl, rfl⟩) hSS ?_
              refine wpAnyE_take0 (i := 33) (v := undef) rfl (by kernel_rfl) (by kernel_rfl) (by kernel_rfl) (by decide) (fun _ _ _ h => h) (Or.inr ⟨by kernel_rfl, rfl⟩) hSS ?_
              simp only [Act.put, List.setIfInBounds_toArray, List.set_cons_succ, List.set_cons_zero, List.getElem_toArray, List.getElem_cons_succ, List.getElem_cons_zero]
              refine wpAnyE_take0 (i := 34) (v := undef) rfl (by kernel_rfl) (by kernel_rfl) (by kernel_rfl) (by decide) (fun _ _ _ h => h) (Or.inr ⟨by kernel_rfl, rfl⟩) hSS ?_
              refine wpAnyE_take0 (i := 35) (v := undef) rfl (by kernel_rfl) (by kernel_rfl) (by kernel_rfl) (by decide) (fun _ _ _ h => h) (Or.inr ⟨by kernel_rfl, rfl⟩) hSS ?_
              refine wpAnyE_take0 (i := 36) (v := undef) rfl (by kernel_rfl) (by kernel_rfl) (by kernel_rfl) (by decide) (fun _ _ _ h => h) (Or.inr ⟨by kernel_rfl, rfl⟩) hSS ?_
              refine wpAnyE_take0 (i := 37) (v := undef) rfl (by kernel_rfl) (by kernel_rfl) (by kernel_rfl) (by decide) (fun _ _ _ h => h) (Or.inr ⟨by kernel_rfl, rfl⟩) hSS ?_
              simp only [Act.put, List.setIfInBounds_toArray, List.set_cons_succ, List.set_cons_zero, List.getElem_toArray, List.getElem_cons_succ, List.getElem_cons_zero]
              refine wpAnyE_take0 (i := 38) (v := undef) rfl (by kernel_rfl) (by kernel_rfl) (by kernel_rfl) (by decide) (fun _ _ _ h => h) (Or.inr ⟨by kernel_rfl, rfl⟩) hSS ?_
              refine wpAnyE_take0 (i := 39) (v := undef) rfl (by kernel_rfl) (by kernel_rfl) (by kernel_rfl) (by decide) (fun _ _ _ h => h) (Or.inr ⟨by kernel_rfl, rfl⟩) hSS ?_
              refine wpAnyE_take0 (i := 40) (v := ?ev40) rfl (by kernel_rfl) (by kernel_rfl) (by kernel_rfl) (by decide) (fun _ _ _ h => h) (Or.inl ⟨by rfl, ?ehy40⟩) hSS ?_
              case ehy40 => (intro wz hSw; (try dsimp only at hSw); go_simp; try (with_reducible rfl))
              refine wpAnyE_take0 (i := 41) (v := ?ev41) rfl (by kernel_rfl) (by kernel_rfl) (by kernel_rfl) (by decide) (fun _ _ _ h => h) (Or.inl ⟨by rfl, ?ehy41⟩) hSS ?_
              case ehy41 => (intro wz hSw; (try dsimp only at hSw); go_simp; try (with_reducible rfl))
              simp only [Act.put, List.setIfInBounds_toArray, List.set_cons_succ, List.set_cons_zero, List.getElem_toArray, List.getElem_cons_succ, List.getElem_cons_zero]
              refine wpAnyE_take0 (i := 42) (v := undef) rfl (by kernel_rfl) (by kernel_rfl) (by kernel_rfl) (by decide) (fun _ _ _ h => h) (Or.inr ⟨by kernel_rfl, rfl⟩) hSS ?_
              refine wpAnyE_take0 (i := 43) (v := undef) rfl (by kernel_rfl) (by kernel_rfl) (by kernel_rfl) (by decide) (fun _ _ _ h => h) (Or.inr ⟨by kernel_rfl, rfl⟩) hSS ?_
              refine wpAnyE_take0 (i := 44) (v := undef) rfl (by kernel_rfl) (by kernel_rfl) (by kernel_rfl) (by decide) (fun _ _ _ h => h) (Or.inr ⟨by kernel_rfl, rfl⟩) hSS ?_
              refine wpAnyE_take0 (i := 45) (v := undef) rfl (by kernel_rfl) (by kernel_rfl) (by kernel_rfl) (by decide) (fun _ _ _ h => h) (Or.inr ⟨by kernel_rfl, rfl⟩) hSS ?_
              simp only [Act.put, List.setIfInBounds_toArray, List.set_cons_succ, List.set_cons_zero, List.getElem_toArray, List.getElem_cons_succ, List.getElem_cons_zero]
              refine wpAnyE_take0 (i := 46) (v := undef) rfl (by kernel_rfl) (by kernel_rfl) (by kernel_rfl) (by decide) (fun _ _ _ h => h) (Or.inr ⟨by kernel_rfl, rfl⟩) hSS ?_
              refine wpAnyE_take0 (i := 47) (v := undef) rfl (by kernel_rfl) (by kernel_rfl) (by kernel_rfl) (by decide) (fun _ _ _ h => h) (Or.inr ⟨by kernel_rfl, rfl⟩) hSS ?_
              refine wpAnyE_take0 (i := 48) (v := undef) rfl (by kernel_rfl) (by kernel_rfl) (by kernel_rfl) (by decide) (fun _ _ _ h => h) (Or.inr ⟨by kernel_rfl, rfl⟩) hSS ?_
              refine wpAnyE_take0 (i := 49) (v := undef) rfl (by kernel_rfl) (by kernel_rfl) (by kernel_rfl) (by decide) (fun _ _ _ h => h) (Or.inr ⟨by kernel_rfl, rfl⟩) hSS ?_
              simp only [Act.put, List.setIfInBounds_toArray, List.set_cons_succ, List.set_cons_zero, List.getElem_toArray, List.getElem_cons_succ, List.getElem_cons_zero]
              refine wpAnyE_take0 (i := 50) (v := undef) rfl (by kernel_rfl) (by kernel_rfl) (by kernel_rfl) (by decide) (fun _ _ _ h => h) (Or.inr ⟨by kernel_rfl, rfl⟩) hSS ?_
              refine wpAnyE_take0 (i := 51) (v := undef) rfl (by kernel_rfl) (by kernel_rfl) (by kernel_rfl) (by decide) (fun _ _ _ h => h) (Or.inr ⟨by kernel_rfl, rfl⟩) hSS ?_
              refine wpAnyE_take0 (i := 52) (v := undef) rfl (by kernel_rfl) (by kernel_rfl) (by kernel_rfl) (by decide) (fun _ _ _ h => h) (Or.inr ⟨by kernel_rfl, rfl⟩) hSS ?_
              refine wpAnyE_take0 (i := 53) (v := undef) rfl (by kernel_rfl) (by kernel_rfl) (by kernel_rfl) (by decide) (fun _ _ _ h => h) (Or.inr ⟨by kernel_rfl, rfl⟩) hSS ?_
              simp only [Act.put, List.setIfInBounds_toArray, List.set_cons_succ, List.set_cons_zero, List.getElem_toArray, List.getElem_cons_succ, List.getElem_cons_zero]
              refine wpAnyE_take0 (i := 54) (v := undef) rfl (by kernel_rfl) (by kernel_rfl) (by kernel_rfl) (by decide) (fun _ _ _ h => h) (Or.inr ⟨by kernel_rfl, rfl⟩) hSS ?_
              refine wpAnyE_take0 (i := 55) (v := undef) rfl (by kernel_rfl) (by kernel_rfl) (by kernel_rfl) (by decide) (fun _ _ _ h => h) (Or.inr ⟨by kernel_rfl, rfl⟩) hSS ?_
              refine wpAnyE_take0 (i := 56) (v := undef) rfl (by kernel_rfl) (by kernel_rfl) (by kernel_rfl) (by decide) (fun _ _ _ h => h) (Or.inr ⟨by kernel_rfl, rfl⟩) hSS ?_
              refine wpAnyE_one (i := 57) (by kernel_rfl) rfl (fun K hK => ?_)
              go_simp
              refine hK.out _ _ ⟨hSS.1, fun _ => trivial⟩ ?_
              clear hK K
              refine wpAnyE_done (by kernel_rfl) ?_ _
              clear hSS
              go_wp2
              go_ret
              exact ⟨ret_bool (by rw [NO.out ND2.out]), hb.drew⟩
            · have hcd' : (gc == 0) = false := by simpa using hcd
              obtain ⟨x, hx⟩ : ∃ x, x = fullB (resText gc gtn gtx) := ⟨_, rfl⟩
              have HX : Hid _ := hx
              clear hx hcd
              have KP : Hid (∀ W, Below wr.heap.size wr W → W.cell? ⟨b, off + k * 3, none⟩ = some (.int .i64 gs) ∧ W.cell? ⟨b, off + k * 3 + 1, none⟩ = some (.int .i64 gc) ∧ W.cell? ⟨b, off + k * 3 + 2, none⟩ = some (.slice gta gtn gtc)) := fun W hW => ⟨(hW.cell (p := ⟨b, off + k * 3, none⟩) (block_lt e0')).trans e0', (hW.cell (p := ⟨b, off + k * 3 + 1, none⟩) (block_lt e1')).trans e1', (hW.cell (p := ⟨b, off + k * 3 + 2, none⟩) (block_lt e2')).trans e2'⟩
              have hSS := And.intro (KP.out _ (Below.refl _ _).drew) True.intro
              clear e0' e1' e2'
              go_upto_region 6 with fail
              refine wp_region_ends (fun w' => w'.cell? ⟨b, off + k * 3, none⟩ = some (.int .i64 gs) ∧ w'.cell? ⟨b, off + k * 3 + 1, none⟩ = some (.int .i64 gc) ∧ w'.cell? ⟨b, off + k * 3 + 2, none⟩ = some (.slice gta gtn gtc)) (fun _ => True) 57 (by kernel_rfl) ?_
              refine wpAnyE_take0 (i := 0) (v := ?fv0) rfl (by kernel_rfl) (by kernel_rfl) (by kernel_rfl) (by decide) (fun _ _ _ h => h) (Or.inl ⟨by rfl, ?fhy0⟩) hSS ?_
              case fhy0 => (intro wz hSw; (try dsimp only at hSw); go_simp; try (with_reducible rfl))
              refine wpAnyE_take0 (i := 1) (v := ?fv1) rfl (by kernel_rfl) (by kernel_rfl) (by kernel_rfl) (by decide) (fun _ _ _ h => h) (Or.inl ⟨by rfl, ?fhy1⟩) hSS ?_
              case fhy1 => (intro wz hSw; (try dsimp only at hSw); go_simp; try (with_reducible rfl))
              refine wpAnyE_take0 (i := 2) (v := ?fv2) rfl (by kernel_rfl) (by kernel_rfl) (by kernel_rfl) (by decide) (fun _ _ _ h => h) (Or.inl ⟨by rfl, ?fhy2⟩) hSS ?_
              case fhy2 => (intro wz hSw; (try dsimp only at hSw); go_simp; try (with_reducible rfl))
              refine wpAnyE_take0 (i := 3) (v := ?fv3) rfl (by kernel_rfl) (by kernel_rfl) (by kernel_rfl) (by decide) (fun _ _ _ h => h) (Or.inl ⟨by rfl, ?fhy3⟩) hSS ?_
              case fhy3 => (intro wz hSw; (try dsimp only at hSw); go_simp; try (with_reducible rfl))
              simp only [Act.put, List.setIfInBounds_toArray, List.set_cons_succ, List.set_cons_zero, List.getElem_toArray, List.getElem_cons_succ, List.getElem_cons_zero]
              refine wpAnyE_take0 (i := 4) (v := ?fv4) rfl (by kernel_rfl) (by kernel_rfl) (by kernel_rfl) (by decide) (fun _ _ _ h => h) (Or.inl ⟨by rfl, ?fhy4⟩) hSS ?_
              case fhy4 => (intro wz hSw; (try dsimp only at hSw); go_simp; try (with_reducible rfl))
              refine wpAnyE_one (i := 5) (by kernel_rfl) rfl (fun K hK => ?_)
              go_simp
              refine (in_any _ _ _ _).mono ?_
              rintro ee wq ⟨rfl, rfl⟩
              rw [h1]
              (try dsimp only)
              refine hK.out _ _ ⟨hSS.1, fun _ => trivial⟩ ?_
              clear hK K
              refine wpAnyE_take0 (i := 6) (v := ?fv6) rfl (by kernel_rfl) (by kernel_rfl) (by kernel_rfl) (by decide) (fun _ _ _ h => h) (Or.inl ⟨by rfl, ?fhy6⟩) hSS ?_
              case fhy6 => (intro wz hSw; (try dsimp only at hSw); go_simp; try (with_reducible rfl))
              refine wpAnyE_take0 (i := 7) (v := ?fv7) rfl (by kernel_rfl) (by kernel_rfl) (by kernel_rfl) (by decide) (fun _ _ _ h => h) (Or.inl ⟨by rfl, ?fhy7⟩) hSS ?_
              case fhy7 => (intro wz hSw; (try dsimp only at hSw); go_simp; try (with_reducible rfl))
              refine wpAnyE_take0 (i := 8) (v := ?fv8) rfl (by kernel_rfl) (by kernel_rfl) (by kernel_rfl) (by decide) (fun _ _ _ h => h) (Or.inl ⟨by rfl, ?fhy8⟩) hSS ?_
              case fhy8 => (intro wz hSw; (try dsimp only at hSw); go_simp; try (with_reducible rfl))
              refine wpAnyE_take0 (i := 9) (v := ?fv9) rfl (by kernel_rfl) (by kernel_rfl) (by kernel_rfl) (by decide) (fun _ _ _ h => h) (Or.inl ⟨by rfl, ?fhy9⟩) hSS ?_
              case fhy9 => (intro wz hSw; (try dsimp only at hSw); go_simp; try (with_reducible rfl))
              simp only [Act.put, List.setIfInBounds_toArray, List.set_cons_succ, List.set_cons_zero, List.getElem_toArray, List.getElem_cons_succ, List.getElem_cons_zero]
              refine wpAnyE_take0 (i := 10) (v := ?fv10) rfl (by kernel_rfl) (by kernel_rfl) (by kernel_rfl) (by decide) (fun _ _ _ h => h) (Or.inl ⟨by rfl, ?fhy10⟩) hSS ?_
              case fhy10 => (intro wz hSw; (try dsimp only at hSw); go_simp; try (with_reducible rfl))
              refine wpAnyE_take0 (i := 11) (v := ?fv11) rfl (by kernel_rfl) (by kernel_rfl) (by kernel_rfl) (by decide) (fun _ _ _ h => h) (Or.inl ⟨by rfl, ?fhy11⟩) hSS ?_
              case fhy11 => (intro wz hSw; (try dsimp only at hSw); go_simp; try (with_reducible rfl))
              refine wpAnyE_take0 (i := 12) (v := ?fv12) rfl (by kernel_rfl) (by kernel_rfl) (by kernel_rfl) (by decide) (fun _ _ _ h => h) (Or.inl ⟨by rfl, ?fhy12⟩) hSS ?_
              case fhy12 => (intro wz hSw; (try dsimp only at hSw); go_simp; try (with_reducible rfl))
              refine wpAnyE_take0 (i := 13) (v := ?fv13) rfl (by kernel_rfl) (by kernel_rfl) (by kernel_rfl) (by decide) (fun _ _ _ h => h) (Or.inl ⟨by rfl, ?fhy13⟩) hSS ?_
              case fhy13 => (intro wz hSw; (try dsimp only at hSw); go_simp; try (with_reducible rfl))
              simp only [Act.put, List.setIfInBounds_toArray, List.set_cons_succ, List.set_cons_zero, List.getElem_toArray, List.getElem_cons_succ, List.getElem_cons_zero]
              refine wpAnyE_take0 (i := 14) (v := ?fv14) rfl (by kernel_rfl) (by kernel_rfl) (by kernel_rfl) (by decide) (fun _ _ _ h => h) (Or.inl ⟨by rfl, ?fhy14⟩) hSS ?_
              case fhy14 => (intro wz hSw; (try dsimp only at hSw); go_simp; try (with_reducible rfl))
              refine wpAnyE_take0 (i := 15) (v := ?fv15) rfl (by kernel_rfl) (by kernel_rfl) (by kernel_rfl) (by decide) (fun _ _ _ h => h) (Or.inl ⟨by rfl, ?fhy15⟩) hSS ?_
              case fhy15 => (intro wz hSw; (try dsimp only at hSw); go_simp; try (with_reducible rfl))
              refine wpAnyE_take0 (i := 16) (v := ?fv16) rfl (by kernel_rfl) (by kernel_rfl) (by kernel_rfl) (by decide) (fun _ _ _ h => h) (Or.inl ⟨by rfl, ?fhy16⟩) hSS ?_
              case fhy16 => (intro wz hSw; (try dsimp only at hSw); go_simp; try (with_reducible rfl))
              refine wpAnyE_take0 (i := 17) (v := ?fv17) rfl (by kernel_rfl) (by kernel_rfl) (by kernel_rfl) (by decide) (fun _ _ _ h => h) (Or.inl ⟨by rfl, ?fhy17⟩) hSS ?_
              case fhy17 => (intro wz hSw; (try dsimp only at hSw); go_simp; try (with_reducible rfl))
              simp only [Act.put, List.setIfInBounds_toArray, List.set_cons_succ, List.set_cons_zero, List.getElem_toArray, List.getElem_cons_succ, List.getElem_cons_zero]
              refine wpAnyE_take0 (i := 18) (v := ?fv18) rfl (by kernel_rfl) (by kernel_rfl) (by kernel_rfl) (by decide) (fun _ _ _ h => h) (Or.inl ⟨by rfl, ?fhy18⟩) hSS ?_
              case fhy18 => (intro wz hSw; (try dsimp only at hSw); go_simp; try (with_reducible rfl))
              refine wpAnyE_take0 (i := 19) (v := ?fv19) rfl (by kernel_rfl) (by kernel_rfl) (by kernel_rfl) (by decide) (fun _ _ _ h => h) (Or.inl ⟨by rfl, ?fhy19⟩) hSS ?_
              case fhy19 => (intro wz hSw; (try dsimp only at hSw); go_simp; try (with_reducible rfl))
              refine wpAnyE_take0 (i := 20) (v := ?fv20) rfl (by kernel_rfl) (by kernel_rfl) (by kernel_rfl) (by decide) (fun _ _ _ h => h) (Or.inl ⟨by rfl, ?fhy20⟩) hSS ?_
              case fhy20 => (intro wz hSw; (try dsimp only at hSw); go_simp; try (with_reducible rfl))
              refine wpAnyE_take0 (i := 21) (v := ?fv21) rfl (by kernel_rfl) (by kernel_rfl) (by kernel_rfl) (by decide) (fun _ _ _ h => h) (Or.inl ⟨by rfl, ?fhy21⟩) hSS ?_
              case fhy21 => (intro wz hSw; (try dsimp only at hSw); go_simp; try (with_reducible rfl))
              simp only [Act.put, List.setIfInBounds_toArray, List.set_cons_succ, List.set_cons_zero, List.getElem_toArray, List.getElem_cons_succ, List.getElem_cons_zero]
              refine wpAnyE_take0 (i := 22) (v := ?fv22) rfl (by kernel_rfl) (by kernel_rfl) (by kernel_rfl) (by decide) (fun _ _ _ h => h) (Or.inl ⟨by rfl, ?fhy22⟩) hSS ?_
              case fhy22 => (intro wz hSw; (try dsimp only at hSw); go_simp; try (with_reducible rfl))
              refine wpAnyE_take0 (i := 23) (v := ?fv23) rfl (by kernel_rfl) (by kernel_rfl) (by kernel_rfl) (by decide) (fun _ _ _ h => h) (Or.inl ⟨by rfl, ?fhy23⟩) hSS ?_
              case fhy23 => (intro wz hSw; (try dsimp only at hSw); go_simp; try (with_reducible rfl))
              refine wpAnyE_take0 (i := 24) (v := ?fv24) rfl (by kernel_rfl) (by kernel_rfl) (by kernel_rfl) (by decide) (fun _ _ _ h => h) (Or.inl ⟨by rfl, ?fhy24⟩) hSS ?_
              case fhy24 => (intro wz hSw; (try dsimp only at hSw); go_simp; try (with_reducible rfl))
              refine wpAnyE_take0 (i := 25) (v := ?fv25) rfl (by kernel_rfl) (by kernel_rfl) (by kernel_rfl) (by decide) (fun _ _ _ h => h) (Or.inl ⟨by rfl, ?fhy25⟩) hSS ?_
              case fhy25 => (intro wz hSw; (try dsimp only at hSw); go_simp; try (with_reducible rfl))
              simp only [Act.put, List.setIfInBounds_toArray, List.set_cons_succ, List.set_cons_zero, List.getElem_toArray, List.getElem_cons_succ, List.getElem_cons_zero]
              refine wpAnyE_take0 (i := 26) (v := ?fv26) rfl (by kernel_rfl) (by kernel_rfl) (by kernel_rfl) (by decide) (fun _ _ _ h => h) (Or.inl ⟨by rfl, ?fhy26⟩) hSS ?_
              case fhy26 => (intro wz hSw; (try dsimp only at hSw); go_simp; try (with_reducible rfl))
              refine wpAnyE_take0 (i := 27) (v := ?fv27) rfl (by kernel_rfl) (by kernel_rfl) (by kernel_rfl) (by decide) (fun _ _ _ h => h) (Or.inl ⟨by rfl, ?fhy27⟩) hSS ?_
              case fhy27 => (intro wz hSw; (try dsimp only at hSw); go_simp; try (with_reducible rfl))
              refine wpAnyE_take0 (i := 28) (v := ?fv28) rfl (by kernel_rfl) (by kernel_rfl) (by kernel_rfl) (by decide) (fun _ _ _ h => h) (Or.inl ⟨by rfl, ?fhy28⟩) hSS ?_
              case fhy28 => (intro wz hSw; (try dsimp only at hSw); go_simp; try (with_reducible rfl))
              refine wpAnyE_take0 (i := 29) (v := ?fv29) rfl (by kernel_rfl) (by kernel_rfl) (by kernel_rfl) (by decide) (fun _ _ _ h => h) (Or.inl ⟨by rfl, ?fhy29⟩) hSS ?_
              case fhy29 => (intro wz hSw; (try dsimp only at hSw); go_simp; try (with_reducible rfl))
              simp only [Act.put, List.setIfInBounds_toArray, List.set_cons_succ, List.set_cons_zero, List.getElem_toArray, List.getElem_cons_succ, List.getElem_cons_zero]
              refine wpAnyE_take0 (i := 30) (v := ?fv30) rfl (by kernel_rfl) (by kernel_rfl) (by kernel_rfl) (by decide) (fun _ _ _ h => h) (Or.inl ⟨by rfl, ?fhy30⟩) hSS ?_
              case fhy30 => (intro wz hSw; (try dsimp only at hSw); go_simp; try (with_reducible rfl))
              refine wpAnyE_take0 (i := 31) (v := undef) rfl (by kernel_rfl) (by kernel_rfl) (by kernel_rfl) (by decide) (fun _ _ _ h => h) (Or.inr ⟨by kernel_rfl, rfl⟩) hSS ?_
              refine wpAnyE_take0 (i := 32) (v := undef) rfl (by kernel_rfl) (by kernel_rfl) (by kernel_rfl) (by decide) (fun _ _ _ h => h) (Or.inr ⟨by kernel_rfl, rfl⟩) hSS ?_
              refine wpAnyE_take0 (i := 33) (v := undef) rfl (by kernel_rfl) (by kernel_rfl) (by kernel_rfl) (by decide) (fun _ _ _ h => h) (Or.inr ⟨by kernel_rfl, rfl⟩) hSS ?_
              simp only [Act.put, List.setIfInBounds_toArray, List.set_cons_succ, List.set_cons_zero, List.getElem_toArray, List.getElem_cons_succ, List.getElem_cons_zero]
              refine wpAnyE_take0 (i := 34) (v := undef) rfl (by kernel_rfl) (by kernel_rfl) (by kernel_rfl) (by decide) (fun _ _ _ h => h) (Or.inr ⟨by kernel_rfl, rfl⟩) hSS ?_
              refine wpAnyE_take0 (i := 35) (v := undef) rfl (by kernel_rfl) (by kernel_rfl) (by kernel_rfl) (by decide) (fun _ _ _ h => h) (Or.inr ⟨by kernel_rfl, rfl⟩) hSS ?_
              refine wpAnyE_take0 (i := 36) (v := undef) rfl (by kernel_rfl) (by kernel_rfl) (by kernel_rfl) (by decide) (fun _ _ _ h => h) (Or.inr ⟨by kernel_rfl, rfl⟩) hSS ?_
              refine wpAnyE_take0 (i := 37) (v := undef) rfl (by kernel_rfl) (by kernel_rfl) (by kernel_rfl) (by decide) (fun _ _ _ h => h) (Or.inr ⟨by kernel_rfl, rfl⟩) hSS ?_
              simp only [Act.put, List.setIfInBounds_toArray, List.set_cons_succ, List.set_cons_zero, List.getElem_toArray, List.getElem_cons_succ, List.getElem_cons_zero]
              refine wpAnyE_take0 (i := 38) (v := undef) rfl (by kernel_rfl) (by kernel_rfl) (by kernel_rfl) (by decide) (fun _ _ _ h => h) (Or.inr ⟨by kernel_rfl, rfl⟩) hSS ?_
              refine wpAnyE_take0 (i := 39) (v := ?fv39) rfl (by kernel_rfl) (by kernel_rfl) (by kernel_rfl) (by decide) (fun _ _ _ h => h) (Or.inl ⟨by rfl, ?fhy39⟩) hSS ?_
              case fhy39 => (intro wz hSw; (try dsimp only at hSw); go_simp; try (with_reducible rfl))
              refine wpAnyE_take0 (i := 40) (v := ?fv40) rfl (by kernel_rfl) (by kernel_rfl) (by kernel_rfl) (by decide) (fun _ _ _ h => h) (Or.inl ⟨by rfl, ?fhy40⟩) hSS ?_
              case fhy40 => (intro wz hSw; (try dsimp only at hSw); go_simp; try (with_reducible rfl))
              refine wpAnyE_take0 (i := 41) (v := ?fv41) rfl (by kernel_rfl) (by kernel_rfl) (by kernel_rfl) (by decide) (fun _ _ _ h => h) (Or.inl ⟨by rfl, ?fhy41⟩) hSS ?_
              case fhy41 => (intro wz hSw; (try dsimp only at hSw); go_simp; try (with_reducible rfl))
              simp only [Act.put, List.setIfInBounds_toArray, List.set_cons_succ, List.set_cons_zero, List.getElem_toArray, List.getElem_cons_succ, List.getElem_cons_zero]
              refine wpAnyE_take0 (i := 42) (v := ?fv42) rfl (by kernel_rfl) (by kernel_rfl) (by kernel_rfl) (by decide) (fun _ _ _ h => h) (Or.inl ⟨by rfl, ?fhy42⟩) hSS ?_
              case fhy42 => (intro wz hSw; (try dsimp only at hSw); go_simp; try (with_reducible rfl))
              refine wpAnyE_take0 (i := 43) (v := ?fv43) rfl (by kernel_rfl) (by kernel_rfl) (by kernel_rfl) (by decide) (fun _ _ _ h => h) (Or.inl ⟨by rfl, ?fhy43⟩) hSS ?_
              case fhy43 => (intro wz hSw; (try dsimp only at hSw); go_simp; try (with_reducible rfl))
              refine wpAnyE_take0 (i := 44) (v := ?fv44) rfl (by kernel_rfl) (by kernel_rfl) (by kernel_rfl) (by decide) (fun _ _ _ h => h) (Or.inl ⟨by rfl, ?fhy44⟩) hSS ?_
              case fhy44 => (intro wz hSw; (try dsimp only at hSw); go_simp; try (with_reducible rfl))
              refine wpAnyE_take0 (i := 45) (v := ?fv45) rfl (by kernel_rfl) (by kernel_rfl) (by kernel_rfl) (by decide) (fun _ _ _ h => h) (Or.inl ⟨by rfl, ?fhy45⟩) hSS ?_
              case fhy45 => (intro wz hSw; (try dsimp only at hSw); go_simp; try (with_reducible rfl))
              simp only [Act.put, List.setIfInBounds_toArray, List.set_cons_succ, List.set_cons_zero, List.getElem_toArray, List.getElem_cons_succ, List.getElem_cons_zero]
              refine wpAnyE_take0 (i := 46) (v := ?fv46) rfl (by kernel_rfl) (by kernel_rfl) (by kernel_rfl) (by decide) (fun _ _ _ h => h) (Or.inl ⟨by rfl, ?fhy46⟩) hSS ?_
              case fhy46 => (intro wz hSw; (try dsimp only at hSw); go_simp; try (with_reducible rfl))
              refine wpAnyE_take0 (i := 47) (v := ?fv47) rfl (by kernel_rfl) (by kernel_rfl) (by kernel_rfl) (by decide) (fun _ _ _ h => h) (Or.inl ⟨by rfl, ?fhy47⟩) hSS ?_
              case fhy47 => (intro wz hSw; (try dsimp only at hSw); go_simp; try (with_reducible rfl))
              refine wpAnyE_take0 (i := 48) (v := ?fv48) rfl (by kernel_rfl) (by kernel_rfl) (by kernel_rfl) (by decide) (fun _ _ _ h => h) (Or.inl ⟨by rfl, ?fhy48⟩) hSS ?_
              case fhy48 => (intro wz hSw; (try dsimp only at hSw); go_simp; try (with_reducible rfl))
              refine wpAnyE_take0 (i := 49) (v := ?fv49) rfl (by kernel_rfl) (by kernel_rfl) (by kernel_rfl) (by decide) (fun _ _ _ h => h) (Or.inl ⟨by rfl, ?fhy49⟩) hSS ?_
              case fhy49 => (intro wz hSw; (try dsimp only at hSw); go_simp; try (with_reducible rfl))
              simp only [Act.put, List.setIfInBounds_toArray, List.set_cons_succ, List.set_cons_zero, List.getElem_toArray, List.getElem_cons_succ, List.getElem_cons_zero]
              refine wpAnyE_take0 (i := 50) (v := ?fv50) rfl (by kernel_rfl) (by kernel_rfl) (by kernel_rfl) (by decide) (fun _ _ _ h => h) (Or.inl ⟨by rfl, ?fhy50⟩) hSS ?_
              case fhy50 => (intro wz hSw; (try dsimp only at hSw); go_simp; try (with_reducible rfl))
              refine wpAnyE_take0 (i := 51) (v := ?fv51) rfl (by kernel_rfl) (by kernel_rfl) (by kernel_rfl) (by decide) (fun _ _ _ h => h) (Or.inl ⟨by rfl, ?fhy51⟩) hSS ?_
              case fhy51 => (intro wz hSw; (try dsimp only at hSw); go_simp; try (with_reducible rfl))
              refine wpAnyE_take0 (i := 52) (v := ?fv52) rfl (by kernel_rfl) (by kernel_rfl) (by kernel_rfl) (by decide) (fun _ _ _ h => h) (Or.inl ⟨by rfl, ?fhy52⟩) hSS ?_
              case fhy52 => (intro wz hSw; (try dsimp only at hSw); go_simp; try (with_reducible rfl))
              refine wpAnyE_take0 (i := 53) (v := ?fv53) rfl (by kernel_rfl) (by kernel_rfl) (by kernel_rfl) (by decide) (fun _ _ _ h => h) (Or.inl ⟨by rfl, ?fhy53⟩) hSS ?_
              case fhy53 => (intro wz hSw; (try dsimp only at hSw); go_simp; try (with_reducible rfl))
              simp only [Act.put, List.setIfInBounds_toArray, List.set_cons_succ, List.set_cons_zero, List.getElem_toArray, List.getElem_cons_succ, List.getElem_cons_zero]
              refine wpAnyE_one (i := 54) (by kernel_rfl) rfl (fun K hK => ?_)
              go_simp
              refine (sresok_any _ _ _ _ gtx _ (hI.below (Below.refl _ _).drew) hz').mono ?_
              rintro ee w1 ⟨rfl, bd1⟩
              rw [← HX.out]
              have b1 := below_of_drew bd1
              have hb1 := hb.trans (b1.mono hb.size)
              (try dsimp only)
              replace hSS := And.intro (KP.out w1 b1) True.intro
              refine hK.out _ _ ⟨hSS.1, fun _ => trivial⟩ ?_
              clear hK K
              refine wpAnyE_take0 (i := 55) (v := ?fv55) rfl (by kernel_rfl) (by kernel_rfl) (by kernel_rfl) (by decide) (fun _ _ _ h => h) (Or.inl ⟨by rfl, ?fhy55⟩) hSS ?_
              case fhy55 => (intro wz hSw; (try dsimp only at hSw); go_simp; try (with_reducible rfl))
              refine wpAnyE_take0 (i := 56) (v := ?fv56) rfl (by kernel_rfl) (by kernel_rfl) (by kernel_rfl) (by decide) (fun _ _ _ h => h) (Or.inl ⟨by rfl, ?fhy56⟩) hSS ?_
              case fhy56 => (intro wz hSw; (try dsimp only at hSw); go_simp; try (with_reducible rfl))
              refine wpAnyE_one (i := 57) (by kernel_rfl) rfl (fun K hK => ?_)
              go_simp
              refine hK.out _ _ ⟨hSS.1, fun _ => trivial⟩ ?_
              clear hK K
              refine wpAnyE_done (by kernel_rfl) ?_ _
              clear hSS
              cases x
              · go_wp2
                go_ret
                exact ⟨ret_bool (by rw [NO.out (by rw [ND.out, ← HX.out])]), hb1⟩
              · go_wp2
                go_roundw
                case rel => exact ⟨k + 1, by omega, by go_num, hb1, YES.out (by rw [ND.out, ← HX.out])⟩
                case measure => simp [intOf]; omega
      · go_wp2
        go_ret
        exact ⟨ret_bool (by rw [dones_is HC.out, dones_end (by rw [HN.out]; omega) HA.out]), hb⟩
  · have hc' : ((dn : Int) != cl) = true := by simpa using hc
    go_enter Tryz.func67, Tryz.ntmps67
    go_wp2
    go_ret
    exact ⟨ret_bool (by rw [dones_not hc]), B0⟩

end Go.Proofs.YtdigmokjedckeaaGreatDoor
namespace Go.Proofs.YtdigmokjedckeaaGreatDoor
open Go.ChangeShapes Go.WideShapes Go.ChangeAt Go.RowKit Go.Joins Go.Deep
set_option linter.unusedVariables false
set_option maxRecDepth 100000

/-- As a value. -/
abbrev siV (u : Bool) (f : Bool) (r : Int) (ba : Option Addr) (bn bc : Nat) (aa : Option Addr) (an ac : Nat) (da : Option Addr) (dn dc : Nat) : Value := .agg #[.bool u, .bool f, .int .i64 r, .slice ba bn bc, .slice aa an ac, .slice da dn dc]
/-- What one holds, that may be copied. -/
structure StAt (w : World) (ba : Option Addr) (bn : Nat) (bx : List Int) (aa : Option Addr) (an : Nat) (ax : List Int) (da : Option Addr) (dn : Nat) (dx : List DV) : Prop where
  b : Ints w ba bn bx
  zb : bn ≤ 1048576
  a : Ints w aa an ax
  za : an ≤ 1048576
  d : DSG w da dx
  ld : dx.length = dn
  zd : dn ≤ 1048576
theorem StAt.below {w w' : World} {ba : Option Addr} {bn : Nat} {bx : List Int} {aa : Option Addr} {an : Nat} {ax : List Int} {da : Option Addr} {dn : Nat} {dx : List DV} (h : StAt w ba bn bx aa an ax da dn dx) (hb : Below w.heap.size w w') : StAt w' ba bn bx aa an ax da dn dx :=
  ⟨h.b.below hb, h.zb, h.a.below hb, h.za, h.d.below hb, h.ld, h.zd⟩
theorem StAt.alloc {w : World} {ba : Option Addr} {bn : Nat} {bx : List Int} {aa : Option Addr} {an : Nat} {ax : List Int} {da : Option Addr} {dn : Nat} {dx : List DV} (h : StAt w ba bn bx aa an ax da dn dx) (o : Obj) : StAt (w.alloc o) ba bn bx aa an ax da dn dx := h.below ((Below.refl _ _).alloc (Nat.le_refl _) _)
theorem StAt.drewS {w : World} {ba : Option Addr} {bn : Nat} {bx : List Int} {aa : Option Addr} {an : Nat} {ax : List Int} {da : Option Addr} {dn : Nat} {dx : List DV} (h : StAt w ba bn bx aa an ax da dn dx) : StAt w.drew ba bn bx aa an ax da dn dx := h.below (Below.refl _ _).drew

theorem Cel.sixP {w : World} {B : Nat} {x y z u v t' : Value} {t : TypeId} (h : Cel w B [x, y, z, u, v, t'] t) : w.cell? ⟨B, 0, none⟩ = some x ∧ w.cell? ⟨B, 1, none⟩ = some y ∧ w.cell? ⟨B, 2, none⟩ = some z ∧ w.cell? ⟨B, 3, none⟩ = some u ∧ w.cell? ⟨B, 4, none⟩ = some v ∧ w.cell? ⟨B, 5, none⟩ = some t' := ⟨h.cell 0, h.cell 1, h.cell 2, h.cell 3, h.cell 4, h.cell 5⟩
theorem array6 {α : Type} {cs : Array α} (h : cs.size = 6) : ∃ c0 c1 c2 c3 c4 c5, cs = #[c0, c1, c2, c3, c4, c5] := by
  obtain ⟨l⟩ := cs
  match l, h with
  | [c0, c1, c2, c3, c4, c5], _ => exact ⟨c0, c1, c2, c3, c4, c5, rfl⟩
theorem trod_struct6 {H : Type} {enc : TypeId × Value → H} {W : World} {t : TypeId} {f0 f1 f2 f3 f4 f5 : Field} {fuel : Nat} {cs : List Value} {x : DataW H × List MemPlace} (ht : Tryz.prog.underlying t = some (.struct #[f0, f1, f2, f3, f4, f5])) (h : DataW.trod enc Tryz.prog W 0 (fun _ => true) true fuel t cs = some x) :
    ∃ y0 y1 y2 y3 y4 y5 n, DataW.trod enc Tryz.prog W 0 (fun _ => true) true n f0.type ((cs.drop f0.offset).take (Tryz.prog.cellsOf f0.type)) = some y0 ∧ DataW.trod enc Tryz.prog W 0 (fun _ => true) true n f1.type ((cs.drop f1.offset).take (Tryz.prog.cellsOf f1.type)) = some y1 ∧ DataW.trod enc Tryz.prog W 0 (fun _ => true) true n f2.type ((cs.drop f2.offset).take (Tryz.prog.cellsOf f2.type)) = some y2 ∧
      DataW.trod enc Tryz.prog W 0 (fun _ => true) true n f3.type ((cs.drop f3.offset).take (Tryz.prog.cellsOf f3.type)) = some y3 ∧ DataW.trod enc Tryz.prog W 0 (fun _ => true) true n f4.type ((cs.drop f4.offset).take (Tryz.prog.cellsOf f4.type)) = some y4 ∧ DataW.trod enc Tryz.prog W 0 (fun _ => true) true n f5.type ((cs.drop f5.offset).take (Tryz.prog.cellsOf f5.type)) = some y5 := by
  obtain ⟨xs, n, _, rfl, hl, hlen, hf⟩ := DataW.trod_struct ht h
  match xs, hlen with
  | [y0, y1, y2, y3, y4, y5], _ => exact ⟨y0, y1, y2, y3, y4, y5, n, by simpa using hf 0 f0 rfl, by simpa using hf 1 f1 rfl, by simpa using hf 2 f2 rfl, by simpa using hf 3 f3 rfl, by simpa using hf 4 f4 rfl, by simpa using hf 5 f5 rfl⟩
theorem open_agg6 {H : Type} {enc : TypeId × Value → H} {W : World} {r : Reach} {b0 : Nat} {t : TypeId} {f0 f1 f2 f3 f4 f5 : Field} {v : Value} {d : DataW H} {p : List MemPlace} (hs : Tryz.prog.underlying t = some (.struct #[f0, f1, f2, f3, f4, f5])) (hone : oneCellFields Tryz.prog #[f0, f1, f2, f3, f4, f5] = true) (hC : Tryz.prog.cellsOf t = 6)
    (hv : Value.okWide Tryz.prog W r b0 t v) (h : DataW.Trod enc Tryz.prog W 0 (fun _ => true) true t v d p) :
    ∃ (v0 v1 v2 v3 v4 v5 : Value) (y0 y1 y2 y3 y4 y5 : DataW H × List MemPlace) (n : Nat), v = .agg #[v0, v1, v2, v3, v4, v5] ∧
      DataW.trod enc Tryz.prog W 0 (fun _ => true) true n f0.type [v0] = some y0 ∧ DataW.trod enc Tryz.prog W 0 (fun _ => true) true n f1.type [v1] = some y1 ∧ DataW.trod enc Tryz.prog W 0 (fun _ => true) true n f2.type [v2] = some y2 ∧ DataW.trod enc Tryz.prog W 0 (fun _ => true) true n f3.type [v3] = some y3 ∧ DataW.trod enc Tryz.prog W 0 (fun _ => true) true n f4.type [v4] = some y4 ∧ DataW.trod enc Tryz.prog W 0 (fun _ => true) true n f5.type [v5] = some y5 := by
  obtain ⟨cs, rfl, hsz⟩ := okWide_struct hs hv
  obtain ⟨c0, c1, c2, c3, c4, c5, rfl⟩ := array6 (hsz.trans hC)
  obtain ⟨fuel, hf⟩ := h
  obtain ⟨y0, y1, y2, y3, y4, y5, n, h0, h1, h2, h3, h4, h5⟩ := trod_struct6 hs hf
  obtain ⟨o0, k0⟩ := hone_of hone 0 f0 rfl
  obtain ⟨o1, k1⟩ := hone_of hone 1 f1 rfl
  obtain ⟨o2, k2⟩ := hone_of hone 2 f2 rfl
  obtain ⟨o3, k3⟩ := hone_of hone 3 f3 rfl
  obtain ⟨o4, k4⟩ := hone_of hone 4 f4 rfl
  obtain ⟨o5, k5⟩ := hone_of hone 5 f5 rfl
  exact ⟨c0, c1, c2, c3, c4, c5, y0, y1, y2, y3, y4, y5, n, rfl, by simpa [Value.cells, o0, k0] using h0, by simpa [Value.cells, o1, k1] using h1, by simpa [Value.cells, o2, k2] using h2, by simpa [Value.cells, o3, k3] using h3, by simpa [Value.cells, o4, k4] using h4, by simpa [Value.cells, o5, k5] using h5⟩

theorem open_site {H : Type} {enc : TypeId × Value → H} {W : World} {r0 : Reach} {b0 : Nat} {v : Value} {d0 : DataW H} {p : List MemPlace}
    (hv : Value.okWide Tryz.prog W r0 b0 28 v) (h : DataW.Trod enc Tryz.prog W 0 (fun _ => true) true 28 v d0 p) :
    ∃ u f r ba bn bc bx aa an ac ax da dn dc dx, v = siV u f r ba bn bc aa an ac da dn dc ∧ (Lit.int .i64 r).wf = true ∧ Ints W ba bn bx ∧ bn ≤ maxLen ∧ Ints W aa an ax ∧ an ≤ maxLen ∧ dx.length = dn ∧ DSM W da dx ∧ dn ≤ maxLen := by
  obtain ⟨v0, v1, v2, v3, v4, v5, y0, y1, y2, y3, y4, y5, k, rfl, h0, h1, h2, h3, h4, h5⟩ := open_agg6 Tryz.underlying28 (by kernel_rfl) (by kernel_rfl) hv h
  obtain ⟨u, e0, _⟩ := DataW.trod_bool Tryz.underlying4 h0
  obtain rfl : v0 = .bool u := by simpa using e0
  obtain ⟨f, e1, _⟩ := DataW.trod_bool Tryz.underlying4 h1
  obtain rfl : v1 = .bool f := by simpa using e1
  obtain ⟨r, rfl, w2⟩ := open_num h2
  obtain ⟨ba, bn, bc, bx, rfl, i3, n3⟩ := open_row h3
  obtain ⟨aa, an, ac, ax, rfl, i4, n4⟩ := open_row h4
  obtain ⟨da, dn, dc, dx, rfl, l5, m5, n5⟩ := open_DS h5
  exact ⟨u, f, r, ba, bn, bc, bx, aa, an, ac, ax, da, dn, dc, dx, rfl, w2, i3, n3, i4, n4, l5, m5, n5⟩

set_option maxHeartbeats 1600000 in
theorem szSt_any (u : Bool) (f : Bool) (r : Int) (ba : Option Addr) (bn bc : Nat) (bx : List Int) (aa : Option Addr) (an ac : Nat) (ax : List Int) (da : Option Addr) (dn dc : Nat) (dx : List DV) (l : Int) (w : World) (hb : Ints w ba bn bx) (mb : bn ≤ maxLen) (ha : Ints w aa an ax) (ma : an ≤ maxLen) (ld : dx.length = dn) (hd : DSM w da dx) (md : dn ≤ maxLen) (h0 : 0 ≤ l) (hl : l ≤ 1048576) :
    Calls Tryz.prog 7 #[siV u f r ba bn bc aa an ac da dn dc, .int .i64 l] w fun e w' => ∃ r', e = .returned (.int .i64 r') ∧ -1 ≤ r' ∧ r' ≤ 1048576 ∧ (0 ≤ r' → StAt w ba bn bx aa an ax da dn dx) ∧ Below w.heap.size w w' := by
  have n0 := BP.new w [.bool u, .bool f, .int .i64 r, .slice ba bn bc, .slice aa an ac, .slice da dn dc] 28
  have Ld : Hid (dx.length = dn) := ld
  clear ld
  go_enter Tryz.func7, Tryz.ntmps7
  go_wp2_with fail
  refine (szI_ex _ _ _ bx _ _ ⟨hb.below n0.b, mb⟩ h0 hl).mono ?_
  rintro e w1 ⟨r1, rfl, p1, q1, s1, b1⟩
  have n1 := n0.below b1
  obtain ⟨c0, c1, c2, c3, c4, c5⟩ := n1.p.sixP
  by_cases g1 : r1 < 0
  · go_wp2
    go_ret
    exact ⟨-1, rfl, by omega, by omega, fun h => by omega, n1.b⟩
  have g1' : 0 ≤ r1 := by omega
  have S1 : Hid _ := s1 g1'
  clear s1 g1 n0 b1
  go_wp2_with fail
  refine (szI_ex _ _ _ ax _ _ ⟨ha.below n1.b, ma⟩ g1' q1).mono ?_
  rintro e w2 ⟨r2, rfl, p2, q2, s2, b2⟩
  have n2 := n1.below b2
  clear c0 c1 c2 c3 c4 c5
  obtain ⟨c0, c1, c2, c3, c4, c5⟩ := n2.p.sixP
  by_cases g2 : r2 < 0
  · go_wp2
    go_ret
    exact ⟨-1, rfl, by omega, by omega, fun h => by omega, n2.b⟩
  have g2' : 0 ≤ r2 := by omega
  have S2 : Hid _ := s2 g2'
  clear s2 g2 n1 b2
  go_wp2_with fail
  refine (szDS_any _ _ _ dx _ _ Ld.out (hd.below n2.b) md g2' q2).mono ?_
  rintro e w3 ⟨r3, rfl, p3, q3, s3, b3⟩
  have n3 := n2.below b3
  clear c0 c1 c2 c3 c4 c5
  obtain ⟨c0, c1, c2, c3, c4, c5⟩ := n3.p.sixP
  by_cases g3 : r3 < 0
  · go_wp2
    go_ret
    exact ⟨-1, rfl, by omega, by omega, fun h => by omega, n3.b⟩
  have g3' : 0 ≤ r3 := by omega
  have S3 : Hid _ := s3 g3'
  clear s3 g3 n2 b3
  go_wp2
  go_ret
  exact ⟨r3, rfl, by omega, q3, fun _ => ⟨hb, S1.out, ha, S2.out, hd.g S3.out.2, Ld.out, S3.out.1⟩, n3.b⟩

set_option maxHeartbeats 3200000 in
theorem toSt_any (u : Bool) (f : Bool) (r : Int) (ba : Option Addr) (bn bc : Nat) (bx : List Int) (aa : Option Addr) (an ac : Nat) (ax : List Int) (da : Option Addr) (dn dc : Nat) (dx : List DV) (w : World) (h : StAt w ba bn bx aa an ax da dn dx) :
    Calls Tryz.prog 10 #[siV u f r ba bn bc aa an ac da dn dc] w fun e w' => ∃ Bb Ba Bd yd, e = .returned (siV u f r (some ⟨Bb, 0, none⟩) bn bn (some ⟨Ba, 0, none⟩) an an (some ⟨Bd, 0, none⟩) dn dn) ∧ yd.length = dn ∧ copiesDS dx yd ∧ Below w.heap.size w w' ∧ Blk w' Bb bx ∧ Blk w' Ba ax ∧ MD w' Bd dn yd ∧ w.heap.size ≤ Bb ∧ Bb < Ba ∧ Ba < Bd := by
  have zb := h.zb
  have za := h.za
  have zd := h.zd
  have Ld : Hid (dx.length = dn) := h.ld
  go_enter Tryz.func10, Tryz.ntmps10
  go_wp2_with fail
  refine (to_any _ _ _ bx _ (((h.alloc _).alloc _).alloc _).b zb).mono ?_
  rintro e w1 ⟨rfl, b1, kb⟩
  have p0 := (((Cel.new w _ _).alloc _).alloc _).below b1
  have pr := ((Cel.new (w.alloc _) _ _).alloc _).below b1
  have px := (Cel.new ((w.alloc _).alloc _) _ _).below b1
  rw [World.size_alloc] at pr
  rw [World.size_alloc, World.size_alloc] at px
  rw [World.size_alloc, World.size_alloc, World.size_alloc] at kb
  have s1 := kb.lt
  have B1 : Below w.heap.size w w1 := ((((Below.refl _ _).alloc (Nat.le_refl _) _).alloc (by simp) _).alloc (by simp; omega) _).trans (b1.mono (by simp; omega))
  clear b1
  obtain ⟨c0, c1, c2, c3, c4, c5⟩ := p0.sixP
  obtain ⟨d0, d1, d2, d3, d4, d5⟩ := px.sixP
  have f0 := px.free 3
  go_wp2_with fail
  have B1s := B1.setCell (p := ⟨w.heap.size + 1 + 1, 3, none⟩) (by show w.heap.size ≤ w.heap.size + 1 + 1; omega) (Value.slice (some ⟨w.heap.size + 1 + 1 + 1, 0, none⟩) bn bn)
  refine (to_any _ _ _ ax _ (h.below B1s).a za).mono ?_
  rintro e w2 ⟨rfl, b2, ka⟩
  clear c0 c1 c2 c3 c4 c5 d0 d1 d2 d3 d4 d5 f0
  replace p0 := (p0.setOther (by omega) _ _).below b2
  replace pr := (pr.setOther (by omega) _ _).below b2
  replace px := (px.set _ _).below b2
  replace kb := (kb.setOther (B' := w.heap.size + 1 + 1) (by omega) 3 _).below b2
  have B2 := B1s.trans (b2.mono B1s.size)
  rw [size_setCell] at ka
  have s2 := ka.lt
  clear b2 B1 B1s
  simp only [List.set_cons_zero, List.set_cons_succ] at px
  obtain ⟨c0, c1, c2, c3, c4, c5⟩ := p0.sixP
  obtain ⟨d0, d1, d2, d3, d4, d5⟩ := px.sixP
  have f0 := px.free 4
  go_wp2_with fail
  have B2s := B2.setCell (p := ⟨w.heap.size + 1 + 1, 4, none⟩) (by show w.heap.size ≤ w.heap.size + 1 + 1; omega) (Value.slice (some ⟨w1.heap.size, 0, none⟩) an an)
  refine (toDS_any _ _ _ dx _ Ld.out (h.below B2s).d zd).mono ?_
  rintro e w3 ⟨yd, rfl, lgd, cpd, b3, kd⟩
  have LGd : Hid _ := lgd
  have CPd : Hid _ := cpd
  clear lgd cpd
  clear c0 c1 c2 c3 c4 c5 d0 d1 d2 d3 d4 d5 f0
  replace p0 := (p0.setOther (by omega) _ _).below b3
  replace pr := (pr.setOther (by omega) _ _).below b3
  replace px := (px.set _ _).below b3
  replace kb := (kb.setOther (B' := w.heap.size + 1 + 1) (by omega) 4 _).below b3
  replace ka := (ka.setOther (B' := w.heap.size + 1 + 1) (by omega) 4 _).below b3
  have B3 := B2s.trans (b3.mono B2s.size)
  rw [size_setCell] at kd
  have s3 := kd.lt
  clear b3 B2 B2s
  simp only [List.set_cons_zero, List.set_cons_succ] at px
  obtain ⟨d0, d1, d2, d3, d4, d5⟩ := px.sixP
  obtain ⟨e0, e1, e2, e3, e4, e5⟩ := pr.sixP
  have f0 := px.free 5
  have g0 := pr.free 0
  have g1 := pr.free 1
  have g2 := pr.free 2
  have g3 := pr.free 3
  have g4 := pr.free 4
  have g5 := pr.free 5
  have hlt1 : w.heap.size + 1 < w3.heap.size := by omega
  have hlt2 : w.heap.size + 1 + 1 < w3.heap.size := by omega
  go_wp2
  refine bodyPost_ret (v := siV u f r (some ⟨w.heap.size + 1 + 1 + 1, 0, none⟩) bn bn (some ⟨w1.heap.size, 0, none⟩) an an (some ⟨w2.heap.size, 0, none⟩) dn dn) (by simp [results, Tryz.results10, go_sem, e0, e1, e2, e3, e4, e5]) rfl ⟨_, _, _, yd, rfl, LGd.out, CPd.out, ?_, ?_, ?_, ?_, by omega, by omega, by omega⟩
  · exact (((((((B3).setCell (by simp only []; omega) _).setCell (by simp only []; omega) _).setCell (by simp only []; omega) _).setCell (by simp only []; omega) _).setCell (by simp only []; omega) _).setCell (by simp only []; omega) _).setCell (by simp only []; omega) _
  · exact (((((((kb).setOther (by omega) _ _).setOther (by omega) _ _).setOther (by omega) _ _).setOther (by omega) _ _).setOther (by omega) _ _).setOther (by omega) _ _).setOther (by omega) _ _
  · exact (((((((ka).setOther (by omega) _ _).setOther (by omega) _ _).setOther (by omega) _ _).setOther (by omega) _ _).setOther (by omega) _ _).setOther (by omega) _ _).setOther (by omega) _ _
  · exact (((((((kd).setLow (by omega) _ _).setLow (by omega) _ _).setLow (by omega) _ _).setLow (by omega) _ _).setLow (by omega) _ _).setLow (by omega) _ _).setLow (by omega) _ _

set_option maxHeartbeats 1600000 in
/-- Held against one that holds the same. -/
theorem eqSt_same (u : Bool) (f : Bool) (r : Int) (ba : Option Addr) (bn bc : Nat) (bx : List Int) (aa : Option Addr) (an ac : Nat) (ax : List Int) (da : Option Addr) (dn dc : Nat) (dx : List DV) (ba' : Option Addr) (bc' : Nat) (aa' : Option Addr) (ac' : Nat) (da' : Option Addr) (dc' : Nat) (dx' : List DV) (w : World) (h : StAt w ba bn bx aa an ax da dn dx) (h' : StAt w ba' bn bx aa' an ax da' dn dx') (Ed : ∀ i, i < dn → sameD (dx[i]?.getD noD) (dx'[i]?.getD noD)) :
    Calls Tryz.prog 13 #[siV u f r ba bn bc aa an ac da dn dc, siV u f r ba' bn bc' aa' an ac' da' dn dc'] w fun e w' => e = .returned (.bool true) ∧ Below w.heap.size w w' := by
  have HBb := eqB_refl bx
  have HBa := eqB_refl ax
  have HEd : Hid _ := Ed
  clear Ed
  have hu : (u != u) = false := by cases u <;> rfl
  have hf : (f != f) = false := by cases f <;> rfl
  have hr : (r != r) = false := by simp
  have n0 := (BP.new w [.bool u, .bool f, .int .i64 r, .slice ba bn bc, .slice aa an ac, .slice da dn dc] 38).alloc (.cells #[.bool u, .bool f, .int .i64 r, .slice ba' bn bc', .slice aa' an ac', .slice da' dn dc'] 38)
  have y0 := Cel.new (w.alloc (.cells #[.bool u, .bool f, .int .i64 r, .slice ba bn bc, .slice aa an ac, .slice da dn dc] 38)) [.bool u, .bool f, .int .i64 r, .slice ba' bn bc', .slice aa' an ac', .slice da' dn dc'] 38
  rw [World.size_alloc] at y0
  go_enter Tryz.func13, Tryz.ntmps13
  go_wp2_with fail
  refine (eq_any _ _ _ _ _ _ bx bx _ (h.below n0.b).b (h'.below n0.b).b h.zb h.zb).mono ?_
  rintro e w1 ⟨rfl, b1⟩
  rw [HBb]
  have n1 := n0.below b1
  have y1 := y0.below b1
  clear n0 y0 b1
  obtain ⟨c0, c1, c2, c3, c4, c5⟩ := n1.p.sixP
  obtain ⟨d0, d1, d2, d3, d4, d5⟩ := y1.sixP
  go_wp2_with fail
  refine (eq_any _ _ _ _ _ _ ax ax _ (h.below n1.b).a (h'.below n1.b).a h.za h.za).mono ?_
  rintro e w2 ⟨rfl, b2⟩
  rw [HBa]
  have n2 := n1.below b2
  have y2 := y1.below b2
  clear n1 y1 b2 c0 c1 c2 c3 c4 c5 d0 d1 d2 d3 d4 d5
  obtain ⟨c0, c1, c2, c3, c4, c5⟩ := n2.p.sixP
  obtain ⟨d0, d1, d2, d3, d4, d5⟩ := y2.sixP
  go_wp2_with fail
  refine (eqDS_same _ _ _ _ _ dx dx' _ h.ld h'.ld (h.below n2.b).d (h'.below n2.b).d h.zd HEd.out).mono ?_
  rintro e w3 ⟨rfl, b3⟩
  have n3 := n2.below b3
  have y3 := y2.below b3
  clear n2 y2 b3 c0 c1 c2 c3 c4 c5 d0 d1 d2 d3 d4 d5
  go_wp2
  go_ret
  exact ⟨rfl, n3.b⟩

end Go.Proofs.YtdigmokjedckeaaGreatDoor
