/-
  Which pots an act's ways may turn, as the program finds it (impl.CatWrites).
-/
import Derived.Test.YtomlnlcgfdojnaaPackI
import Derived.Test.YtomlnlcgfdojnaaXCatWS
import Derived.Test.YtomlnlcgfdojnaaXKeyR
namespace Go.Proofs.Ytomlnlcgfdojnaa
open Go.RowKit Go.Deep Go.Shelf
set_option linter.unusedVariables false
set_option maxRecDepth 100000
attribute [local go_sem] Oper.semAt_some

set_option maxHeartbeats 3200000 in
theorem icatwrites_in (ad : Option Addr) (N cap : Nat) (ls : List LV) (w : World) (n : Nat) (hN : ls.length = N) (hF : LinesG w ad ls) (hN1 : N ≤ 1048576) :
    CallsIn Fence.wide n Try.prog 23 #[.slice ad N cap] w fun e w' => Below w.heap.size w w' ∧ ((actB N ls = false ∧ e = .returned (.slice none 0 0)) ∨ (actB N ls = true ∧ ∃ G cG, e = .returned (.slice (some ⟨G, 0, none⟩) 3 cG) ∧ w.heap.size ≤ G ∧ OwnBB w' G (writesR (rowsL ls)))) := by
  have hdd : ∀ k : Nat, (Fence.wide.depth.isSome = true → 1 ≤ k) := fun k h => by simp [Fence.wide] at h
  refine callsIn_of_wp_marks Try.func23 rfl trivial ?_ rfl
  simp only [Try.ntmps23, List.size_toArray, List.length_cons, List.length_nil, Nat.reduceAdd, Nat.reduceSub, Array.replicate_succ, Array.replicate_zero, List.push_toArray, List.append_toArray, List.nil_append, List.cons_append]
  gi_wp2_with fail
  refine ⟨trivial, hdd _, (callsIn_wide.2 (iact_any ad N cap ls _ hN hF hN1)).mono ?_⟩
  rintro e w1 ⟨rfl, b1⟩
  obtain ⟨u, hu⟩ : ∃ u, actB N ls = u := ⟨_, rfl⟩
  rw [hu]
  cases u with
  | false =>
    gi_wp2
    exact ⟨_, results_tmp rfl _ _ _, b1, Or.inl ⟨hu, rfl⟩⟩
  | true =>
    obtain ⟨i0, hi, hz0, hz1, hz2⟩ := info_parts Try.infoBool
    obtain ⟨w2, hrun, o2, g2⟩ := run_make_full (P := Try.prog) (w := w1) w1.heap.size 33 4 i0 (.bool false) 1 Try.underlying33 hi hz0 hz1 .i64 .i64 3 (by rw [hz2]; omega) (by unfold maxLen; omega) (Nat.le_refl _)
    have hrun' : (Instr.makeSlice 33 (.int .i64 3) (.int .i64 3)).run Try.prog w1 = .ok (.slice (some ⟨w1.heap.size, 0, none⟩) 3 3) w2 := hrun
    have b2 : Below w1.heap.size w1 w2 := (Below.refl _ _).grown g2 (Nat.le_refl _) (by simp)
    have O2 : OwnBB w2 w1.heap.size (fun _ => false) := by
      rcases o2.2 with ⟨e, _⟩ | ⟨g, cp, cur, hv, hg, hh, hl, hc, hs, ht⟩
      · cases e
      · cases hv
        have hl3 : cur.toList.length = 3 := by rw [Array.length_toList]; omega
        rw [List.take_of_length_le (by omega)] at ht
        have : cur = #[.bool false, .bool false, .bool false] := by
          apply Array.toList_inj.1
          rw [ht]; simpa [Value.cells] using toList_madeCells_one (.bool false) 3
        rw [this] at hh
        exact hh
    clear hrun o2 g2
    gi_wp2_with fail
    have bA : Below w2.heap.size w2 (w2.alloc (.cells #[.slice (some ⟨w1.heap.size, 0, none⟩) 3 3] 33)) := (Below.refl _ _).alloc (Nat.le_refl _) _
    have C3 := Cel.new w2 [.slice (some ⟨w1.heap.size, 0, none⟩) 3 3] 33
    have O3 := O2.below bA
    obtain ⟨w3, hw3⟩ : ∃ w3, w3 = w2.alloc (.cells #[.slice (some ⟨w1.heap.size, 0, none⟩) 3 3] 33) := ⟨_, rfl⟩
    rw [← hw3] at bA C3 O3 ⊢
    have lG := Cel.lt O2
    clear hw3 hrun' O2
    refine ⟨trivial, hdd _, (callsIn_wide.2 (ithrough_any ad N cap w3)).mono ?_⟩
    rintro e w4 ⟨B, rfl, b4, cB⟩
    have C4 := C3.below b4
    have O4 := O3.below b4
    have s2 := b2.size
    have sA := bA.size
    have s4 := b4.size
    have B4 : Below w.heap.size w w4 := ((b1.trans (b2.mono b1.size)).trans (bA.mono (Nat.le_trans b1.size s2))).trans (b4.mono (Nat.le_trans (Nat.le_trans b1.size s2) sA))
    have F4 := hF.below B4
    gi_wp2_with fail
    have s1 := b1.size
    refine wpIn_rows (α := Value × RowM) (gf := 72) (lb := #[.pointer (some ⟨B, 0, none⟩)]) rfl (enters_of Try.func72 (by kernel_rfl) rfl) (encs := fun x => #[x.1]) (fun _ => rfl)
      (fun _ x X => RowFit x.2 ∧ RowX X w4.heap.size x.1 x.2) KpR (fun xs => xs.map Prod.snd = rowsL ls)
      (fun pre X => OwnBB X w1.heap.size (writesR (pre.map Prod.snd)) ∧ Cel X w2.heap.size [.slice (some ⟨w1.heap.size, 0, none⟩) 3 3] 33 ∧ Below w.heap.size w X)
      (fun pre X Y h b => ⟨h.1.below b, h.2.1.below b, h.2.2.trans (b.mono h.2.2.size)⟩)
      (fun pre X l r r' h hl lt => ⟨Cel.loop h.1 hl, h.2.1.loop hl, below_loop h.2.2 (by have := B4.size; omega)⟩) KpR.loop (fun X Y Z => KpR.trans) ⟨O4, C4, B4⟩ ?seq ?round ?done
    case seq =>
      intro l J W hJ hb hJ0 hY
      have e0 : (#[.func (.yield l) #[] #[]] ++ #[.pointer (some ⟨B, 0, none⟩)] : Array Value) = #[.func (.yield l) #[] #[], .pointer (some ⟨B, 0, none⟩)] := rfl
      rw [e0]
      refine (through_any l w4.heap.size (fun rs X => ∃ xs : List (Value × RowM), xs.map Prod.snd = rs ∧ J xs X) (fun rs X Y h b => ?_) (fun m rs v r X h fit rx _ => ?_) B ad N cap ls W (n - 1) hN (F4.below hb) hN1 hu ((cB.below hb).cell 0) hb.size ⟨[], rfl, hJ0⟩).mono ?_
      · obtain ⟨xs, e, j⟩ := h
        exact ⟨xs, e, hJ _ _ _ j b⟩
      · obtain ⟨xs, e, j⟩ := h
        obtain ⟨fn, tmps, assign, body, hy, hR⟩ := hY m xs (v, r) X j ⟨fit, rx⟩
        refine ⟨fn, tmps, assign, body, hy, hR.mono ?_⟩
        rintro e' Y ⟨a, b, c⟩
        exact ⟨a, ⟨xs ++ [(v, r)], by simp [e], b⟩, c⟩
      · rintro e Y ⟨h1, ⟨xs, e1, j⟩, _⟩
        exact ⟨h1, xs, e1, j⟩
    case round =>
      rintro m l pre ⟨v, rm⟩ X r ⟨hO, hC, hB⟩ ⟨fit, rx⟩ hl hlt
      dsimp only at fit rx
      obtain ⟨ga, gc, aa, ac, ta, tc, rfl, f0, f1, f2⟩ := rx
      dsimp only
      gi_wp2_with fail
      have bx : Below X.heap.size X (X.alloc (.cells #[.slice ga rm.guards.length gc, .slice aa rm.adds.length ac, .slice ta rm.tells.length tc, .bool rm.stop] 65)) := (Below.refl _ _).alloc (Nat.le_refl _) _
      have cx := Cel.new X [.slice ga rm.guards.length gc, .slice aa rm.adds.length ac, .slice ta rm.tells.length tc, .bool rm.stop] 65
      have hl1 := (bx.block l (lt_of_block hl)).trans hl
      refine ⟨keeps_below bx, KpR.of bx, ?_⟩
      have O1 : OwnBB _ _ _ := Cel.loop (r' := { r with state := .busy }) (hO.below bx) hl1
      have C1 := Cel.loop (r' := { r with state := .busy }) (hC.below bx) hl1
      have X1 := Cel.loop (r' := { r with state := .busy }) cx hl1
      have k1 : KpR X _ := (KpR.of bx).trans (KpR.loop _ l r { r with state := .busy } hl1)
      have B1 := below_loop (r' := { r with state := .busy }) (hB.trans (bx.mono hB.size)) (l := l) (by have := B4.size; omega)
      obtain ⟨Y, hY⟩ : ∃ Y, Y = (X.alloc (.cells #[.slice ga rm.guards.length gc, .slice aa rm.adds.length ac, .slice ta rm.tells.length tc, .bool rm.stop] 65)).putObj l (.loop { r with state := .busy }) := ⟨_, rfl⟩
      rw [← hY] at O1 C1 X1 k1 B1 ⊢
      clear hY
      have FA : Hid (FormsAt Y aa rm.adds) := f1.at.keepR k1
      have hx1 := X1.cell 1
      have lX := Cel.lt hO
      have la := fit.la
      obtain ⟨A, hA⟩ : ∃ A, A = rm.adds.length := ⟨_, rfl⟩
      have HA : Hid (A = rm.adds.length) := hA
      rw [← hA] at la
      simp only [List.getElem?_cons_succ, List.getElem?_cons_zero] at hx1
      rw [← hA] at hx1
      obtain ⟨wO, hwO⟩ : ∃ wO, wO = writesR (pre.map Prod.snd) := ⟨_, rfl⟩
      have HO : Hid (wO = writesR (pre.map Prod.snd)) := hwO
      rw [← hwO] at O1
      have O1' : OwnBB Y w1.heap.size (fun v => if v < 0 then (wO v || wrF rm v) else wO v) := O1.ext (fun v hv => by simp)
      have lC := C1.lt
      clear O1 hO hC hB cx X1 f0 f1 f2 k1 bx hl1 hA hwO
      gi_wp2_with fail
      gi_loopw [5, 6, 17] (fun _ _ i wr => ∃ u : Nat, u ≤ A ∧ i = .int .i64 u ∧ KeepsFrom w4.heap.size Y wr ∧ KpR Y wr ∧ OwnBB wr w1.heap.size (fun v => if v < u then (wO v || wrF rm v) else wO v) ∧ Cel wr w2.heap.size [.slice (some ⟨w1.heap.size, 0, none⟩) 3 3] 33 ∧ Below w.heap.size w wr) (fun _ _ i _ => A - (intOf i).toNat)
      case atStart => exact ⟨0, Nat.zero_le _, rfl, ⟨Nat.le_refl _, fun k o _ h _ => h⟩, KpR.refl _, O1', C1, B1⟩
      case round =>
        clear O1' C1 B1 hx1
        obtain ⟨u, hu, rfl, kf, kp, o, c, hb⟩ := hrel
        by_cases hlt2 : u < A
        · have hu' : (u : Int) < A := by omega
          have hu3 : (u : Int) < 3 := by omega
          have hu0 : ¬ ((u : Int) < 0) := by omega
          have hF1 := (FA.out.keepR kp) u (by rw [← HA.out]; exact hlt2)
          obtain ⟨b, off, rfl, a', c', ca, cc, c0, c1, c2, iC, iD⟩ := hF1
          have HW : Hid (wrF rm u = !zeroB (rm.adds[u]?.getD ([], [], 0)).1 (rm.adds[u]?.getD ([], [], 0)).2.1 (rm.adds[u]?.getD ([], [], 0)).2.2) := by
            show _ = _
            have hd : decide (u < rm.adds.length) = true := by rw [← HA.out]; simp [hlt2]
            rw [wrF, hd, Bool.true_and, zeroF]
          generalize (rm.adds[u]?.getD ([], [], 0)).1 = C at *
          generalize (rm.adds[u]?.getD ([], [], 0)).2.1 = D at *
          generalize (rm.adds[u]?.getD ([], [], 0)).2.2 = kz at *
          have bz : Below wr.heap.size wr (wr.alloc (.cells #[.slice a' 3 ca, .slice c' 2 cc, .int .i64 kz] 57)) := (Below.refl _ _).alloc (Nat.le_refl _) _
          have fz := Cel.new wr [.slice a' 3 ca, .slice c' 2 cc, .int .i64 kz] 57
          gi_wp2_with fail
          obtain ⟨Z, hZ⟩ : ∃ Z, Z = wr.alloc (.cells #[.slice a' 3 ca, .slice c' 2 cc, .int .i64 kz] 57) := ⟨_, rfl⟩
          rw [← hZ] at bz fz ⊢
          clear hZ c0 c1 c2
          have e0 : Below Z.heap.size Z Z.drew := (Below.refl _ _).drew
          have bz0 : Below wr.heap.size wr Z.drew := bz.trans (e0.mono bz.size)
          have KP : Hid (∀ V, Below wr.heap.size wr V → V.cell? ⟨w2.heap.size, 0, none⟩ = some (.slice (some ⟨w1.heap.size, 0, none⟩) 3 3)) := fun V hV => (c.below hV).cell 0
          have hSS := KP.out _ bz0
          have g0 : Z.drew.cell? ⟨w1.heap.size, u, none⟩ = some (.bool (wO u)) := by
            have := ((o.below bz0).at (v := u) (by omega)).1
            simpa using this
          have q0 := (fz.below e0).cell 0
          have q1 := (fz.below e0).cell 1
          have q2 := (fz.below e0).cell 2
          have s1 := bz.size
          have s2 := kp.size
          refine wpIn_region_R (fun w' => w'.cell? ⟨w2.heap.size, 0, none⟩ = some (.slice (some ⟨w1.heap.size, 0, none⟩) 3 3)) l (by kernel_rfl) (by kernel_rfl) ?_
          cases hold : wO u
          · rw [hold] at g0
            refine wpAnyS_take (i := 0) (v := ?fv0) rfl rfl (by kernel_rfl) (by kernel_rfl) (by kernel_rfl) (fun _ _ _ h => h) (Or.inl ⟨by rfl, ?fy0⟩) (fun _ => rfl) hSS ?_
            case fy0 => (intro wz hSw; (try dsimp only at hSw); go_simp; try (with_reducible rfl))
            refine wpAnyS_take (i := 1) (v := ?fv1) rfl rfl (by kernel_rfl) (by kernel_rfl) (by kernel_rfl) (fun _ _ _ h => h) (Or.inl ⟨by rfl, ?fy1⟩) (fun _ => rfl) hSS ?_
            case fy1 => (intro wz hSw; (try dsimp only at hSw); go_simp; try (with_reducible rfl))
            refine wpAnyS_take (i := 2) (v := ?fv2) rfl rfl (by kernel_rfl) (by kernel_rfl) (by kernel_rfl) (fun _ _ _ h => h) (Or.inl ⟨by rfl, ?fy2⟩) (fun _ => rfl) hSS ?_
            case fy2 => (intro wz hSw; (try dsimp only at hSw); go_simp; try (with_reducible rfl))
            refine wpAnyS_take (i := 3) (v := ?fv3) rfl rfl (by kernel_rfl) (by kernel_rfl) (by kernel_rfl) (fun _ _ _ h => h) (Or.inl ⟨by rfl, ?fy3⟩) (fun _ => rfl) hSS ?_
            case fy3 => (intro wz hSw; (try dsimp only at hSw); go_simp; try (with_reducible rfl))
            refine wpAnyS_one (i := 4) (by kernel_rfl) rfl (fun K hK => ?_)
            go_simp
            refine hK.out _ _ hSS ?_
            clear hK K
            refine wpAnyS_one (i := 5) (by kernel_rfl) rfl (fun K hK => ?_)
            go_simp
            refine hK.out _ _ hSS ?_
            clear hK K
            refine wpAnyS_one (i := 6) (by kernel_rfl) rfl (fun K hK => ?_)
            go_simp
            refine hK.out _ _ hSS ?_
            clear hK K
            refine wpAnyS_one (i := 7) (by kernel_rfl) rfl (fun K hK => ?_)
            rw [if_pos (by kernel_rfl)]
            go_simp
            refine hK.out _ _ hSS ?_
            clear hK K
            refine wpAnyS_one (i := 8) (by kernel_rfl) rfl (fun K hK => ?_)
            rw [if_pos (by kernel_rfl)]
            go_simp
            refine ⟨trivial, hdd _, CallsIn.mono (callsIn_wide.2 (izero0_any _ _ _ _ _ C D _ (iC.below bz0) (iD.below bz0))) ?_⟩
            rintro e wE ⟨rfl, bdE⟩
            have bE : Below wr.heap.size wr wE := bz0.trans (bdE.mono bz0.size)
            (try dsimp only)
            refine hK.out _ _ (KP.out _ bE) ?_
            clear hK K
            refine wpAnyS_one (i := 9) (by kernel_rfl) rfl (fun K hK => ?_)
            rw [if_pos (by kernel_rfl)]
            go_simp
            refine hK.out _ _ (KP.out _ bE) ?_
            clear hK K
            refine wpAnyS_one (i := 10) (by kernel_rfl) rfl (fun K hK => ?_)
            go_simp
            refine hK.out _ _ (KP.out _ bE) ?_
            clear hK K
            refine wpAnyS_one (i := 11) (by kernel_rfl) rfl (fun K hK => ?_)
            go_simp
            refine hK.out _ _ (KP.out _ bE) ?_
            clear hK K
            have V1 : Touch (fun z => z = w1.heap.size) wE (wE.setCell ⟨w1.heap.size, u, none⟩ (.bool (!zeroB C D kz))) := Touch.setCell (S := fun z => z = w1.heap.size) (Touch.refl _ _) rfl _
            have O5 : Hid (OwnBB (wE.setCell ⟨w1.heap.size, u, none⟩ (.bool (!zeroB C D kz))) w1.heap.size (fun v => if v < u + 1 then (wO v || wrF rm v) else wO v)) := ((o.below bE).set (u := u) (by omega) (!zeroB C D kz)).ext (fun v hv => by
              by_cases e : v = u
              · subst e; simp only [if_true, Nat.lt_succ_self]; rw [hold, HW.out]; simp
              · simp only [e, if_false]
                by_cases e2 : v < u
                · rw [if_pos e2, if_pos (by omega)]
                · rw [if_neg e2, if_neg (by omega)])
            have C5 := cel_past (c.below bE) V1 (by omega)
            have KF := (kf.trans (keeps_below bE)).trans (keeps_touch (B := w4.heap.size) V1 (by omega))
            have KPP := (kp.trans (KpR.of bE)).trans ((o.below bE).kpR V1)
            have BB := below_touch (hb.trans (bE.mono hb.size)) V1 (by omega)
            have hS5 : (wE.setCell ⟨w1.heap.size, u, none⟩ (.bool (!zeroB C D kz))).cell? ⟨w2.heap.size, 0, none⟩ = some (.slice (some ⟨w1.heap.size, 0, none⟩) 3 3) := C5.cell 0
            obtain ⟨y0, y1⟩ := (o.below bE).at (v := u) (by omega)
            refine wpAnyS_one (i := 12) (by kernel_rfl) rfl (fun K hK => ?_)
            go_simp
            refine hK.out _ _ hS5 ?_
            clear hK K
            refine wpAnyS_done (by kernel_rfl) ?_ _
            clear g0 q0 q1 q2 y0 y1 hSS KP HW iC iD
            gi_wp2
            go_roundw
            case rel => exact ⟨u + 1, by omega, by go_num, KF, KPP, O5.out, C5, BB⟩
            case measure => simp [intOf]; omega
          · rw [hold] at g0
            refine wpAnyS_take (i := 0) (v := ?tv0) rfl rfl (by kernel_rfl) (by kernel_rfl) (by kernel_rfl) (fun _ _ _ h => h) (Or.inl ⟨by rfl, ?ty0⟩) (fun _ => rfl) hSS ?_
            case ty0 => (intro wz hSw; (try dsimp only at hSw); go_simp; try (with_reducible rfl))
            refine wpAnyS_take (i := 1) (v := ?tv1) rfl rfl (by kernel_rfl) (by kernel_rfl) (by kernel_rfl) (fun _ _ _ h => h) (Or.inl ⟨by rfl, ?ty1⟩) (fun _ => rfl) hSS ?_
            case ty1 => (intro wz hSw; (try dsimp only at hSw); go_simp; try (with_reducible rfl))
            refine wpAnyS_take (i := 2) (v := ?tv2) rfl rfl (by kernel_rfl) (by kernel_rfl) (by kernel_rfl) (fun _ _ _ h => h) (Or.inl ⟨by rfl, ?ty2⟩) (fun _ => rfl) hSS ?_
            case ty2 => (intro wz hSw; (try dsimp only at hSw); go_simp; try (with_reducible rfl))
            refine wpAnyS_take (i := 3) (v := ?tv3) rfl rfl (by kernel_rfl) (by kernel_rfl) (by kernel_rfl) (fun _ _ _ h => h) (Or.inl ⟨by rfl, ?ty3⟩) (fun _ => rfl) hSS ?_
            case ty3 => (intro wz hSw; (try dsimp only at hSw); go_simp; try (with_reducible rfl))
            refine wpAnyS_one (i := 4) (by kernel_rfl) rfl (fun K hK => ?_)
            go_simp
            refine hK.out _ _ hSS ?_
            clear hK K
            refine wpAnyS_one (i := 5) (by kernel_rfl) rfl (fun K hK => ?_)
            go_simp
            refine hK.out _ _ hSS ?_
            clear hK K
            refine wpAnyS_one (i := 6) (by kernel_rfl) rfl (fun K hK => ?_)
            go_simp
            refine hK.out _ _ hSS ?_
            clear hK K
            refine wpAnyS_one (i := 7) (by kernel_rfl) rfl (fun K hK => ?_)
            rw [if_neg (not_true_of (by kernel_rfl))]
            refine ⟨fun _ _ => trivial, hK.out _ _ hSS ?_⟩
            clear hK K
            refine wpAnyS_one (i := 8) (by kernel_rfl) rfl (fun K hK => ?_)
            rw [if_neg (not_true_of (by kernel_rfl))]
            refine ⟨fun _ _ => trivial, hK.out _ _ hSS ?_⟩
            clear hK K
            refine wpAnyS_one (i := 9) (by kernel_rfl) rfl (fun K hK => ?_)
            rw [if_neg (not_true_of (by kernel_rfl))]
            refine ⟨fun _ _ => trivial, hK.out _ _ hSS ?_⟩
            clear hK K
            refine wpAnyS_one (i := 10) (by kernel_rfl) rfl (fun K hK => ?_)
            go_simp
            refine hK.out _ _ hSS ?_
            clear hK K
            refine wpAnyS_one (i := 11) (by kernel_rfl) rfl (fun K hK => ?_)
            go_simp
            refine hK.out _ _ hSS ?_
            clear hK K
            obtain ⟨wE, hE⟩ : ∃ wE, wE = Z.drew := ⟨_, rfl⟩
            have bE : Below wr.heap.size wr wE := by rw [hE]; exact bz0
            rw [← hE]
            clear hE
            have V1 : Touch (fun z => z = w1.heap.size) wE (wE.setCell ⟨w1.heap.size, u, none⟩ (.bool true)) := Touch.setCell (S := fun z => z = w1.heap.size) (Touch.refl _ _) rfl _
            have O5 : Hid (OwnBB (wE.setCell ⟨w1.heap.size, u, none⟩ (.bool true)) w1.heap.size (fun v => if v < u + 1 then (wO v || wrF rm v) else wO v)) := ((o.below bE).set (u := u) (by omega) true).ext (fun v hv => by
              by_cases e : v = u
              · subst e; simp only [if_true, Nat.lt_succ_self]; rw [hold, HW.out]; simp
              · simp only [e, if_false]
                by_cases e2 : v < u
                · rw [if_pos e2, if_pos (by omega)]
                · rw [if_neg e2, if_neg (by omega)])
            have C5 := cel_past (c.below bE) V1 (by omega)
            have KF := (kf.trans (keeps_below bE)).trans (keeps_touch (B := w4.heap.size) V1 (by omega))
            have KPP := (kp.trans (KpR.of bE)).trans ((o.below bE).kpR V1)
            have BB := below_touch (hb.trans (bE.mono hb.size)) V1 (by omega)
            have hS5 : (wE.setCell ⟨w1.heap.size, u, none⟩ (.bool true)).cell? ⟨w2.heap.size, 0, none⟩ = some (.slice (some ⟨w1.heap.size, 0, none⟩) 3 3) := C5.cell 0
            obtain ⟨y0, y1⟩ := (o.below bE).at (v := u) (by omega)
            refine wpAnyS_one (i := 12) (by kernel_rfl) rfl (fun K hK => ?_)
            go_simp
            refine hK.out _ _ hS5 ?_
            clear hK K
            refine wpAnyS_done (by kernel_rfl) ?_ _
            clear g0 q0 q1 q2 y0 y1 hSS KP HW iC iD
            gi_wp2
            go_roundw
            case rel => exact ⟨u + 1, by omega, by go_num, KF, KPP, O5.out, C5, BB⟩
            case measure => simp [intOf]; omega
        · obtain rfl : u = A := by omega
          gi_wp2
          refine ⟨kf, kp, o.ext (fun v hv => ?_), c, hb⟩
          rw [HO.out, List.map_append, writesR, writesR, List.any_append]
          by_cases e : v < u
          · simp [e]
          · have hd : decide (v < rm.adds.length) = false := by rw [← HA.out]; simpa using e
            simp [e, wrF, hd]
    case done =>
      rintro D xs W hD hS ⟨hO, hC, hB⟩ hK
      have hc := hC.cell 0
      gi_wp2
      refine ⟨by simp, .inl ⟨_, _, rfl, run_takeDeferred hK, ?_⟩⟩
      refine ⟨_, results_tmp rfl _ _ _, ?_⟩
      rw [hS] at hO
      exact ⟨below_put hB (by have := B4.size; omega), Or.inr ⟨hu, _, _, rfl, s1, Cel.defer hO hK⟩⟩

theorem icatwrites_any (ad : Option Addr) (N cap : Nat) (ls : List LV) (w : World) (hN : ls.length = N) (hF : LinesG w ad ls) (hN1 : N ≤ 1048576) :
    Calls Try.prog 23 #[.slice ad N cap] w fun e w' => Below w.heap.size w w' ∧ ((actB N ls = false ∧ e = .returned (.slice none 0 0)) ∨ (actB N ls = true ∧ ∃ G cG, e = .returned (.slice (some ⟨G, 0, none⟩) 3 cG) ∧ w.heap.size ≤ G ∧ OwnBB w' G (writesR (rowsL ls)))) :=
  callsIn_wide.1 (icatwrites_in ad N cap ls w 0 hN hF hN1)

end Go.Proofs.Ytomlnlcgfdojnaa
