/-
  Parts are put into the map of their places (impl's partPlaces.put). Length at most 1048576.
-/
import Derived.Test.YtacjjhfbnbmnlaaGreatDoorYMapP
import Derived.Lib.SlBuf
import Derived.Laws.IdiomCopy
namespace Go.Proofs.YtacjjhfbnbmnlaaGreatDoor
open Go.RowKit Go.Deep
set_option linter.unusedVariables false
set_option maxRecDepth 100000

abbrev ET : TypeId := 3
/-- The map of the parts' places. -/
abbrev OwnM (W : World) (B n : Nat) (D : DataW Unit) : Prop := W.ownsMap Tryz.prog KT (plainElem Tryz.prog ET) B n D
theorem OwnM.no {W : World} {B n : Nat} {D : DataW Unit} (h : OwnM W B n D) : ∀ o, W.cell? ⟨B, o, none⟩ = none := fun o => by
  obtain ⟨es, clock, hb, _⟩ := h
  simp [World.cell?, hb]
theorem FormsAt.pastM {W W' : World} {B n : Nat} {D : DataW Unit} {a : Option Addr} {fs : List Frm} (h : FormsAt W a fs) (m : OwnM W B n D) (t : Touch (fun z => z = B) W W') : FormsAt W' a fs :=
  h.past (fun o v hv => by rw [m.no o] at hv; cases hv) t
theorem touch_grown {W W' : World} {B : Nat} (h : W.grownBy W' (some B)) : Touch (fun z => z = B) W W' := ⟨h.os, h.tape, h.output, h.size, fun z hz hn => h.block z hz (fun e => hn (by simpa using e))⟩
theorem OwnM.below {W W' : World} {B n : Nat} {D : DataW Unit} (h : OwnM W B n D) (b : Below W.heap.size W W') : OwnM W' B n D := by
  obtain ⟨es, clock, hb, r⟩ := h
  exact ⟨es, clock, (b.block B (lt_of_block hb)).trans hb, r⟩
theorem OwnM.touch {S : Nat → Prop} {W W' : World} {B n : Nat} {D : DataW Unit} (h : OwnM W B n D) (t : Touch S W W') (hn : ¬ S B) : OwnM W' B n D := by
  obtain ⟨es, clock, hb, r⟩ := h
  exact ⟨es, clock, (t.block B (lt_of_block hb) hn).trans hb, r⟩
theorem zeroE (w : World) : (zeroValue ET).run Tryz.prog w = .ok (.int .i64 0) w := by kernel_rfl
theorem three_set {W : World} {P : Nat} {vs : List Value} {t : TypeId} (h : Cel W P vs t) (hl : vs.length = 3) (x y z : Value) : Cel (W.setCells P 0 [x, y, z]) P [x, y, z] t ∧ Touch (fun k => k = P) W (W.setCells P 0 [x, y, z]) := by
  simp only [World.setCells]
  refine ⟨?_, (((Touch.refl (fun k => k = P) W).setCell rfl _).setCell rfl _).setCell rfl _⟩
  have := ((h.set 0 x).set 1 y).set 2 z
  match vs, hl with
  | [a, b, c], _ => exact this

theorem eq3 {p : List Int} (hp : wfP p) (w : World) : ∃ r : Bool, (Op.equalIn 10000 KT (kV (p[0]?.getD 0) (p[1]?.getD 0) (p[2]?.getD 0)) (kV 0 0 0)).run Tryz.prog w = .ok r w ∧ (r = true ↔ p = [0, 0, 0]) := by
  have h0 : wfP [0, 0, 0] := ⟨rfl, fun i hi => by
    match i, hi with
    | 0, _ => rfl
    | 1, _ => rfl
    | 2, _ => rfl⟩
  obtain ⟨r, h1, h2⟩ := run_equal_deep w (m := 2) (by omega) (arr3.at 0) arr3.wide (keyOf_P hp) (keyOf_P h0)
  exact ⟨r, h1, h2.trans ⟨fun h => kP_inj hp h0 h, fun h => by rw [h]⟩⟩

set_option maxHeartbeats 3200000 in
theorem iput_any (B n : Nat) (D : DataW Unit) (ps : List (List Int)) (ad : Option Addr) (N cap : Nat) (fs : List Frm) (w : World) (hm : OwnM w B n D) (hD : MapIs D ps) (hn : n ≤ 1000000000) (hN : fs.length = N) (hF : FormsAt w ad fs) (hfit : ∀ k, k < N → fitX 10000000 (fs[k]?.getD ([], [], 0))) (hN1 : N ≤ 1048576) :
    Calls Tryz.prog 152 #[.map (some B), .slice ad N cap] w fun e w' => (∃ v, e = .returned v) ∧ Touch (fun z => z = B) w w' ∧ ∃ D', OwnM w' B (n + N) D' ∧ MapIs D' (guardsP ps fs) := by
  have HN : Hid (fs.length = N) := hN
  have HF : Hid (FormsAt w ad fs) := hF
  have HFT : Hid _ := hfit
  have HM : Hid (OwnM w B n D) := hm
  have HD : Hid (MapIs D ps) := hD
  have hBw : B < w.heap.size := hm.lt
  clear hN hF hfit hm hD
  go_enter Tryz.func152, Tryz.ntmps152
  go_wp2_with fail
  go_loopw [5, 6, 7, 8, 9, 12] (fun _ _ _ _ _ i wr => ∃ (k : Nat) (D : DataW Unit), k ≤ N ∧ i = .int .i64 k ∧ Touch (fun z => z = B) w wr ∧ OwnM wr B (n + k) D ∧ MapIs D (guardsP ps (fs.take k))) (fun _ _ _ _ _ i _ => N - (intOf i).toNat)
  case atStart => exact ⟨0, D, Nat.zero_le _, rfl, Touch.refl _ _, HM.out, HD.out⟩
  case round =>
    clear HD
    obtain ⟨k, D1, hk, rfl, t, m, d⟩ := hrel
    have HD : Hid (MapIs D1 (guardsP ps (fs.take k))) := d
    clear d
    by_cases hlt : k < N
    · have hlt' : (k : Int) < N := by omega
      have hkl : k < fs.length := by rw [HN.out]; exact hlt
      have HS : Hid (guardsP ps (fs.take (k + 1)) = addP (guardsP ps (fs.take k)) (partL (fs[k]?.getD ([], [], 0)).1)) := guardsP_snoc ps fs k hkl
      have HW : Hid (wfP (partL (fs[k]?.getD ([], [], 0)).1)) := wfP_part (HFT.out k hlt).1
      obtain ⟨b, off, rfl, a', c', ca, cc, c0, c1, c2, iC, iD⟩ := (HF.out.pastM HM.out t) k hkl
      generalize (fs[k]?.getD ([], [], 0)).1 = C at *
      generalize (fs[k]?.getD ([], [], 0)).2.2 = kz at *
      generalize guardsP ps (fs.take k) = qs at *
      have lB : B < wr.heap.size := m.lt
      have b1 : Below wr.heap.size wr ((wr.alloc (.cells #[.slice a' 3 ca, .slice c' 2 cc, .int .i64 kz] 127)).alloc (.cells #[.int .i64 0, .int .i64 0, .int .i64 0] KT)) := ((Below.refl _ _).alloc (Nat.le_refl _) _).alloc (by simp) _
      have fb := (Cel.new wr [.slice a' 3 ca, .slice c' 2 cc, .int .i64 kz] 127).alloc (.cells #[.int .i64 0, .int .i64 0, .int .i64 0] KT)
      have pb := Cel.new (wr.alloc (.cells #[.slice a' 3 ca, .slice c' 2 cc, .int .i64 kz] 127)) [.int .i64 0, .int .i64 0, .int .i64 0] KT
      rw [World.size_alloc] at pb
      go_upto_region 4 with fail
      obtain ⟨Z, hZ⟩ : ∃ Z, Z = (wr.alloc (.cells #[.slice a' 3 ca, .slice c' 2 cc, .int .i64 kz] 127)).alloc (.cells #[.int .i64 0, .int .i64 0, .int .i64 0] KT) := ⟨_, rfl⟩
      rw [← hZ] at b1 fb pb ⊢
      clear hZ c0 c1 c2
      have KP : Hid (∀ W, Below Z.heap.size Z W → (W.cell? ⟨wr.heap.size, 0, none⟩ = some (.slice a' 3 ca) ∧ W.cell? ⟨wr.heap.size, 1, none⟩ = some (.slice c' 2 cc) ∧ W.cell? ⟨wr.heap.size, 2, none⟩ = some (.int .i64 kz))) := fun W hW => ⟨(fb.below hW).cell 0, (fb.below hW).cell 1, (fb.below hW).cell 2⟩
      have e0 : Below Z.heap.size Z Z.drew := (Below.refl _ _).drew
      have hSS := And.intro (KP.out _ e0) (True.intro)
      have lP := pb.lt
      refine wp_region_ends (fun w' => w'.cell? ⟨wr.heap.size, 0, none⟩ = some (.slice a' 3 ca) ∧ w'.cell? ⟨wr.heap.size, 1, none⟩ = some (.slice c' 2 cc) ∧ w'.cell? ⟨wr.heap.size, 2, none⟩ = some (.int .i64 kz)) (fun _ => True) 3 (by kernel_rfl) ?_
      refine wpAnyE_take0 (i := 0) (v := ?av0) rfl (by kernel_rfl) (by kernel_rfl) (by kernel_rfl) (by decide) (fun _ _ _ h => h) (Or.inl ⟨by rfl, ?ahy0⟩) hSS ?_
      case ahy0 => (intro wz hSw; (try dsimp only at hSw); go_simp; try (with_reducible rfl))
      refine wpAnyE_take0 (i := 1) (v := ?av1) rfl (by kernel_rfl) (by kernel_rfl) (by kernel_rfl) (by decide) (fun _ _ _ h => h) (Or.inl ⟨by rfl, ?ahy1⟩) hSS ?_
      case ahy1 => (intro wz hSw; (try dsimp only at hSw); go_simp; try (with_reducible rfl))
      simp only [Act.put, List.setIfInBounds_toArray, List.set_cons_succ, List.set_cons_zero, List.getElem_toArray, List.getElem_cons_succ, List.getElem_cons_zero]
      clear hSS
      refine wpAnyE_one (i := 2) (by kernel_rfl) rfl (fun K hK => ?_)
      go_simp
      refine (ipart_any _ 3 _ _ 2 _ _ C _ ((iC.below b1).below e0) (by omega)).mono ?_
      rintro ee w4 ⟨rfl, bd4, k4⟩
      have b4 : Below Z.heap.size Z w4 := e0.trans (bd4.mono e0.size)
      have zd : Z.drew.heap.size = Z.heap.size := rfl
      rw [zd] at k4
      (try dsimp only)
      refine hK.out _ _ ⟨KP.out _ b4, fun _ => trivial⟩ ?_
      clear hK K
      have p4 := pb.below b4
      have hp3 : (partL C).length = 3 := HW.out.1
      have hr : (Builtin.copy_ #[23, 23] 3 #[.slice (some ⟨wr.heap.size + 1, 0, none⟩) 3 3, .slice (some ⟨Z.heap.size + 1, 0, none⟩) 3 3]).run Tryz.prog w4 = .ok (goInt 3) (w4.setCells (wr.heap.size + 1) 0 [.int .i64 ((partL C)[0]?.getD 0), .int .i64 ((partL C)[1]?.getD 0), .int .i64 ((partL C)[2]?.getD 0)]) :=
        run_copy_cells w4 23 23 3 3 (wr.heap.size + 1) 0 3 3 ⟨Z.heap.size + 1, 0, none⟩ 3 3 [.int .i64 ((partL C)[0]?.getD 0), .int .i64 ((partL C)[1]?.getD 0), .int .i64 ((partL C)[2]?.getD 0)] Tryz.underlying23 (by kernel_rfl) rfl
          (fun j v hv => by
            have hadd : (⟨Z.heap.size + 1, 0, none⟩ : Addr).add j = ⟨Z.heap.size + 1, j, none⟩ := by
              by_cases h0 : j = 0
              · subst h0; simp [Addr.add]
              · simp [Addr.add, h0]
            rw [hadd]
            match j with
            | 0 => simp only [List.getElem?_cons_zero, Option.some.injEq] at hv; subst hv; rw [k4.cell 0 (by omega), List.getD_eq_getElem?_getD]
            | 1 => simp only [List.getElem?_cons_zero, List.getElem?_cons_succ, Option.some.injEq] at hv; subst hv; rw [k4.cell 1 (by omega), List.getD_eq_getElem?_getD]
            | 2 => simp only [List.getElem?_cons_zero, List.getElem?_cons_succ, Option.some.injEq] at hv; subst hv; rw [k4.cell 2 (by omega), List.getD_eq_getElem?_getD]
            | j + 3 => simp at hv)
          (fun j hj => by
            have hj3 : j < 3 := hj
            rw [Nat.zero_add, p4.cell j]
            match j, hj3 with
            | 0, _ => rfl
            | 1, _ => rfl
            | 2, _ => rfl)
          (fun j hj => by rw [Nat.zero_add]; exact p4.free j)
          (by simp [Value.oneCell'])
      obtain ⟨p5, t5⟩ := three_set p4 rfl (.int .i64 ((partL C)[0]?.getD 0)) (.int .i64 ((partL C)[1]?.getD 0)) (.int .i64 ((partL C)[2]?.getD 0))
      have s4 := b4.size
      have s1 := b1.size
      have m5 : OwnM (w4.setCells (wr.heap.size + 1) 0 [.int .i64 ((partL C)[0]?.getD 0), .int .i64 ((partL C)[1]?.getD 0), .int .i64 ((partL C)[2]?.getD 0)]) B (n + k) D1 := ((m.below b1).below b4).touch t5 (fun h => by have : B = wr.heap.size + 1 := h; omega)
      have T5 : Touch (fun z => z = B) w (w4.setCells (wr.heap.size + 1) 0 [.int .i64 ((partL C)[0]?.getD 0), .int .i64 ((partL C)[1]?.getD 0), .int .i64 ((partL C)[2]?.getD 0)]) := by
        have tw := t.size
        have tb := (t.trans (Touch.of b1)).trans (Touch.of b4)
        refine ⟨t5.os.trans tb.os, t5.tape.trans tb.tape, t5.output.trans tb.output, Nat.le_trans tb.size t5.size, fun z hz hz2 => ?_⟩
        rw [t5.block z (Nat.lt_of_lt_of_le hz tb.size) (by omega)]
        exact tb.block z hz hz2
      have KP5 : (w4.setCells (wr.heap.size + 1) 0 [.int .i64 ((partL C)[0]?.getD 0), .int .i64 ((partL C)[1]?.getD 0), .int .i64 ((partL C)[2]?.getD 0)]).cell? ⟨wr.heap.size, 0, none⟩ = some (.slice a' 3 ca) ∧ (w4.setCells (wr.heap.size + 1) 0 [.int .i64 ((partL C)[0]?.getD 0), .int .i64 ((partL C)[1]?.getD 0), .int .i64 ((partL C)[2]?.getD 0)]).cell? ⟨wr.heap.size, 1, none⟩ = some (.slice c' 2 cc) ∧ (w4.setCells (wr.heap.size + 1) 0 [.int .i64 ((partL C)[0]?.getD 0), .int .i64 ((partL C)[1]?.getD 0), .int .i64 ((partL C)[2]?.getD 0)]).cell? ⟨wr.heap.size, 2, none⟩ = some (.int .i64 kz) := by
        have := fb.below b4
        have := Cel.touch this t5 (fun h => by have : wr.heap.size = wr.heap.size + 1 := h; omega)
        exact ⟨this.cell 0, this.cell 1, this.cell 2⟩
      refine wpAnyE_one (i := 3) (by kernel_rfl) rfl (fun K hK => ?_)
      rw [if_pos (by kernel_rfl)]
      refine Go.Lib.wp_copy_run w4 (.tmp 16) (.tmp 18) 23 23 rfl (.slice (some ⟨wr.heap.size + 1, 0, none⟩) 3 3) (.slice (some ⟨Z.heap.size + 1, 0, none⟩) 3 3) (by rfl) (by rfl) hr ?_
      (try dsimp only)
      refine hK.out _ _ ⟨KP5, fun h => absurd (show true = false from h) (by decide)⟩ ?_
      clear hK K
      refine wpAnyE_done (by kernel_rfl) ?_ _
      generalize w4.setCells (wr.heap.size + 1) 0 [.int .i64 ((partL C)[0]?.getD 0), .int .i64 ((partL C)[1]?.getD 0), .int .i64 ((partL C)[2]?.getD 0)] = w5 at *
      clear KP5 KP hr p4 t5 k4 bd4 b4 pb fb b1 m t iC iD e0 zd
      obtain ⟨g0, g1, g2⟩ : w5.cell? ⟨wr.heap.size + 1, 0, none⟩ = some (.int .i64 ((partL C)[0]?.getD 0)) ∧ w5.cell? ⟨wr.heap.size + 1, 1, none⟩ = some (.int .i64 ((partL C)[1]?.getD 0)) ∧ w5.cell? ⟨wr.heap.size + 1, 2, none⟩ = some (.int .i64 ((partL C)[2]?.getD 0)) := ⟨p5.cell 0, p5.cell 1, p5.cell 2⟩
      obtain ⟨rz, hrz, hrz2⟩ := eq3 HW.out w5
      have HRZ : Hid (rz = true ↔ partL C = [0, 0, 0]) := hrz2
      clear hrz2
      have HKEY : Hid (keyOf Tryz.prog KT (kV ((partL C)[0]?.getD 0) ((partL C)[1]?.getD 0) ((partL C)[2]?.getD 0)) = some (kP (partL C))) := keyOf_P HW.out
      have HP3 : Hid (partL C = [(partL C)[0]?.getD 0, (partL C)[1]?.getD 0, (partL C)[2]?.getD 0]) := three_eq hp3
      generalize hx0 : (partL C)[0]?.getD 0 = x0 at *
      generalize hx1 : (partL C)[1]?.getD 0 = x1 at *
      generalize hx2 : (partL C)[2]?.getD 0 = x2 at *
      clear hx0 hx1 hx2 hp3
      have HSZ : Hid (Maps.size D1 = qs.length) := HD.out.sz
      cases hh : Maps.has D1 (kP (partL C))
      · have HNI : Hid (partL C ∉ qs) := fun hin => by
          have := (HD.out.has _ HW.out).2 hin
          rw [hh] at this
          cases this
        cases rz
        · have HNZ : Hid (partL C ≠ [0, 0, 0]) := fun e => by
            have := HRZ.out.2 e
            cases this
          have hszb : Maps.size D1 ≤ n + k := m5.size_le
          have HWF : Hid ((Lit.int .i64 (Maps.size D1 : Int)).wf = true) := WalkArith.wf_i64 (by omega)
          go_wp2_with (first | (at_len; refine wpList_len_own _ rfl (.tmp 20) 198 rfl KT ET Tryz.underlying198 (plainElem Tryz.prog ET) B _ D1 rfl m5 ?_) | (at_lookup; refine wpList_lookup_own_ok_int _ rfl (.tmp 23) (.tmp 24) 198 rfl KT ET .i64 law3 Tryz.underlying198 Tryz.underlying3 (zeroE _) B _ D1 rfl m5 _ _ rfl HKEY.out ?_; intro cq hatq hwq) | (at_mapUpdate; refine wpList_mapUpdate_own _ rfl (.tmp 35) (.tmp 36) (.tmp 37) 198 rfl KT ET law3 Tryz.underlying198 (plainElem Tryz.prog ET) B _ D1 rfl m5 (by unfold maxLen; omega) _ _ _ rfl rfl HKEY.out (.lit (.int .i64 (Maps.size D1))) [] (plainElem_int Tryz.underlying3 HWF.out) ?_; intro w6 hown6 hgrow6))
          have HD6 : Hid (MapIs (D1.put (kP (partL C)) (.lit (.int .i64 (Maps.size D1 : Int)))) (guardsP ps (fs.take (k + 1)))) := by
            have := HD.out.put (m5.tidy law3) HW.out HNI.out
            rw [HSZ.out, HS.out, addP, if_neg (by rintro (h | h); exact HNI.out h; exact HNZ.out h)]
            exact this
          have T6 := T5.trans (touch_grown hgrow6)
          have m6 : OwnM w6 B (n + (k + 1)) _ := hown6
          clear m5 T5 hown6 hgrow6
          go_wp2
          go_roundw
          case rel => exact ⟨k + 1, _, by omega, by go_num, T6, m6, HD6.out⟩
          case measure => simp [intOf]; omega
        · have HD6 : Hid (MapIs D1 (guardsP ps (fs.take (k + 1)))) := by
            have e : partL C = [0, 0, 0] := HRZ.out.1 rfl
            show MapIs _ _
            rw [HS.out, addP_zero e]
            exact HD.out
          have m6 : OwnM w5 B (n + (k + 1)) D1 := m5.mono (by omega)
          go_wp2_with (first | (at_len; refine wpList_len_own _ rfl (.tmp 20) 198 rfl KT ET Tryz.underlying198 (plainElem Tryz.prog ET) B _ D1 rfl m5 ?_) | (at_lookup; refine wpList_lookup_own_ok_int _ rfl (.tmp 23) (.tmp 24) 198 rfl KT ET .i64 law3 Tryz.underlying198 Tryz.underlying3 (zeroE _) B _ D1 rfl m5 _ _ rfl HKEY.out ?_; intro cq hatq hwq))
          go_roundw
          case rel => exact ⟨k + 1, D1, by omega, by go_num, T5, m6, HD6.out⟩
          case measure => simp [intOf]; omega
      · have HD6 : Hid (MapIs D1 (guardsP ps (fs.take (k + 1)))) := by
          have e : partL C ∈ qs := (HD.out.has _ HW.out).1 hh
          show MapIs _ _
          rw [HS.out, addP, if_pos (.inl e)]
          exact HD.out
        have m6 : OwnM w5 B (n + (k + 1)) D1 := m5.mono (by omega)
        go_wp2_with (first | (at_len; refine wpList_len_own _ rfl (.tmp 20) 198 rfl KT ET Tryz.underlying198 (plainElem Tryz.prog ET) B _ D1 rfl m5 ?_) | (at_lookup; refine wpList_lookup_own_ok_int _ rfl (.tmp 23) (.tmp 24) 198 rfl KT ET .i64 law3 Tryz.underlying198 Tryz.underlying3 (zeroE _) B _ D1 rfl m5 _ _ rfl HKEY.out ?_; intro cq hatq hwq))
        go_roundw
        case rel => exact ⟨k + 1, D1, by omega, by go_num, T5, m6, HD6.out⟩
        case measure => simp [intOf]; omega
    · obtain rfl : k = N := by omega
      have HE : Hid (MapIs D1 (guardsP ps fs)) := by
        have := HD.out
        rw [List.take_of_length_le (by rw [HN.out]; exact Nat.le_refl _)] at this
        exact this
      clear HD
      go_wp2
      go_end0
      exact ⟨⟨_, rfl⟩, t, D1, m, HE.out⟩

end Go.Proofs.YtacjjhfbnbmnlaaGreatDoor
