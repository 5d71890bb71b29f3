/-
  Lemmas that the claim's last text rests on: MapQ, MapR, Both, BoolS, CatPW, CatFI, IntSM, CatL, Trt, TrtW, Plan, CatPL, CatFL, OpenR.
-/
import Derived.Test.YtemcinobgdphnaaJCatMoreD
import Derived.Lib.SlBuf
import Derived.Laws.IdiomCopy
import Derived.Test.YtemcinobgdphnaaJCatMoreA
import Derived.Deep.AppendLies
import Derived.Maps.OwnIn
import Derived.Test.YtemcinobgdphnaaForms
import Derived.Test.YtemcinobgdphnaaOpen
import Derived.Test.YtemcinobgdphnaaIntSS
import Derived.Test.YtemcinobgdphnaaOpenS
namespace Go.Proofs.Ytemcinobgdphnaa
open Go.RowKit Go.Deep
set_option linter.unusedVariables false
set_option maxRecDepth 100000

abbrev ET : TypeId := 3
/-- The map of the parts' places. -/
abbrev OwnM (W : World) (B n : Nat) (D : DataW Unit) : Prop := W.ownsMap Try.prog KT (plainElem Try.prog ET) B n D
theorem OwnM.no {W : World} {B n : Nat} {D : DataW Unit} (h : OwnM W B n D) : ∀ o, W.cell? ⟨B, o, none⟩ = none := fun o => by
  obtain ⟨es, clock, hb, _⟩ := h
  simp [World.cell?, hb]
theorem FormsAt.pastM {W W' : World} {B n : Nat} {D : DataW Unit} {a : Option Addr} {fs : List Frm} (h : FormsAt W a fs) (m : OwnM W B n D) (t : Touch (fun z => z = B) W W') : FormsAt W' a fs :=
  h.past (fun o v hv => by rw [m.no o] at hv; cases hv) t
theorem touch_grownQ {W W' : World} {B : Nat} (h : W.grownBy W' (some B)) : Touch (fun z => z = B) W W' := ⟨h.os, h.tape, h.output, h.size, fun z hz hn => h.block z hz (fun e => hn (by simpa using e))⟩
theorem OwnM.below {W W' : World} {B n : Nat} {D : DataW Unit} (h : OwnM W B n D) (b : Below W.heap.size W W') : OwnM W' B n D := by
  obtain ⟨es, clock, hb, r⟩ := h
  exact ⟨es, clock, (b.block B (lt_of_block hb)).trans hb, r⟩
theorem OwnM.touch {S : Nat → Prop} {W W' : World} {B n : Nat} {D : DataW Unit} (h : OwnM W B n D) (t : Touch S W W') (hn : ¬ S B) : OwnM W' B n D := by
  obtain ⟨es, clock, hb, r⟩ := h
  exact ⟨es, clock, (t.block B (lt_of_block hb) hn).trans hb, r⟩
theorem zeroE (w : World) : (zeroValue ET).run Try.prog w = .ok (.int .i64 0) w := by kernel_rfl
theorem three_set {W : World} {P : Nat} {vs : List Value} {t : TypeId} (h : Cel W P vs t) (hl : vs.length = 3) (x y z : Value) : Cel (W.setCells P 0 [x, y, z]) P [x, y, z] t ∧ Touch (fun k => k = P) W (W.setCells P 0 [x, y, z]) := by
  simp only [World.setCells]
  refine ⟨?_, (((Touch.refl (fun k => k = P) W).setCell rfl _).setCell rfl _).setCell rfl _⟩
  have := ((h.set 0 x).set 1 y).set 2 z
  match vs, hl with
  | [a, b, c], _ => exact this

theorem eq3 {p : List Int} (hp : wfP p) (w : World) : ∃ r : Bool, (Op.equalIn 10000 KT (kV (p[0]?.getD 0) (p[1]?.getD 0) (p[2]?.getD 0)) (kV 0 0 0)).run Try.prog w = .ok r w ∧ (r = true ↔ p = [0, 0, 0]) := by
  have h0 : wfP [0, 0, 0] := ⟨rfl, fun i hi => by
    match i, hi with
    | 0, _ => rfl
    | 1, _ => rfl
    | 2, _ => rfl⟩
  obtain ⟨r, h1, h2⟩ := run_equal_deep w (m := 2) (by omega) (arr3.at 0) arr3.wide (keyOf_P hp) (keyOf_P h0)
  exact ⟨r, h1, h2.trans ⟨fun h => kP_inj hp h0 h, fun h => by rw [h]⟩⟩

set_option maxHeartbeats 3200000 in
theorem iput_any (B n : Nat) (D : DataW Unit) (ps : List (List Int)) (ad : Option Addr) (N cap : Nat) (fs : List Frm) (w : World) (hm : OwnM w B n D) (hD : MapIs D ps) (hn : n ≤ 1000000000) (hN : fs.length = N) (hF : FormsAt w ad fs) (hfit : ∀ k, k < N → fitX 10000000 (fs[k]?.getD ([], [], 0))) (hN1 : N ≤ 1048576) :
    Calls Try.prog 48 #[.map (some B), .slice ad N cap] w fun e w' => (∃ v, e = .returned v) ∧ Touch (fun z => z = B) w w' ∧ ∃ D', OwnM w' B (n + N) D' ∧ MapIs D' (guardsP ps fs) := by
  have HN : Hid (fs.length = N) := hN
  have HF : Hid (FormsAt w ad fs) := hF
  have HFT : Hid _ := hfit
  have HM : Hid (OwnM w B n D) := hm
  have HD : Hid (MapIs D ps) := hD
  have hBw : B < w.heap.size := hm.lt
  clear hN hF hfit hm hD
  go_enter Try.func48, Try.ntmps48
  go_wp2_with fail
  go_loopw [5, 6, 7, 8, 9, 12] (fun _ _ _ _ _ i wr => ∃ (k : Nat) (D : DataW Unit), k ≤ N ∧ i = .int .i64 k ∧ Touch (fun z => z = B) w wr ∧ OwnM wr B (n + k) D ∧ MapIs D (guardsP ps (fs.take k))) (fun _ _ _ _ _ i _ => N - (intOf i).toNat)
  case atStart => exact ⟨0, D, Nat.zero_le _, rfl, Touch.refl _ _, HM.out, HD.out⟩
  case round =>
    clear HD
    obtain ⟨k, D1, hk, rfl, t, m, d⟩ := hrel
    have HD : Hid (MapIs D1 (guardsP ps (fs.take k))) := d
    clear d
    by_cases hlt : k < N
    · have hlt' : (k : Int) < N := by omega
      have hkl : k < fs.length := by rw [HN.out]; exact hlt
      have HS : Hid (guardsP ps (fs.take (k + 1)) = addPb (guardsP ps (fs.take k)) (partL (fs[k]?.getD ([], [], 0)).1)) := guardsP_snoc ps fs k hkl
      have HW : Hid (wfP (partL (fs[k]?.getD ([], [], 0)).1)) := wfP_part (HFT.out k hlt).1
      obtain ⟨b, off, rfl, a', c', ca, cc, c0, c1, c2, iC, iD⟩ := (HF.out.pastM HM.out t) k hkl
      generalize (fs[k]?.getD ([], [], 0)).1 = C at *
      generalize (fs[k]?.getD ([], [], 0)).2.2 = kz at *
      generalize guardsP ps (fs.take k) = qs at *
      have lB : B < wr.heap.size := m.lt
      have b1 : Below wr.heap.size wr ((wr.alloc (.cells #[.slice a' 3 ca, .slice c' 2 cc, .int .i64 kz] 34)).alloc (.cells #[.int .i64 0, .int .i64 0, .int .i64 0] KT)) := ((Below.refl _ _).alloc (Nat.le_refl _) _).alloc (by simp) _
      have fb := (Cel.new wr [.slice a' 3 ca, .slice c' 2 cc, .int .i64 kz] 34).alloc (.cells #[.int .i64 0, .int .i64 0, .int .i64 0] KT)
      have pb := Cel.new (wr.alloc (.cells #[.slice a' 3 ca, .slice c' 2 cc, .int .i64 kz] 34)) [.int .i64 0, .int .i64 0, .int .i64 0] KT
      rw [World.size_alloc] at pb
      go_upto_region 4 with fail
      obtain ⟨Z, hZ⟩ : ∃ Z, Z = (wr.alloc (.cells #[.slice a' 3 ca, .slice c' 2 cc, .int .i64 kz] 34)).alloc (.cells #[.int .i64 0, .int .i64 0, .int .i64 0] KT) := ⟨_, rfl⟩
      rw [← hZ] at b1 fb pb ⊢
      clear hZ c0 c1 c2
      have KP : Hid (∀ W, Below Z.heap.size Z W → (W.cell? ⟨wr.heap.size, 0, none⟩ = some (.slice a' 3 ca) ∧ W.cell? ⟨wr.heap.size, 1, none⟩ = some (.slice c' 2 cc) ∧ W.cell? ⟨wr.heap.size, 2, none⟩ = some (.int .i64 kz))) := fun W hW => ⟨(fb.below hW).cell 0, (fb.below hW).cell 1, (fb.below hW).cell 2⟩
      have e0 : Below Z.heap.size Z Z.drew := (Below.refl _ _).drew
      have hSS := And.intro (KP.out _ e0) (True.intro)
      have lP := pb.lt
      refine wp_region_ends (fun w' => w'.cell? ⟨wr.heap.size, 0, none⟩ = some (.slice a' 3 ca) ∧ w'.cell? ⟨wr.heap.size, 1, none⟩ = some (.slice c' 2 cc) ∧ w'.cell? ⟨wr.heap.size, 2, none⟩ = some (.int .i64 kz)) (fun _ => True) 3 (by kernel_rfl) ?_
      refine wpAnyE_take0 (i := 0) (v := ?av0) rfl (by kernel_rfl) (by kernel_rfl) (by kernel_rfl) (by decide) (fun _ _ _ h => h) (Or.inl ⟨by rfl, ?ahy0⟩) hSS ?_
      case ahy0 => (intro wz hSw; (try dsimp only at hSw); go_simp; try (with_reducible rfl))
      refine wpAnyE_take0 (i := 1) (v := ?av1) rfl (by kernel_rfl) (by kernel_rfl) (by kernel_rfl) (by decide) (fun _ _ _ h => h) (Or.inl ⟨by rfl, ?ahy1⟩) hSS ?_
      case ahy1 => (intro wz hSw; (try dsimp only at hSw); go_simp; try (with_reducible rfl))
      simp only [Act.put, List.setIfInBounds_toArray, List.set_cons_succ, List.set_cons_zero, List.getElem_toArray, List.getElem_cons_succ, List.getElem_cons_zero]
      clear hSS
      refine wpAnyE_one (i := 2) (by kernel_rfl) rfl (fun K hK => ?_)
      go_simp
      refine (ipart_any _ 3 _ _ 2 _ _ C _ ((iC.below b1).below e0) (by omega)).mono ?_
      rintro ee w4 ⟨rfl, bd4, k4⟩
      have b4 : Below Z.heap.size Z w4 := e0.trans (bd4.mono e0.size)
      have zd : Z.drew.heap.size = Z.heap.size := rfl
      rw [zd] at k4
      (try dsimp only)
      refine hK.out _ _ ⟨KP.out _ b4, fun _ => trivial⟩ ?_
      clear hK K
      have p4 := pb.below b4
      have hp3 : (partL C).length = 3 := HW.out.1
      have hr : (Builtin.copy_ #[26, 26] 3 #[.slice (some ⟨wr.heap.size + 1, 0, none⟩) 3 3, .slice (some ⟨Z.heap.size + 1, 0, none⟩) 3 3]).run Try.prog w4 = .ok (goInt 3) (w4.setCells (wr.heap.size + 1) 0 [.int .i64 ((partL C)[0]?.getD 0), .int .i64 ((partL C)[1]?.getD 0), .int .i64 ((partL C)[2]?.getD 0)]) :=
        run_copy_cells w4 26 26 3 3 (wr.heap.size + 1) 0 3 3 ⟨Z.heap.size + 1, 0, none⟩ 3 3 [.int .i64 ((partL C)[0]?.getD 0), .int .i64 ((partL C)[1]?.getD 0), .int .i64 ((partL C)[2]?.getD 0)] Try.underlying26 (by kernel_rfl) rfl
          (fun j v hv => by
            have hadd : (⟨Z.heap.size + 1, 0, none⟩ : Addr).add j = ⟨Z.heap.size + 1, j, none⟩ := by
              by_cases h0 : j = 0
              · subst h0; simp [Addr.add]
              · simp [Addr.add, h0]
            rw [hadd]
            match j with
            | 0 => simp only [List.getElem?_cons_zero, Option.some.injEq] at hv; subst hv; rw [k4.cell 0 (by omega), List.getD_eq_getElem?_getD]
            | 1 => simp only [List.getElem?_cons_zero, List.getElem?_cons_succ, Option.some.injEq] at hv; subst hv; rw [k4.cell 1 (by omega), List.getD_eq_getElem?_getD]
            | 2 => simp only [List.getElem?_cons_zero, List.getElem?_cons_succ, Option.some.injEq] at hv; subst hv; rw [k4.cell 2 (by omega), List.getD_eq_getElem?_getD]
            | j + 3 => simp at hv)
          (fun j hj => by
            have hj3 : j < 3 := hj
            rw [Nat.zero_add, p4.cell j]
            match j, hj3 with
            | 0, _ => rfl
            | 1, _ => rfl
            | 2, _ => rfl)
          (fun j hj => by rw [Nat.zero_add]; exact p4.free j)
          (by simp [Value.oneCell'])
      obtain ⟨p5, t5⟩ := three_set p4 rfl (.int .i64 ((partL C)[0]?.getD 0)) (.int .i64 ((partL C)[1]?.getD 0)) (.int .i64 ((partL C)[2]?.getD 0))
      have s4 := b4.size
      have s1 := b1.size
      have m5 : OwnM (w4.setCells (wr.heap.size + 1) 0 [.int .i64 ((partL C)[0]?.getD 0), .int .i64 ((partL C)[1]?.getD 0), .int .i64 ((partL C)[2]?.getD 0)]) B (n + k) D1 := ((m.below b1).below b4).touch t5 (fun h => by have : B = wr.heap.size + 1 := h; omega)
      have T5 : Touch (fun z => z = B) w (w4.setCells (wr.heap.size + 1) 0 [.int .i64 ((partL C)[0]?.getD 0), .int .i64 ((partL C)[1]?.getD 0), .int .i64 ((partL C)[2]?.getD 0)]) := by
        have tw := t.size
        have tb := (t.trans (Touch.of b1)).trans (Touch.of b4)
        refine ⟨t5.os.trans tb.os, t5.tape.trans tb.tape, t5.output.trans tb.output, Nat.le_trans tb.size t5.size, fun z hz hz2 => ?_⟩
        rw [t5.block z (Nat.lt_of_lt_of_le hz tb.size) (by omega)]
        exact tb.block z hz hz2
      have KP5 : (w4.setCells (wr.heap.size + 1) 0 [.int .i64 ((partL C)[0]?.getD 0), .int .i64 ((partL C)[1]?.getD 0), .int .i64 ((partL C)[2]?.getD 0)]).cell? ⟨wr.heap.size, 0, none⟩ = some (.slice a' 3 ca) ∧ (w4.setCells (wr.heap.size + 1) 0 [.int .i64 ((partL C)[0]?.getD 0), .int .i64 ((partL C)[1]?.getD 0), .int .i64 ((partL C)[2]?.getD 0)]).cell? ⟨wr.heap.size, 1, none⟩ = some (.slice c' 2 cc) ∧ (w4.setCells (wr.heap.size + 1) 0 [.int .i64 ((partL C)[0]?.getD 0), .int .i64 ((partL C)[1]?.getD 0), .int .i64 ((partL C)[2]?.getD 0)]).cell? ⟨wr.heap.size, 2, none⟩ = some (.int .i64 kz) := by
        have := fb.below b4
        have := Cel.touch this t5 (fun h => by have : wr.heap.size = wr.heap.size + 1 := h; omega)
        exact ⟨this.cell 0, this.cell 1, this.cell 2⟩
      refine wpAnyE_one (i := 3) (by kernel_rfl) rfl (fun K hK => ?_)
      rw [if_pos (by kernel_rfl)]
      refine Go.Lib.wp_copy_run w4 (.tmp 16) (.tmp 18) 26 26 rfl (.slice (some ⟨wr.heap.size + 1, 0, none⟩) 3 3) (.slice (some ⟨Z.heap.size + 1, 0, none⟩) 3 3) (by rfl) (by rfl) hr ?_
      (try dsimp only)
      refine hK.out _ _ ⟨KP5, fun h => absurd (show true = false from h) (by decide)⟩ ?_
      clear hK K
      refine wpAnyE_done (by kernel_rfl) ?_ _
      generalize w4.setCells (wr.heap.size + 1) 0 [.int .i64 ((partL C)[0]?.getD 0), .int .i64 ((partL C)[1]?.getD 0), .int .i64 ((partL C)[2]?.getD 0)] = w5 at *
      clear KP5 KP hr p4 t5 k4 bd4 b4 pb fb b1 m t iC iD e0 zd
      obtain ⟨g0, g1, g2⟩ : w5.cell? ⟨wr.heap.size + 1, 0, none⟩ = some (.int .i64 ((partL C)[0]?.getD 0)) ∧ w5.cell? ⟨wr.heap.size + 1, 1, none⟩ = some (.int .i64 ((partL C)[1]?.getD 0)) ∧ w5.cell? ⟨wr.heap.size + 1, 2, none⟩ = some (.int .i64 ((partL C)[2]?.getD 0)) := ⟨p5.cell 0, p5.cell 1, p5.cell 2⟩
      obtain ⟨rz, hrz, hrz2⟩ := eq3 HW.out w5
      have HRZ : Hid (rz = true ↔ partL C = [0, 0, 0]) := hrz2
      clear hrz2
      have HKEY : Hid (keyOf Try.prog KT (kV ((partL C)[0]?.getD 0) ((partL C)[1]?.getD 0) ((partL C)[2]?.getD 0)) = some (kP (partL C))) := keyOf_P HW.out
      have HP3 : Hid (partL C = [(partL C)[0]?.getD 0, (partL C)[1]?.getD 0, (partL C)[2]?.getD 0]) := three_eq hp3
      generalize hx0 : (partL C)[0]?.getD 0 = x0 at *
      generalize hx1 : (partL C)[1]?.getD 0 = x1 at *
      generalize hx2 : (partL C)[2]?.getD 0 = x2 at *
      clear hx0 hx1 hx2 hp3
      have HSZ : Hid (Maps.size D1 = qs.length) := HD.out.sz
      cases hh : Maps.has D1 (kP (partL C))
      · have HNI : Hid (partL C ∉ qs) := fun hin => by
          have := (HD.out.has _ HW.out).2 hin
          rw [hh] at this
          cases this
        cases rz
        · have HNZ : Hid (partL C ≠ [0, 0, 0]) := fun e => by
            have := HRZ.out.2 e
            cases this
          have hszb : Maps.size D1 ≤ n + k := m5.size_le
          have HWF : Hid ((Lit.int .i64 (Maps.size D1 : Int)).wf = true) := WalkArith.wf_i64 (by omega)
          go_wp2_with (first | (at_len; refine wpList_len_own _ rfl (.tmp 20) 73 rfl KT ET Try.underlying73 (plainElem Try.prog ET) B _ D1 rfl m5 ?_) | (at_lookup; refine wpList_lookup_own_ok_int _ rfl (.tmp 23) (.tmp 24) 73 rfl KT ET .i64 law3 Try.underlying73 Try.underlying3 (zeroE _) B _ D1 rfl m5 _ _ rfl HKEY.out ?_; intro cq hatq hwq) | (at_mapUpdate; refine wpList_mapUpdate_own _ rfl (.tmp 35) (.tmp 36) (.tmp 37) 73 rfl KT ET law3 Try.underlying73 (plainElem Try.prog ET) B _ D1 rfl m5 (by unfold maxLen; omega) _ _ _ rfl rfl HKEY.out (.lit (.int .i64 (Maps.size D1))) [] (plainElem_int Try.underlying3 HWF.out) ?_; intro w6 hown6 hgrow6))
          have HD6 : Hid (MapIs (D1.put (kP (partL C)) (.lit (.int .i64 (Maps.size D1 : Int)))) (guardsP ps (fs.take (k + 1)))) := by
            have := HD.out.put (m5.tidy law3) HW.out HNI.out
            rw [HSZ.out, HS.out, addPb, if_neg (by rintro (h | h); exact HNI.out h; exact HNZ.out h)]
            exact this
          have T6 := T5.trans (touch_grownQ hgrow6)
          have m6 : OwnM w6 B (n + (k + 1)) _ := hown6
          clear m5 T5 hown6 hgrow6
          go_wp2
          go_roundw
          case rel => exact ⟨k + 1, _, by omega, by go_num, T6, m6, HD6.out⟩
          case measure => simp [intOf]; omega
        · have HD6 : Hid (MapIs D1 (guardsP ps (fs.take (k + 1)))) := by
            have e : partL C = [0, 0, 0] := HRZ.out.1 rfl
            show MapIs _ _
            rw [HS.out, addP_zero e]
            exact HD.out
          have m6 : OwnM w5 B (n + (k + 1)) D1 := m5.mono (by omega)
          go_wp2_with (first | (at_len; refine wpList_len_own _ rfl (.tmp 20) 73 rfl KT ET Try.underlying73 (plainElem Try.prog ET) B _ D1 rfl m5 ?_) | (at_lookup; refine wpList_lookup_own_ok_int _ rfl (.tmp 23) (.tmp 24) 73 rfl KT ET .i64 law3 Try.underlying73 Try.underlying3 (zeroE _) B _ D1 rfl m5 _ _ rfl HKEY.out ?_; intro cq hatq hwq))
          go_roundw
          case rel => exact ⟨k + 1, D1, by omega, by go_num, T5, m6, HD6.out⟩
          case measure => simp [intOf]; omega
      · have HD6 : Hid (MapIs D1 (guardsP ps (fs.take (k + 1)))) := by
          have e : partL C ∈ qs := (HD.out.has _ HW.out).1 hh
          show MapIs _ _
          rw [HS.out, addPb, if_pos (.inl e)]
          exact HD.out
        have m6 : OwnM w5 B (n + (k + 1)) D1 := m5.mono (by omega)
        go_wp2_with (first | (at_len; refine wpList_len_own _ rfl (.tmp 20) 73 rfl KT ET Try.underlying73 (plainElem Try.prog ET) B _ D1 rfl m5 ?_) | (at_lookup; refine wpList_lookup_own_ok_int _ rfl (.tmp 23) (.tmp 24) 73 rfl KT ET .i64 law3 Try.underlying73 Try.underlying3 (zeroE _) B _ D1 rfl m5 _ _ rfl HKEY.out ?_; intro cq hatq hwq))
        go_roundw
        case rel => exact ⟨k + 1, D1, by omega, by go_num, T5, m6, HD6.out⟩
        case measure => simp [intOf]; omega
    · obtain rfl : k = N := by omega
      have HE : Hid (MapIs D1 (guardsP ps fs)) := by
        have := HD.out
        rw [List.take_of_length_le (by rw [HN.out]; exact Nat.le_refl _)] at this
        exact this
      clear HD
      go_wp2
      go_end0
      exact ⟨⟨_, rfl⟩, t, D1, m, HE.out⟩

end Go.Proofs.Ytemcinobgdphnaa
namespace Go.Proofs.Ytemcinobgdphnaa
open Go.RowKit Go.Deep
set_option linter.unusedVariables false
set_option maxRecDepth 100000

theorem grown_of_touch {W W' : World} {B : Nat} (h : Touch (fun z => z = B) W W') : W.grownBy W' (some B) := ⟨h.os, h.tape, h.output, h.size, fun z hz hn => h.block z hz (fun e => hn (by rw [e]))⟩
theorem Try.infoKey : (Try.prog.info? KT).map (fun i => (i.zero, i.size, i.bytes)) = some (some (.agg #[.int .i64 0, .int .i64 0, .int .i64 0]), 3, 24) := by kernel_rfl
/-- The places of block L hold parts. -/
def KeyAt (cur : List Value) (j : Nat) (p : List Int) : Prop := cur[j * 3]? = some (.int .i64 (p[0]?.getD 0)) ∧ cur[j * 3 + 1]? = some (.int .i64 (p[1]?.getD 0)) ∧ cur[j * 3 + 2]? = some (.int .i64 (p[2]?.getD 0))
theorem KeyAt.set_same {cur : List Value} {j : Nat} (p : List Int) (h : j * 3 + 2 < cur.length) : KeyAt (((cur.set (j * 3) (.int .i64 (p[0]?.getD 0))).set (j * 3 + 1) (.int .i64 (p[1]?.getD 0))).set (j * 3 + 2) (.int .i64 (p[2]?.getD 0))) j p := by
  refine ⟨?_, ?_, ?_⟩
  · rw [List.getElem?_set_ne (by omega), List.getElem?_set_ne (by omega), List.getElem?_set_self (by omega)]
  · rw [List.getElem?_set_ne (by omega), List.getElem?_set_self (by rw [List.length_set]; omega)]
  · rw [List.getElem?_set_self (by rw [List.length_set, List.length_set]; omega)]
theorem KeyAt.set_other {cur : List Value} {i j : Nat} {q : List Int} (h : KeyAt cur i q) (hne : i ≠ j) (x y z : Value) : KeyAt (((cur.set (j * 3) x).set (j * 3 + 1) y).set (j * 3 + 2) z) i q := by
  refine ⟨?_, ?_, ?_⟩
  · rw [List.getElem?_set_ne (by omega), List.getElem?_set_ne (by omega), List.getElem?_set_ne (by omega)]; exact h.1
  · rw [List.getElem?_set_ne (by omega), List.getElem?_set_ne (by omega), List.getElem?_set_ne (by omega)]; exact h.2.1
  · rw [List.getElem?_set_ne (by omega), List.getElem?_set_ne (by omega), List.getElem?_set_ne (by omega)]; exact h.2.2
theorem MapIs.idx {D : DataW Unit} {ps : List (List Int)} (h : MapIs D ps) {p : List Int} (hp : wfP p) (hh : Maps.has D (kP p) = true) {c : Int} (hc : ∀ z, D.atKey (kP p) z = .lit (.int .i64 c)) : ∃ j, j < ps.length ∧ ps[j]?.getD [] = p ∧ c = j := by
  obtain ⟨j, hj, e⟩ := List.getElem_of_mem ((h.has p hp).1 hh)
  have e' : ps[j]?.getD [] = p := by rw [List.getElem?_eq_getElem hj]; exact e
  have h1 := h.ix j hj (.lit (.int .i64 0))
  rw [e', hc] at h1
  simp only [DataW.lit.injEq, Lit.int.injEq, true_and] at h1
  exact ⟨j, hj, e', h1⟩
theorem MapIs.one {D : DataW Unit} {ps : List (List Int)} (h : MapIs D ps) {i j : Nat} (hi : i < ps.length) (hj : j < ps.length) (e : kP (ps[i]?.getD []) = kP (ps[j]?.getD [])) : i = j := by
  have h1 := h.ix i hi (.lit (.int .i64 0))
  have h2 := h.ix j hj (.lit (.int .i64 0))
  rw [e, h2] at h1
  simp only [DataW.lit.injEq, Lit.int.injEq, true_and] at h1
  omega

set_option maxHeartbeats 3200000 in
theorem iorder_any (B n : Nat) (D : DataW Unit) (ps : List (List Int)) (w : World) (hm : OwnM w B n D) (hD : MapIs D ps) (hl : ps.length ≤ 1048576) :
    Calls Try.prog 51 #[.map (some B)] w fun e w' => ∃ L cur, e = .returned (.slice (some ⟨L, 0, none⟩) ps.length ps.length) ∧ Below w.heap.size w w' ∧ w.heap.size ≤ L ∧ Cel w' L cur KT ∧ ∀ j, j < ps.length → KeyAt cur j (ps[j]?.getD []) := by
  have HD : Hid (MapIs D ps) := hD
  have hsz : Maps.size D = ps.length := hD.sz
  have HSZ : Hid (Maps.size D = ps.length) := hsz
  obtain ⟨N, hN⟩ : ∃ N, N = Maps.size D := ⟨_, rfl⟩
  have HN : Hid (N = Maps.size D) := hN
  have hNl : N ≤ 1048576 := by omega
  have lB := hm.lt
  obtain ⟨i0, hi, hz0, hz1, hz2⟩ := info_parts Try.infoKey
  obtain ⟨w2, hrun, o2, g2⟩ := run_make_full (P := Try.prog) (w := w) w.heap.size 79 KT i0 (.agg #[.int .i64 0, .int .i64 0, .int .i64 0]) 3 Try.underlying79 hi hz0 hz1 .i64 .i64 N (by rw [hz2]; omega) (by unfold maxLen; omega) (Nat.le_refl _)
  have hrun' : (Instr.makeSlice 79 (.int .i64 (N : Int)) (.int .i64 (N : Int))).run Try.prog w = .ok (.slice (some ⟨w.heap.size, 0, none⟩) N N) w2 := hrun
  have b2 : Below w.heap.size w w2 := (Below.refl _ _).grown g2 (Nat.le_refl _) (by simp)
  obtain ⟨cur, hc2, hl2⟩ : ∃ cur : List Value, Cel w2 w.heap.size cur KT ∧ N * 3 ≤ cur.length := by
    rcases o2.2 with ⟨e, _⟩ | ⟨g, cp, cur, hv, hg, hh, hl, hc, hs, ht⟩
    · cases e
    · cases hv
      exact ⟨cur.toList, by unfold Cel; simpa using hh, by rw [Array.length_toList]; omega⟩
  have m2 : OwnM w2 B n D := OwnM.below hm b2
  have OwnM0 : Hid (OwnM w B n D) := hm
  clear hrun o2 g2 hm hD hsz hN

  go_enter Try.func51, Try.ntmps51
  go_wp2_with (first | (at_len; refine wpList_len_own _ rfl (.tmp 6) 72 rfl KT ET Try.underlying72 (plainElem Try.prog ET) B _ D rfl (OwnM0.out) ?_; rw [← HN.out]) | (at_range; refine wpList_range_own _ rfl (.tmp 9) 72 rfl KT ET law3 Try.underlying72 (plainElem Try.prog ET) B n D rfl m2 ?_; intro w3 hrg3 hg3 hs3))
  go_frame
  have b3 : Below w2.heap.size w2 w3 := (Below.refl _ _).grown hg3 (Nat.le_refl _) (by simp)
  have c3 := hc2.below b3
  have B3 := b2.trans (b3.mono b2.size)
  obtain ⟨L, hL⟩ : ∃ L, L = w.heap.size := ⟨_, rfl⟩
  rw [← hL] at c3 ⊢
  have lL := c3.lt
  have lL0 : w.heap.size ≤ L := by omega
  have s2 := b2.size
  have lr : L < w2.heap.size := by rw [hL]; exact hc2.lt
  obtain ⟨r, hr⟩ : ∃ r, r = w2.heap.size := ⟨_, rfl⟩
  rw [← hr] at hrg3 ⊢
  have lr' : L < r := by omega
  have lB' : B < L := by omega
  clear hrun' hc2 hg3 hs3 m2 b2 b3 hL hr
  go_loopw [4, 5] (fun _ _ wr => ∃ (left : Lit → Bool) (cnt : Nat) (cur : List Value), wr.ranges Try.prog KT (plainElem Try.prog ET) B r n D left cnt ∧ (∀ kl, left kl = true → Maps.has D kl = true) ∧ Cel wr L cur KT ∧ N * 3 ≤ cur.length ∧ (∀ j, j < ps.length → left (kP (ps[j]?.getD [])) = false → KeyAt cur j (ps[j]?.getD [])) ∧ Below w.heap.size w wr) (fun _ _ wr => wr.rangeLeft B r)
  case atStart =>
    refine ⟨Maps.has D, Maps.size D, cur, hrg3, fun _ h => h, c3, hl2, fun j hj h => ?_, B3⟩
    have hm : ps[j]?.getD [] ∈ ps := by rw [List.getElem?_eq_getElem hj]; exact List.getElem_mem hj
    rw [(HD.out.has _ (HD.out.wf _ hm)).2 hm] at h
    cases h
  case round =>
    clear hrg3 c3 hl2 B3 lL
    clear cur
    obtain ⟨left, cnt, cur, hrg, hsub, hc, hlc, hat, hb⟩ := hrel
    have HSUB : Hid _ := hsub
    have HAT : Hid (∀ j, j < ps.length → left (kP (ps[j]?.getD [])) = false → KeyAt cur j (ps[j]?.getD [])) := hat
    clear hsub hat
    go_wp2_with (at_next; refine wpList_next_ranges (α := Int × Int × Int) (β := Int) _ rfl (.tmp 10) rfl KT law3 (plainElem Try.prog ET) (fun x => kV x.1 x.2.1 x.2.2) (fun c => .int .i64 c) (fun key kl h => by obtain ⟨a, b, c, e, _⟩ := inv3 h; exact ⟨(a, b, c), e⟩) (fun v y h => by obtain ⟨c, e, _⟩ := plainElem_int_inv Try.underlying3 h; exact ⟨c, e⟩) B r n D left cnt rfl hrg ?_ ?_)
    · intro h0 hl0
      have HE : Hid (∀ j, j < ps.length → KeyAt cur j (ps[j]?.getD [])) := fun j hj => HAT.out j hj (hl0 _)
      have HNP : Hid (N = ps.length) := HN.out.trans HSZ.out
      go_wp2
      go_ret
      exact ⟨L, cur, by rw [← HNP.out]; rfl, hb, lL0, hc, HE.out⟩
    · intro x0 x1 x2 c kl yd yp w4 cnt4 hkey hleft hv hat hrg4 hlt4 hg4 hs4 hen
      (try dsimp only at hkey); (try dsimp only at hv); (try dsimp only at hen)
      obtain ⟨j, hj, hpj, hcj⟩ : ∃ j, j < ps.length ∧ ps[j]?.getD [] = [x0, x1, x2] ∧ c = (j : Int) := by
        obtain ⟨a, b, c', e, ek, wa, wb, wc⟩ := inv3 hkey
        simp only [kV, Value.agg.injEq, Array.mk.injEq, List.cons.injEq, Value.int.injEq, true_and, and_true] at e
        obtain ⟨rfl, rfl, rfl⟩ := e
        have hp : wfP [x0, x1, x2] := ⟨rfl, fun i hi => by
          match i, hi with
          | 0, _ => exact wa
          | 1, _ => exact wb
          | 2, _ => exact wc⟩
        obtain ⟨c2, e2, e3, _⟩ := plainElem_int_inv Try.underlying3 hv
        cases e2
        simp only [Prod.mk.injEq] at e3
        subst ek
        exact HD.out.idx hp (HSUB.out _ hleft) (fun z => by rw [show kP [x0, x1, x2] = kL x0 x1 x2 from rfl, hat z, e3.1])
      have HKL : Hid (kl = kP (ps[j]?.getD [])) := by
        show kl = _
        obtain ⟨a, b, c', e, ek, _⟩ := inv3 hkey
        simp only [kV, Value.agg.injEq, Array.mk.injEq, List.cons.injEq, Value.int.injEq, true_and, and_true] at e
        obtain ⟨rfl, rfl, rfl⟩ := e
        rw [hpj]; exact ek
      subst hcj
      have hjN : (j : Int) < N := by have h1 := HN.out; have h2 := HSZ.out; omega
      have hj0 : ¬ ((j : Int) < 0) := by omega
      have c4 : Cel w4 L cur KT := hc.touch (touch_grownQ hg4) (fun h => by have : L = r := h; omega)
      have B4 : Below w.heap.size w w4 := hb.trans ((touch_grownQ hg4).below hb.size (fun k hk => by have : k = r := hk; omega))
      have A4 : Below w4.heap.size w4 (w4.alloc (.cells #[.int .i64 x0, .int .i64 x1, .int .i64 x2] KT)) := (Below.refl _ _).alloc (Nat.le_refl _) _
      have rg5 := hrg4.alloc (.cells #[.int .i64 x0, .int .i64 x1, .int .i64 x2] KT)
      have c5 := c4.alloc (.cells #[.int .i64 x0, .int .i64 x1, .int .i64 x2] KT)
      have B5 := B4.trans (A4.mono B4.size)
      have hlj : j * 3 + 2 < cur.length := by have h1 := HN.out; have h2 := HSZ.out; omega
      have hleft' := hrg.left_eq
      have HLE : Hid (wr.rangeLeft B r = cnt) := hleft'
      have kb := Cel.new w4 [.int .i64 x0, .int .i64 x1, .int .i64 x2] KT
      clear hc hb hrg hg4 hs4 hrg4 c4 B4 A4 hleft'
      obtain ⟨q0, q1, q2⟩ : (w4.alloc (.cells #[.int .i64 x0, .int .i64 x1, .int .i64 x2] KT)).cell? ⟨w4.heap.size, 0, none⟩ = some (.int .i64 x0) ∧ (w4.alloc (.cells #[.int .i64 x0, .int .i64 x1, .int .i64 x2] KT)).cell? ⟨w4.heap.size, 1, none⟩ = some (.int .i64 x1) ∧ (w4.alloc (.cells #[.int .i64 x0, .int .i64 x1, .int .i64 x2] KT)).cell? ⟨w4.heap.size, 2, none⟩ = some (.int .i64 x2) := ⟨kb.cell 0, kb.cell 1, kb.cell 2⟩
      have lLw : L < (w4.alloc (.cells #[.int .i64 x0, .int .i64 x1, .int .i64 x2] KT)).heap.size := c5.lt
      obtain ⟨y0, y1, y2⟩ : (∃ v, (w4.alloc (.cells #[.int .i64 x0, .int .i64 x1, .int .i64 x2] KT)).cell? ⟨L, j * 3, none⟩ = some v) ∧ (∃ v, (w4.alloc (.cells #[.int .i64 x0, .int .i64 x1, .int .i64 x2] KT)).cell? ⟨L, j * 3 + 1, none⟩ = some v) ∧ (∃ v, (w4.alloc (.cells #[.int .i64 x0, .int .i64 x1, .int .i64 x2] KT)).cell? ⟨L, j * 3 + 2, none⟩ = some v) := ⟨⟨_, (c5.cell _).trans (List.getElem?_eq_getElem (by omega))⟩, ⟨_, (c5.cell _).trans (List.getElem?_eq_getElem (by omega))⟩, ⟨_, (c5.cell _).trans (List.getElem?_eq_getElem (by omega))⟩⟩
      obtain ⟨v0, y0⟩ := y0
      obtain ⟨v1, y1⟩ := y1
      obtain ⟨v2, y2⟩ := y2
      have z0 := c5.free (j * 3)
      have z1 := c5.free (j * 3 + 1)
      have z2 := c5.free (j * 3 + 2)
      have T6 : Touch (fun z => z = L) (w4.alloc (.cells #[.int .i64 x0, .int .i64 x1, .int .i64 x2] KT)) ((((w4.alloc (.cells #[.int .i64 x0, .int .i64 x1, .int .i64 x2] KT)).setCell ⟨L, j * 3, none⟩ (.int .i64 x0)).setCell ⟨L, j * 3 + 1, none⟩ (.int .i64 x1)).setCell ⟨L, j * 3 + 2, none⟩ (.int .i64 x2)) := Touch.setCell (S := fun z => z = L) (Touch.setCell (S := fun z => z = L) (Touch.setCell (S := fun z => z = L) (Touch.refl _ _) rfl _) rfl _) rfl _
      have c6 := ((c5.set (j * 3) (.int .i64 x0)).set (j * 3 + 1) (.int .i64 x1)).set (j * 3 + 2) (.int .i64 x2)
      have rg6 := rg5.kept (grown_of_touch T6) (by simp; omega) (by simp; omega)
      have B6 := B5.trans (T6.below B5.size (fun k hk => by have : k = L := hk; omega))
      have HAT6 : Hid (∀ i, i < ps.length → (left (kP (ps[i]?.getD [])) && !(kP (ps[i]?.getD [])).sameKey kl) = false → KeyAt (((cur.set (j * 3) (.int .i64 x0)).set (j * 3 + 1) (.int .i64 x1)).set (j * 3 + 2) (.int .i64 x2)) i (ps[i]?.getD [])) := fun i hi hf => by
        by_cases e : i = j
        · subst e
          rw [hpj]
          exact KeyAt.set_same [x0, x1, x2] hlj
        · refine KeyAt.set_other (HAT.out i hi ?_) e _ _ _
          cases hlf : left (kP (ps[i]?.getD [])) with
          | false => rfl
          | true =>
            rw [hlf] at hf
            simp only [Bool.true_and, Bool.not_eq_false'] at hf
            have := WideAt.sameKey_eq hf
            rw [HKL.out] at this
            exact absurd (HD.out.one hi hj this) e
      have HSUB6 : Hid (∀ z, (left z && !z.sameKey kl) = true → Maps.has D z = true) := fun z hz => by
        simp only [Bool.and_eq_true] at hz
        exact HSUB.out z hz.1
      have HLC : Hid (N * 3 ≤ (((cur.set (j * 3) (.int .i64 x0)).set (j * 3 + 1) (.int .i64 x1)).set (j * 3 + 2) (.int .i64 x2)).length) := by show _ ≤ _; simpa using hlc
      clear c5 B5 rg5 T6 HKL hpj
      go_wp2
      go_roundw
      case rel => exact ⟨_, cnt4, _, rg6, HSUB6.out, c6, HLC.out, HAT6.out, B6⟩
      case measure => rw [rg6.left_eq, HLE.out]; omega

end Go.Proofs.Ytemcinobgdphnaa
namespace Go.Proofs.Ytemcinobgdphnaa
open Go.RowKit Go.Deep
set_option linter.unusedVariables false
set_option maxRecDepth 100000

theorem oneSl {a : Option Addr} {n c : Nat} : ∀ u ∈ [Value.slice a n c], u.oneCell' = true := fun u hu => by
  simp at hu; subst hu; rfl
theorem field_C (a : Option Addr) (n ca : Nat) (c : Option Addr) (m cc : Nat) (K : Int) (W : World) : (Instr.field 34 (formV a n ca c m cc K) 0).run Try.prog W = .ok (.slice a n ca) W := by kernel_rfl
theorem OwnB.grown {W W' : World} {Gp G : Nat} {f : Nat → Bool} {o : Obj} (h : OwnB W Gp f) (hg : (W.alloc o).grownBy W' (some G)) (hne : Gp ≠ G) : OwnB W' Gp f := by
  obtain ⟨cur, hc, hv⟩ := h
  exact ⟨cur, (hc.alloc o).grew hg (by simpa using fun e => hne e.symm), hv⟩
/-- Rows that were made since n0; they read on whatever becomes of what is older, and of block G. -/
structure JQ (n0 Gr cr G : Nat) (xs : List Value) (rs : List RowM) (W : World) : Prop where
  o : W.ownsRow n0 25 4 (.slice (some ⟨Gr, 0, none⟩) rs.length cr) rs.length xs
  r : RowsOk W (fun k => k < n0 ∨ k = G) xs rs
  ne : Gr ≠ G
theorem JQ.of {w W : World} {Gr cr G : Nat} {xs : List Value} {rs : List RowM} (j : JR w Gr cr xs rs W) (hG : G < w.heap.size) : JQ w.heap.size Gr cr G xs rs W :=
  ⟨j.o, j.r.map (fun _ _ f => f.mono (fun k hk => Or.inl (by omega))), by have := j.lt; omega⟩
theorem JQ.lt {n0 Gr cr G : Nat} {xs : List Value} {rs : List RowM} {W : World} (j : JQ n0 Gr cr G xs rs W) : n0 ≤ Gr ∧ Gr < W.heap.size := by
  rcases j.o.2 with ⟨h, _⟩ | ⟨g, cap', cur, h, hg, hh, _⟩
  · cases h
  · simp only [Value.slice.injEq, Option.some.injEq, Addr.mk.injEq, and_true, true_and] at h
    obtain ⟨rfl, _⟩ := h
    exact ⟨hg, lt_of_block hh⟩
theorem JQ.below {n0 Gr cr G : Nat} {xs : List Value} {rs : List RowM} {W W' : World} (j : JQ n0 Gr cr G xs rs W) (b : Below W.heap.size W W') : JQ n0 Gr cr G xs rs W' :=
  ⟨own_below j.o b, j.r.map (fun _ _ f => f.below b), j.ne⟩
theorem JQ.grown {n0 Gr cr G g : Nat} {xs : List Value} {rs : List RowM} {W W' : World} {o : Obj} (j : JQ n0 Gr cr G xs rs W) (hg : (W.alloc o).grownBy W' (some G)) (hat : g = G ∨ W.heap.size < g) : JQ n0 Gr cr g xs rs W' := by
  have A : Below W.heap.size W (W.alloc o) := (Below.refl _ _).alloc (Nat.le_refl _) _
  have ja := j.below A
  have T : Touch (fun y => y = G) (W.alloc o) W' := ⟨hg.os, hg.tape, hg.output, hg.size, fun z hz hn => hg.block z hz (fun e => hn (by simpa using e))⟩
  refine ⟨own_off ja.o (fun z hz hs => ?_) T, ja.r.map (fun _ _ f => f.grown hg (by rw [World.size_alloc]; omega)), ?_⟩
  · have hz' : some Gr = some z := hz
    simp only [Option.some.injEq] at hz'
    exact j.ne (by omega)
  · have := j.lt
    have := j.ne
    omega
theorem pots3_take {k : Nat} (h : k < 3) : pots3.take (k + 1) = pots3.take k ++ [([0, 0, 0] : List Int).set k 1] := by
  match k, h with
  | 0, _ => rfl
  | 1, _ => rfl
  | 2, _ => rfl
theorem partL_len3 {f : Frm} {M : Int} (h : fitX M f) : (partL f.1).length = 3 := by
  rw [part_len]; exact h.1

set_option maxHeartbeats 12800000 in
theorem sboth_any (ad : Option Addr) (N cap : Nat) (ss : List L2V) (w : World) (hN : ss.length = N) (hF : LSG w ad ss) (hok : ss.all L2V.ok = true) (hN4 : N ≤ 4) :
    Calls Try.prog 52 #[.slice ad N cap] w fun e w' => ∃ G cG ts nt Gp cp, e = .returned (.tuple #[.slice (some ⟨G, 0, none⟩) nt cG, .slice (some ⟨Gp, 0, none⟩) 3 cp]) ∧ ts.length = nt ∧ JP w G cG ts w' ∧ ts.map IV.x = catP ss ∧ nt ≤ 600000 ∧ OwnB w' Gp (pinsA ss) ∧ w.heap.size ≤ Gp := by
  have HN : Hid (ss.length = N) := hN
  have HOK : Hid (ss.all L2V.ok = true) := hok
  have HF : Hid (LSG w ad ss) := hF
  clear hN hok hF
  obtain ⟨i0, hi, hz0, hz1, hz2⟩ := info_parts Try.infoI
  have b0 : Below w.heap.size w ((w.alloc (.cells #[] 26)).alloc (.cells #[.bool false, .bool false, .bool false] 4)) := ((Below.refl _ _).alloc (Nat.le_refl _) _).alloc (by simp) _
  have j0 : JP w w.heap.size 0 [] ((w.alloc (.cells #[] 26)).alloc (.cells #[.bool false, .bool false, .bool false] 4)) := (JP.nil w w (Below.refl _ _)).below ((Below.refl _ _).alloc (Nat.le_refl _) _)
  have p0 : OwnB ((w.alloc (.cells #[] 26)).alloc (.cells #[.bool false, .bool false, .bool false] 4)) (w.heap.size + 1) (pinsA (ss.take 0)) := by
    refine ⟨[.bool false, .bool false, .bool false], ?_, fun v hv => ?_⟩
    · have := Cel.new (w.alloc (.cells #[] 26)) [.bool false, .bool false, .bool false] 4
      rw [World.size_alloc] at this; exact this
    · match v, hv with
      | 0, _ => simp [pinsA]
      | 1, _ => simp [pinsA]
      | 2, _ => simp [pinsA]
  go_enter Try.func52, Try.ntmps52
  go_wp2_with fail
  go_loopw [4, 6] (fun out v wr => ∃ (k G cG : Nat) (ts : List IV), k ≤ 3 ∧ v = .int .i64 k ∧ out = .slice (some ⟨G, 0, none⟩) k cG ∧ ts.length = k ∧ JP w G cG ts wr ∧ ts.map IV.x = pots3.take k ∧ OwnB wr (w.heap.size + 1) (pinsA (ss.take 0)) ∧ w.heap.size + 1 ≠ G) (fun _ v _ => 3 - (intOf v).toNat)
  case atStart => exact ⟨0, _, _, [], by omega, rfl, rfl, rfl, j0, rfl, p0, by omega⟩
  case round =>
    clear j0 p0 b0
    obtain ⟨k, G, cG, ts, hk, rfl, rfl, hl, jp, hx, p, pne⟩ := hrel
    have HL : Hid (ts.length = k) := hl
    have HX : Hid (ts.map IV.x = pots3.take k) := hx
    clear hl hx
    by_cases hlt : k < 3
    · have hlt' : (k : Int) < 3 := by omega
      have HP : Hid (potC (k : Int) = [0, 0, 0].set k 1) := potC_in _ k rfl (by omega)
      have lG := jp.lt
      go_wp2_with fail
      refine (spot_any _ _).mono ?_
      rintro e w1 ⟨a, n, ca, c, m, cc, B1, B2, rfl, hn, hm, b1, o1, o2, g1, g2, ne⟩
      have hn3 : n = 3 := by rw [← hn, HP.out]; simp
      subst hn3
      have I1 : Ints w1 a 3 (potC (k : Int)) := o1.ints' hn
      have Hne : Hid (∀ b o, a = some ⟨b, o, none⟩ → b ≠ G) := fun b o e => by
        rcases o1 with h | ⟨h, _⟩
        · rw [h] at hn; cases hn
        · rw [h] at e
          simp only [Option.some.injEq, Addr.mk.injEq, and_true] at e
          have := g1 (by omega)
          omega
      have jp1 := jp.below b1
      have p1 := p.below b1
      have jo := jp1.o
      rw [HL.out] at jo
      have js := jp1.b.size
      have hfl : ∀ W, (Instr.field 34 (formV a 3 ca c m cc 0) 0).run Try.prog W = .ok (.slice a 3 ca) W := fun W => field_C a 3 ca c m cc 0 W
      clear jp p b1 o1 o2 hn hm ne g1 g2
      go_wp2_with (at_builtin; go_must (refine wpList_append_lies _ rfl (.tmp 18) (.tmp 22) 46 rfl w.heap.size 26 i0 _ 1 24 Try.underlying46 hi hz0 hz1 hz2 rfl (by decide) _ _ _ rfl (jo.alloc _) ⟨w1.heap.size, 0, none⟩ 1 1 [.slice a 3 ca] rfl rfl (news1 w1 _ _) oneSl (by omega) (by unfold maxLen; omega) (by omega) (by rw [World.size_alloc]; omega) _ rfl ?_); intro g cp2 w2 hown hgrow hat hlt1)
      have hat' : g = G ∨ w1.heap.size ≤ g := by
        rcases hat with h | h
        · have h' : some G = some g := h
          simp only [Option.some.injEq] at h'
          exact Or.inl h'.symm
        · rw [World.size_alloc] at h
          exact Or.inr (by omega)
      have jp2 := jp1.app (s := ⟨a, 3, ca, potC (k : Int)⟩) HL.out rfl I1 Hne.out hown hgrow hat'
      have lp1 := p1.lt
      have p2 := p1.grown hgrow pne
      have pne2 : w.heap.size + 1 ≠ g := by omega
      have HX2 : Hid ((ts ++ [(⟨a, 3, ca, potC (k : Int)⟩ : IV)]).map IV.x = pots3.take (k + 1)) := by
        show _ = _
        rw [List.map_append, HX.out, pots3_take hlt, ← HP.out]; rfl
      have HL2 : Hid ((ts ++ [(⟨a, 3, ca, potC (k : Int)⟩ : IV)]).length = k + 1) := by show _ = _; rw [List.length_append, HL.out]; rfl
      clear hown hgrow hat jo jp1 p1 I1 Hne
      go_wp2
      go_roundw
      case rel => exact ⟨k + 1, g, cp2, _, by omega, by go_num, rfl, HL2.out, jp2, HX2.out, p2, pne2⟩
      case measure => simp [intOf]; omega
    · obtain rfl : k = 3 := by omega
      have HX3 : Hid (ts.map IV.x = actsP pots3 (ss.take 0)) := HX.out
      have hb3 := jp.b
      clear HX
      go_wp2_with fail
      go_loopw [4, 5, 7, 8, 9, 10, 11] (fun out pins i _ _ _ _ wr => ∃ (ia G cG nt Gp cp : Nat) (ts : List IV), ia ≤ N ∧ i = .int .i64 ia ∧ out = .slice (some ⟨G, 0, none⟩) nt cG ∧ pins = .slice (some ⟨Gp, 0, none⟩) 3 cp ∧ ts.length = nt ∧ nt ≤ 3 + 128000 * ia ∧ JP w G cG ts wr ∧ ts.map IV.x = actsP pots3 (ss.take ia) ∧ OwnB wr Gp (pinsA (ss.take ia)) ∧ w.heap.size ≤ Gp ∧ Gp ≠ G) (fun _ _ i _ _ _ _ _ => N - (intOf i).toNat)
      case atStart => exact ⟨0, G, cG, 3, w.heap.size + 1, 3, ts, by omega, rfl, rfl, rfl, HL.out, by omega, jp, HX3.out, p, by omega, pne⟩
      case round =>
        clear jp p pne HX3 HL hb3 hlt hk
        obtain ⟨ia, G, cG, nt, Gp, cp, ts, hia, rfl, rfl, rfl, hl, hnt, jp, hx, p, lGp, pne⟩ := hrel
        have HL : Hid (ts.length = nt) := hl
        have HX : Hid (ts.map IV.x = actsP pots3 (ss.take ia)) := hx
        clear hl hx
        by_cases hlt : ia < N
        · have hlt' : (ia : Int) < N := by omega
          have his : ia < ss.length := by rw [HN.out]; exact hlt
          obtain ⟨ab, ao, rfl, hc, hLG⟩ := (HF.out.below jp.b) ia his
          have HSA : Hid (∀ ps, ps = actsP pots3 (ss.take ia) → rowsP ps (rowsL (ss[ia]?.getD noL).x) = actsP pots3 (ss.take (ia + 1))) := fun ps h => by rw [h, actsP_snoc _ _ _ his]
          have HSB : Hid (∀ v, pinsA (ss.take (ia + 1)) v = (pinsA (ss.take ia) v || readsR (rowsL (ss[ia]?.getD noL).x) v)) := fun v => pinsA_snoc ss ia his v
          have hsok : (ss[ia]?.getD noL).ok = true := by
            rw [List.getElem?_eq_getElem his]
            exact List.all_eq_true.1 HOK.out _ (List.getElem_mem his)
          obtain ⟨s, hs⟩ : ∃ s, s = ss[ia]?.getD noL := ⟨_, rfl⟩
          rw [← hs] at hc hLG HSA HSB hsok
          obtain ⟨sa, sn, sc, sx⟩ := s
          have hAct : actB sn sx = true := hsok
          obtain ⟨hxl, hLin, hsn⟩ := hLG
          have hc' : wr.cell? ⟨ab, ao + ia, none⟩ = some (.slice sa sn sc) := hc
          have HXL : Hid (sx.length = sn) := hxl
          have HLIN : Hid (LinesG wr sa sx) := hLin
          have lG := jp.lt
          clear hs hc hsok hxl hLin
          have HAC : Hid (actB sn sx = true) := hAct
          clear hAct
          go_wp2_with fail
          refine (srows_any _ _ _ sx _ HXL.out HLIN.out hsn).mono ?_
          rw [show rowsB sn sx = rowsL sx from by rw [rowsB, HAC.out]; rfl]
          rintro ee w3 ⟨Gr, cr, xs, rfl, j3⟩
          have HFIT : Hid (∀ r ∈ rowsL sx, RowFit r) := rowsL_fit (by rw [HXL.out]; exact (actB_parts HAC.out).1) (actB_parts HAC.out).2 HLIN.out
          have jq3 : JQ wr.heap.size Gr cr G xs (rowsL sx) w3 := JQ.of j3 lG.2
          have p3 := p.below j3.b
          have jp3 := jp.below j3.b
          obtain ⟨R, hR⟩ : ∃ R, R = rowsL sx := ⟨_, rfl⟩
          have HSA' : Hid (∀ ps, ps = actsP pots3 (ss.take ia) → rowsP ps R = actsP pots3 (ss.take (ia + 1))) := fun ps h => by rw [hR]; exact HSA.out ps h
          have HSB' : Hid (∀ v, pinsA (ss.take (ia + 1)) v = (pinsA (ss.take ia) v || readsR R v)) := fun v => by rw [hR]; exact HSB.out v
          have q1 : R.length ≤ 128 := by rw [hR]; exact goW_128 (by omega)
          rw [← hR] at jq3 HFIT ⊢
          obtain ⟨n0, hn0⟩ : ∃ n0, n0 = wr.heap.size := ⟨_, rfl⟩
          rw [← hn0] at jq3
          obtain ⟨PS, hPS⟩ : ∃ PS, PS = actsP pots3 (ss.take ia) := ⟨_, rfl⟩
          obtain ⟨PB, hPB⟩ : ∃ PB, PB = pinsA (ss.take ia) := ⟨_, rfl⟩
          obtain ⟨pinK, hpin⟩ : ∃ pinK : Nat → Nat → Bool, pinK = fun k v => PB v || readsR (R.take k) v := ⟨_, rfl⟩
          have HPK : Hid (pinK = fun k v => PB v || readsR (R.take k) v) := hpin
          have p4 : OwnB w3 Gp (pinK 0) := p3.ext (fun v _ => by rw [hpin, hPB]; simp [readsR])
          have HX0 : Hid (ts.map IV.x = rowsP PS (R.take 0)) := by show _ = _; rw [HX.out, hPS]; rfl
          have HSA2 : Hid (rowsP PS R = actsP pots3 (ss.take (ia + 1))) := HSA'.out PS hPS
          have HSB2 : Hid (∀ v, pinsA (ss.take (ia + 1)) v = pinK R.length v) := fun v => by rw [HSB'.out v, hpin, hPB]; dsimp only; rw [List.take_of_length_le (Nat.le_refl _)]
          clear j3 hR HSA HSB HSA' HSB' hn0 hPS hPB hpin p p3 jp HX HLIN HXL HAC hc'
          go_wp2_with fail
          go_loopw [4, 5, 9, 10, 11] (fun out pins i _ _ wr => ∃ (k G cG nt Gp cp : Nat) (ts : List IV), k ≤ R.length ∧ i = .int .i64 k ∧ out = .slice (some ⟨G, 0, none⟩) nt cG ∧ pins = .slice (some ⟨Gp, 0, none⟩) 3 cp ∧ ts.length = nt ∧ nt ≤ 3 + 128000 * ia + 1000 * k ∧ JP w G cG ts wr ∧ ts.map IV.x = rowsP PS (R.take k) ∧ OwnB wr Gp (pinK k) ∧ w.heap.size ≤ Gp ∧ Gp ≠ G ∧ JQ n0 Gr cr G xs R wr) (fun _ _ i _ _ _ => R.length - (intOf i).toNat)
          case atStart => exact ⟨0, G, cG, nt, Gp, cp, ts, by omega, rfl, rfl, rfl, HL.out, by omega, jp3, HX0.out, p4, lGp, pne, jq3⟩
          case round =>
            clear jp3 p4 pne HX0 HL jq3 hnt lGp lG
            obtain ⟨k, Go, cGo, nt, G, cG, ts, hk, rfl, rfl, rfl, hl, hnt, jp, hx, o, lGp, pne, j⟩ := hrel
            have HL : Hid (ts.length = nt) := hl
            have HX : Hid (ts.map IV.x = rowsP PS (R.take k)) := hx
            have hb := jp.b
            clear hl hx
            by_cases hlt3 : k < R.length
            · have hlt3' : (k : Int) < R.length := by omega
              obtain ⟨ga, gc, aa, ac, ta, tc, x0, x1, x2, x3, f0, f1, f2⟩ := j.r k hlt3
              have HSP : Hid (∀ v, pinK (k + 1) v = readsF (readsF (pinK k) (R[k]?.getD noR).adds) (R[k]?.getD noR).tells v) := fun v => by
                rw [HPK.out]
                show (PB v || readsR (R.take (k + 1)) v) = _
                rw [readsR_snoc R k hlt3 v]
                simp [readsF, Bool.or_assoc]
              have HSG : Hid (∀ ps, ps = rowsP PS (R.take k) → guardsP ps (R[k]?.getD noR).guards = rowsP PS (R.take (k + 1))) := fun ps h => by rw [h, rowsP_snoc _ _ _ hlt3]
              have hfit : RowFit (R[k]?.getD noR) := HFIT.out _ (by rw [List.getElem?_eq_getElem hlt3]; exact List.getElem_mem hlt3)
              have HRK : Hid (∀ W, JQ n0 Gr cr Go xs R W → True) := fun _ _ => trivial
              obtain ⟨q, hq⟩ : ∃ q, q = R[k]?.getD noR := ⟨_, rfl⟩
              have HQ : Hid (q = R[k]?.getD noR) := hq
              rw [← hq] at x0 x1 x2 x3 f0 f1 f2 HSP HSG hfit
              have HA : Hid _ := hfit.a
              have HTt : Hid _ := hfit.t
              have HGf : Hid _ := hfit.g
              have la := hfit.la
              have lt := hfit.lt
              have lgq := hfit.lg
              have sl := j.o.1
              have n1 := (own_cell j.o (k * 4 + 1) (by omega)).trans x1
              have n2 := (own_cell j.o (k * 4 + 2) (by omega)).trans x2
              have lGr := j.lt
              have FA := f1.at
              have FT := f2.at
              have KP : Hid (∀ W, Below wr.heap.size wr W → (W.cell? ⟨Gr, k * 4 + 1, none⟩ = some (.slice aa q.adds.length ac) ∧ W.cell? ⟨Gr, k * 4 + 2, none⟩ = some (.slice ta q.tells.length tc))) := fun W hW => ⟨(hW.cell (p := ⟨Gr, k * 4 + 1, none⟩) lGr.2).trans n1, (hW.cell (p := ⟨Gr, k * 4 + 2, none⟩) lGr.2).trans n2⟩
              have e0 : Below wr.heap.size wr wr.drew := (Below.refl _ _).drew
              have hSS := And.intro (KP.out _ e0) (True.intro)
              have lGo := jp.lt
              clear hfit x0 x1 x2 x3 f0 f1 f2 hq
              go_upto_region 14 with fail
              refine wp_region_ends (fun w' => w'.cell? ⟨Gr, k * 4 + 1, none⟩ = some (.slice aa q.adds.length ac) ∧ w'.cell? ⟨Gr, k * 4 + 2, none⟩ = some (.slice ta q.tells.length tc)) (fun _ => True) 13 (by kernel_rfl) ?_
              refine wpAnyE_take0 (i := 0) (v := ?v0) rfl (by kernel_rfl) (by kernel_rfl) (by kernel_rfl) (by decide) (fun _ _ _ h => h) (Or.inl ⟨by rfl, ?hy0⟩) hSS ?_
              case hy0 => (intro wz hSw; (try dsimp only at hSw); go_simp; try (with_reducible rfl))
              refine wpAnyE_take0 (i := 1) (v := ?v1) rfl (by kernel_rfl) (by kernel_rfl) (by kernel_rfl) (by decide) (fun _ _ _ h => h) (Or.inl ⟨by rfl, ?hy1⟩) hSS ?_
              case hy1 => (intro wz hSw; (try dsimp only at hSw); go_simp; try (with_reducible rfl))
              refine wpAnyE_take0 (i := 2) (v := ?v2) rfl (by kernel_rfl) (by kernel_rfl) (by kernel_rfl) (by decide) (fun _ _ _ h => h) (Or.inl ⟨by rfl, ?hy2⟩) hSS ?_
              case hy2 => (intro wz hSw; (try dsimp only at hSw); go_simp; try (with_reducible rfl))
              refine wpAnyE_take0 (i := 3) (v := ?v3) rfl (by kernel_rfl) (by kernel_rfl) (by kernel_rfl) (by decide) (fun _ _ _ h => h) (Or.inl ⟨by rfl, ?hy3⟩) hSS ?_
              case hy3 => (intro wz hSw; (try dsimp only at hSw); go_simp; try (with_reducible rfl))
              refine wpAnyE_take0 (i := 4) (v := ?v4) rfl (by kernel_rfl) (by kernel_rfl) (by kernel_rfl) (by decide) (fun _ _ _ h => h) (Or.inl ⟨by rfl, ?hy4⟩) hSS ?_
              case hy4 => (intro wz hSw; (try dsimp only at hSw); go_simp; try (with_reducible rfl))
              refine wpAnyE_take0 (i := 5) (v := ?v5) rfl (by kernel_rfl) (by kernel_rfl) (by kernel_rfl) (by decide) (fun _ _ _ h => h) (Or.inl ⟨by rfl, ?hy5⟩) hSS ?_
              case hy5 => (intro wz hSw; (try dsimp only at hSw); go_simp; try (with_reducible rfl))
              refine wpAnyE_take0 (i := 7) (v := ?v7) rfl (by kernel_rfl) (by kernel_rfl) (by kernel_rfl) (by decide) (fun _ _ _ h => h) (Or.inl ⟨by rfl, ?hy7⟩) hSS ?_
              case hy7 => (intro wz hSw; (try dsimp only at hSw); go_simp; try (with_reducible rfl))
              refine wpAnyE_take0 (i := 8) (v := ?v8) rfl (by kernel_rfl) (by kernel_rfl) (by kernel_rfl) (by decide) (fun _ _ _ h => h) (Or.inl ⟨by rfl, ?hy8⟩) hSS ?_
              case hy8 => (intro wz hSw; (try dsimp only at hSw); go_simp; try (with_reducible rfl))
              refine wpAnyE_take0 (i := 9) (v := ?v9) rfl (by kernel_rfl) (by kernel_rfl) (by kernel_rfl) (by decide) (fun _ _ _ h => h) (Or.inl ⟨by rfl, ?hy9⟩) hSS ?_
              case hy9 => (intro wz hSw; (try dsimp only at hSw); go_simp; try (with_reducible rfl))
              refine wpAnyE_take0 (i := 10) (v := ?v10) rfl (by kernel_rfl) (by kernel_rfl) (by kernel_rfl) (by decide) (fun _ _ _ h => h) (Or.inl ⟨by rfl, ?hy10⟩) hSS ?_
              case hy10 => (intro wz hSw; (try dsimp only at hSw); go_simp; try (with_reducible rfl))
              refine wpAnyE_take0 (i := 11) (v := ?v11) rfl (by kernel_rfl) (by kernel_rfl) (by kernel_rfl) (by decide) (fun _ _ _ h => h) (Or.inl ⟨by rfl, ?hy11⟩) hSS ?_
              case hy11 => (intro wz hSw; (try dsimp only at hSw); go_simp; try (with_reducible rfl))
              clear hSS
              refine wpAnyE_one (i := 6) (by kernel_rfl) rfl (fun K hK => ?_)
              go_simp
              refine (sreads_any _ _ _ _ _ _ q.adds _ (o.bools.below e0) rfl (FA.keep e0) HA.out (by omega)).mono ?_
              rintro ee w4 ⟨G4, c4, rfl, bd4, l4, o4⟩
              have b4 := below_of_drew bd4
              have l4x : wr.heap.size ≤ G4 := l4
              clear bd4 l4
              (try dsimp only)
              refine hK.out _ _ ⟨KP.out _ b4, fun _ => trivial⟩ ?_
              clear hK K
              refine wpAnyE_one (i := 12) (by kernel_rfl) rfl (fun K hK => ?_)
              go_simp
              refine (sreads_any _ _ _ _ _ _ q.tells _ o4.bools rfl (FT.keep b4) HTt.out (by omega)).mono ?_
              rintro ee w5 ⟨G5, c5, rfl, bd5, l5, o5⟩
              have b5 := b4.trans (bd5.mono b4.size)
              have s4 := b4.size
              have sb := hb.size
              have O5 : Hid (OwnB w5 G5 (pinK (k + 1))) := o5.ext (fun v _ => (HSP.out v).symm)
              have J5 := j.below b5
              have P5 := jp.below b5
              have B5 := hb.trans (b5.mono hb.size)
              clear bd5 o4 o5 o j jp
              (try dsimp only)
              refine hK.out _ _ ⟨KP.out _ b5, fun _ => trivial⟩ ?_
              clear hK K
              refine wpAnyE_one (i := 13) (by kernel_rfl) rfl (fun K hK => ?_)
              go_simp
              refine hK.out _ _ ⟨KP.out _ b5, fun _ => trivial⟩ ?_
              clear hK K
              refine wpAnyE_done (by kernel_rfl) ?_ _
              clear KP b4 b5 FA FT n1 n2
              have pne5 : G5 ≠ Go := by omega
              have lG5 : w.heap.size ≤ G5 := by omega
              obtain ⟨PG, hPG⟩ : ∃ PG, PG = rowsP PS (R.take k) := ⟨_, rfl⟩
              have HSG2 : Hid (guardsP PG q.guards = rowsP PS (R.take (k + 1))) := HSG.out PG hPG
              have HXG : Hid (ts.map IV.x = guardsP PG (q.guards.take 0)) := by show _ = _; rw [HX.out, hPG]; rfl
              obtain ⟨NG, hNG⟩ : ∃ NG, NG = q.guards.length := ⟨_, rfl⟩
              have HNG : Hid (NG = q.guards.length) := hNG
              rw [← hNG] at lgq
              clear hPG HSG HX HSP hNG hb lGp pne sl lGr lGo e0
              go_wp2_with fail
              go_loopw [4, 10, 11] (fun out i _ wr => ∃ (g G cG nt : Nat) (ts : List IV), g ≤ NG ∧ i = .int .i64 g ∧ out = .slice (some ⟨G, 0, none⟩) nt cG ∧ ts.length = nt ∧ nt ≤ 3 + 128000 * ia + 1000 * k + g ∧ JP w G cG ts wr ∧ ts.map IV.x = guardsP PG (q.guards.take g) ∧ OwnB wr G5 (pinK (k + 1)) ∧ G5 ≠ G ∧ JQ n0 Gr cr G xs R wr) (fun _ i _ _ => NG - (intOf i).toNat)
              case atStart => exact ⟨0, Go, cGo, nt, ts, by omega, rfl, rfl, HL.out, by omega, P5, HXG.out, O5.out, pne5, J5⟩
              case round =>
                clear O5 P5 J5 HXG HL pne5 hnt B5 l5 s4 sb
                obtain ⟨g, G, cG, nt, ts, hg, rfl, rfl, hl, hnt, jp, hx, o, pne, j⟩ := hrel
                have HL : Hid (ts.length = nt) := hl
                have HX : Hid (ts.map IV.x = guardsP PG (q.guards.take g)) := hx
                clear hl hx
                obtain ⟨ga, gc, aa, ac, ta, tc, x0, x1, x2, x3, f0, f1, f2⟩ := j.r k hlt3
                rw [← HQ.out] at x0 f0
                have sl := j.o.1
                have n0' := (own_cell j.o (k * 4) (by omega)).trans x0
                rw [← HNG.out] at n0'
                have lGr := j.lt
                have lG := jp.lt
                by_cases hlt4 : g < NG
                · have hlt4' : (g : Int) < NG := by omega
                  have hgl : g < q.guards.length := by rw [← HNG.out]; exact hlt4
                  have HSX : Hid (guardsP PG (q.guards.take (g + 1)) = addPb (guardsP PG (q.guards.take g)) (partL (q.guards[g]?.getD ([], [], 0)).1)) := guardsP_snoc PG q.guards g hgl
                  have hl3 : (partL (q.guards[g]?.getD ([], [], 0)).1).length = 3 := partL_len3 (HGf.out g hgl)
                  obtain ⟨fb, fo, rfl, a', c', ca, cc, c0, c1, c2, iC, iD⟩ := f0.at g hgl
                  generalize (q.guards[g]?.getD ([], [], 0)).1 = C at *
                  generalize (q.guards[g]?.getD ([], [], 0)).2.2 = kz at *
                  have HPL : Hid ((partL C).length = 3) := hl3
                  clear f0 f1 f2 x0 x1 x2 x3 iD hl3
                  go_wp2_with fail
                  refine (spart_new _ 3 _ _ 2 _ _ C _ iC (by omega)).mono ?_
                  rintro ee w6 ⟨pa, pc, rfl, b6, i6, l6⟩
                  have jp6 := jp.below b6
                  have o6 := o.below b6
                  have j6 := j.below b6
                  have HL6 : Hid (∀ b o, pa = some ⟨b, o, none⟩ → b ≠ G) := fun b o e => by have := (l6 b o e).1; omega
                  clear jp o j b6 iC c0 c1 c2 n0' l6 lG lGr
                  go_wp2_with fail
                  refine (shas_any _ nt cG ts _ 3 _ (partL C) _ HL.out jp6.g (by omega) i6 (by omega)).mono ?_
                  rintro ee w7 ⟨rfl, b7⟩
                  have jp7 := jp6.below b7
                  have o7 := o6.below b7
                  have j7 := j6.below b7
                  have i7 := i6.below b7
                  obtain ⟨hv, hhv⟩ : ∃ hv, hv = hasI ts (partL C) := ⟨_, rfl⟩
                  have HV : Hid (hv = hasFrom (partL C) 0 (guardsP PG (q.guards.take g))) := by show _ = _; rw [hhv, hasI, HX.out]
                  rw [← hhv]
                  clear jp6 o6 j6 i6 b7 hhv
                  by_cases hneg : hv < 0
                  · go_wp2_with fail
                    refine (szero_any _).mono ?_
                    rintro ee w8 ⟨B1, B2, rfl, b8, y1, y12, y2, k1, k2⟩
                    have hfl : ∀ W, (Instr.field 34 (formV (some ⟨B1, 0, none⟩) 3 3 (some ⟨B2, 0, none⟩) 2 2 0) 0).run Try.prog W = .ok (.slice (some ⟨B1, 0, none⟩) 3 3) W := fun W => field_C _ _ _ _ _ _ _ W
                    have jp8 := jp7.below b8
                    have o8 := o7.below b8
                    have j8 := j7.below b8
                    have i8 := i7.below b8
                    clear jp7 o7 j7 i7 b8 y1 y12 y2 k2
                    go_wp2_with fail
                    refine (l4same_any _ _ 3 3 _ _ (partL C) [0, 0, 0] _ i8 (k1.ints' rfl) (by omega) (by omega)).mono ?_
                    rintro ee w9 ⟨rfl, b9⟩
                    have jp9 := jp8.below b9
                    have o9 := o8.below b9
                    have j9 := j8.below b9
                    have i9 := i8.below b9
                    clear jp8 o8 j8 i8 b9 k1 hfl
                    cases hz : eqB (partL C) [0, 0, 0]
                    · have HNZ : Hid (partL C ≠ [0, 0, 0]) := fun e => by rw [e] at hz; simp [eqB] at hz
                      have jo := jp9.o
                      rw [HL.out] at jo
                      have js := jp9.b.size
                      have lo9 := o9.lt
                      clear hz
                      go_wp2_with (at_builtin; go_must (refine wpList_append_lies _ rfl (.tmp 84) (.tmp 86) 46 rfl w.heap.size 26 i0 _ 1 24 Try.underlying46 hi hz0 hz1 hz2 rfl (by decide) _ _ _ rfl (jo.alloc _) ⟨w9.heap.size, 0, none⟩ 1 1 [.slice pa 3 pc] rfl rfl (news1 w9 _ _) oneSl (by omega) (by unfold maxLen; omega) (by omega) (by rw [World.size_alloc]; omega) _ rfl ?_); intro gg cp2 w10 hown hgrow hat hlt1)
                      have hat' : gg = G ∨ w9.heap.size < gg := by
                        rcases hat with h | h
                        · have h' : some G = some gg := h
                          simp only [Option.some.injEq] at h'
                          exact Or.inl h'.symm
                        · rw [World.size_alloc] at h
                          exact Or.inr (by omega)
                      have jp10 := jp9.app (s := ⟨pa, 3, pc, partL C⟩) HL.out rfl i9 HL6.out hown hgrow (by omega)
                      have o10 := o9.grown hgrow pne
                      have j10 := j9.grown hgrow hat'
                      have HXa : Hid ((ts ++ [(⟨pa, 3, pc, partL C⟩ : IV)]).map IV.x = guardsP PG (q.guards.take (g + 1))) := by
                        show _ = _
                        rw [List.map_append, HX.out, HSX.out, addP_new (by rw [← HV.out]; exact hneg) HNZ.out]; rfl
                      have HLa : Hid ((ts ++ [(⟨pa, 3, pc, partL C⟩ : IV)]).length = nt + 1) := by show _ = _; rw [List.length_append, HL.out]; rfl
                      have pne10 : G5 ≠ gg := by omega
                      clear hown hgrow hat jo jp9 o9 j9 i9 HL6 HNZ
                      go_wp2
                      go_roundw
                      case rel => exact ⟨g + 1, gg, cp2, nt + 1, _, by omega, by go_num, rfl, HLa.out, by omega, jp10, HXa.out, o10, pne10, j10⟩
                      case measure => simp [intOf]; omega
                    · have HXa : Hid (ts.map IV.x = guardsP PG (q.guards.take (g + 1))) := by
                        show _ = _
                        rw [HX.out, HSX.out, addP_zero (by simpa [eqB] using hz)]
                      clear hz HX
                      go_wp2
                      go_roundw
                      case rel => exact ⟨g + 1, G, cG, nt, ts, by omega, by go_num, rfl, HL.out, by omega, jp9, HXa.out, o9, pne, j9⟩
                      case measure => simp [intOf]; omega
                  · have HXa : Hid (ts.map IV.x = guardsP PG (q.guards.take (g + 1))) := by
                      show _ = _
                      rw [HX.out, HSX.out, addP_has (by rw [← HV.out]; exact hneg)]
                    clear HX
                    go_wp2
                    go_roundw
                    case rel => exact ⟨g + 1, G, cG, nt, ts, by omega, by go_num, rfl, HL.out, by omega, jp7, HXa.out, o7, pne, j7⟩
                    case measure => simp [intOf]; omega
                · obtain rfl : g = NG := by omega
                  have HXe : Hid (ts.map IV.x = rowsP PS (R.take (k + 1))) := by
                    show _ = _
                    rw [HX.out, List.take_of_length_le (by rw [← HNG.out]; exact Nat.le_refl _), HSG2.out]
                  clear f0 f1 f2 x0 x1 x2 x3 HX
                  go_wp2
                  go_roundw
                  case rel => exact ⟨k + 1, G, cG, nt, G5, c5, ts, by omega, by go_num, rfl, rfl, HL.out, by omega, jp, HXe.out, o, lG5, pne, j⟩
                  case measure => simp [intOf]; omega
            · obtain rfl : k = R.length := by omega
              have HXe : Hid (ts.map IV.x = actsP pots3 (ss.take (ia + 1))) := by
                show _ = _
                rw [HX.out, List.take_of_length_le (Nat.le_refl _), HSA2.out]
              have oe : OwnB wr G (pinsA (ss.take (ia + 1))) := o.ext (fun v _ => (HSB2.out v).symm)
              clear o HX
              go_wp2
              go_roundw
              case rel =>
                refine ⟨_, _, _, _, _, _, _, _, _, _, _, _, _, _, _, _, _, _, _, _, _, _, _, _, _, _, _, _, _, _, _, _, _, _, _, _, _, _, _, _, _, _, _, _, _, _, _, _, _, _, _, _, _, _, _, _, _, _, _, _, _, _, _, _, _, _, _, _, _, _, _, ?_, rfl⟩
                exact ⟨ia + 1, Go, cGo, nt, G, cG, ts, by omega, by go_num, rfl, rfl, HL.out, by omega, jp, HXe.out, oe, lGp, pne⟩
              case measure => simp [intOf]; omega
        · obtain rfl : ia = N := by omega
          have hall : ss.take ia = ss := List.take_of_length_le (by rw [HN.out]; exact Nat.le_refl _)
          have HXe : Hid (ts.map IV.x = catP ss) := by show _ = _; rw [HX.out, hall]; rfl
          have oe : OwnB wr Gp (pinsA ss) := by rw [hall] at p; exact p
          clear hall p HX
          go_wp2
          go_ret2
          exact ⟨G, cG, ts, nt, Gp, cp, rfl, HL.out, jp, HXe.out, by omega, oe, lGp⟩

end Go.Proofs.Ytemcinobgdphnaa
namespace Go.Proofs.Ytemcinobgdphnaa
open Go.RowKit Go.Deep
set_option linter.unusedVariables false
set_option maxRecDepth 100000

/-- Bools that can be read. -/
def BA (W : World) (a : Option Addr) (n : Nat) (f : Nat → Bool) : Prop := ∀ j, j < n → ∃ b off, a = some ⟨b, off, none⟩ ∧ W.cell? ⟨b, off + j, none⟩ = some (.bool (f j))
theorem BA.none {W : World} {a : Option Addr} {f : Nat → Bool} : BA W a 0 f := fun j hj => by omega
theorem Bools.ba {W : World} {a : Option Addr} {f : Nat → Bool} (h : Bools W a f) : BA W a 3 f := fun j hj => by
  obtain ⟨b, off, e, hc⟩ := h
  exact ⟨b, off, e, hc j hj⟩
theorem OwnBB.ba {W : World} {G : Nat} {f : Nat → Bool} (h : OwnBB W G f) : BA W (some ⟨G, 0, Option.none⟩) 3 f := fun j hj => ⟨G, 0, rfl, by rw [Nat.zero_add]; exact (h.at hj).1⟩
theorem BA.below {W W' : World} {a : Option Addr} {n : Nat} {f : Nat → Bool} (h : BA W a n f) (b : Below W.heap.size W W') : BA W' a n f := fun j hj => by
  obtain ⟨b0, off, e, hc⟩ := h j hj
  exact ⟨b0, off, e, (b.cell (p := ⟨b0, off + j, Option.none⟩) (block_lt hc)).trans hc⟩
def rampB (j : Nat) : Bool := (1 + j) % 3 == 0

end Go.Proofs.Ytemcinobgdphnaa
namespace Go.Proofs.Ytemcinobgdphnaa
open Go.RowKit Go.Deep
set_option linter.unusedVariables false
set_option maxRecDepth 100000

theorem catB_parts {N : Nat} {ss : List L2V} (h : catB N ss = true) : N ≤ 4 ∧ ss.all L2V.ok = true := by
  simp only [catB, Bool.and_eq_true] at h
  have := inB_iff.1 h.1
  exact ⟨by omega, h.2⟩

set_option maxHeartbeats 3200000 in
theorem icatpins_any (ad : Option Addr) (N cap : Nat) (ss : List L2V) (w : World) (hN : ss.length = N) (hF : LSG w ad ss) (hN1 : N ≤ 1048576) :
    Calls Try.prog 26 #[.slice ad N cap] w fun e w' => Below w.heap.size w w' ∧ ((catB N ss = false ∧ e = .returned (.slice none 0 0)) ∨ (catB N ss = true ∧ ∃ G cG, e = .returned (.slice (some ⟨G, 0, none⟩) 3 cG) ∧ w.heap.size ≤ G ∧ OwnBB w' G (pinsA ss))) := by
  have HN : Hid (ss.length = N) := hN
  have HF : Hid (LSG w ad ss) := hF
  clear hN
  obtain ⟨u, hu⟩ : ∃ u, catB N ss = u := ⟨_, rfl⟩
  have HU : Hid (catB N ss = u) := hu
  go_enter Try.func26, Try.ntmps26
  go_wp2_with fail
  refine (icat_any _ _ _ ss _ HN.out hF hN1).mono ?_
  rintro e w1 ⟨rfl, b1⟩
  rw [hu]
  clear hu hF
  cases u with
  | false =>
    go_wp2
    go_ret
    exact ⟨b1, .inl ⟨HU.out, rfl⟩⟩
  | true =>
    obtain ⟨i0, hi, hz0, hz1, hz2⟩ := info_parts Try.infoBool
    obtain ⟨w2, hrun, o2, g2⟩ := run_make_full (P := Try.prog) (w := w1) w1.heap.size 53 4 i0 (.bool false) 1 Try.underlying53 hi hz0 hz1 .i64 .i64 3 (by rw [hz2]; omega) (by unfold maxLen; omega) (Nat.le_refl _)
    have hrun' : (Instr.makeSlice 53 (.int .i64 3) (.int .i64 3)).run Try.prog w1 = .ok (.slice (some ⟨w1.heap.size, 0, none⟩) 3 3) w2 := hrun
    have b2 : Below w1.heap.size w1 w2 := (Below.refl _ _).grown g2 (Nat.le_refl _) (by simp)
    have O2 : OwnBB w2 w1.heap.size (pinsA (ss.take 0)) := by
      rcases o2.2 with ⟨e, _⟩ | ⟨g, cp, cur, hv, hg, hh, hl, hc, hs, ht⟩
      · cases e
      · cases hv
        have hl3 : cur.toList.length = 3 := by rw [Array.length_toList]; omega
        rw [List.take_of_length_le (by omega)] at ht
        have : cur = #[.bool false, .bool false, .bool false] := by
          apply Array.toList_inj.1
          rw [ht]; simpa [Value.cells] using toList_madeCells_one (.bool false) 3
        rw [this] at hh
        exact hh
    have B2 := b1.trans (b2.mono b1.size)
    have lG0 := b1.size
    have N4 := (catB_parts HU.out).1
    have HALL : Hid (ss.all L2V.ok = true) := (catB_parts HU.out).2
    obtain ⟨G, hG⟩ : ∃ G, G = w1.heap.size := ⟨_, rfl⟩
    rw [← hG] at O2 lG0 hrun'
    clear hrun o2 g2 b1 b2 hG
    go_wp2_with fail
    go_loopw [5, 6, 7, 14] (fun _ _ _ i wr => ∃ k : Nat, k ≤ N ∧ i = .int .i64 k ∧ Below w.heap.size w wr ∧ OwnBB wr G (pinsA (ss.take k))) (fun _ _ _ i _ => N - (intOf i).toNat)
    case atStart => exact ⟨0, Nat.zero_le _, rfl, B2, O2⟩
    case round =>
      clear B2 O2 hrun'
      obtain ⟨k, hk, rfl, hb, o⟩ := hrel
      by_cases hlt : k < N
      · have hlt' : (k : Int) < N := by omega
        have his : k < ss.length := by rw [HN.out]; exact hlt
        obtain ⟨ab, ao, rfl, hc, hLG⟩ := (HF.out.below hb) k his
        have HSB : Hid (∀ v, pinsA (ss.take (k + 1)) v = (pinsA (ss.take k) v || readsR (rowsL (ss[k]?.getD noL).x) v)) := fun v => pinsA_snoc ss k his v
        have hsok : (ss[k]?.getD noL).ok = true := by
          rw [List.getElem?_eq_getElem his]
          exact List.all_eq_true.1 HALL.out _ (List.getElem_mem his)
        obtain ⟨s, hs⟩ : ∃ s, s = ss[k]?.getD noL := ⟨_, rfl⟩
        rw [← hs] at hc hLG HSB hsok
        obtain ⟨sa, sn, sc, sx⟩ := s
        have hAct : actB sn sx = true := hsok
        obtain ⟨hxl, hLin, hsn⟩ := hLG
        have hc' : wr.cell? ⟨ab, ao + k, none⟩ = some (.slice sa sn sc) := hc
        have HXL : Hid (sx.length = sn) := hxl
        have HLIN : Hid (LinesG wr sa sx) := hLin
        have HAC : Hid (actB sn sx = true) := hAct
        clear hs hc hsok hxl hLin hAct
        go_wp2_with fail
        refine (icatreads_any _ _ _ sx _ HXL.out HLIN.out hsn).mono ?_
        rintro ee w3 ⟨b3, h⟩
        obtain ⟨G3, c3, rfl, lG3, o3⟩ : ∃ G3 c3, ee = .returned (.slice (some ⟨G3, 0, none⟩) 3 c3) ∧ wr.heap.size ≤ G3 ∧ OwnBB w3 G3 (readsR (rowsL sx)) := by
          rcases h with ⟨h, _⟩ | ⟨_, G3, c3, h1, h2, h3⟩
          · rw [HAC.out] at h; cases h
          · exact ⟨G3, c3, h1, h2, h3⟩
        have lo : G < wr.heap.size := Cel.lt o
        have hb3 := hb.trans (b3.mono hb.size)
        have oo : OwnBB w3 G (fun v => if v < 0 then pinsA (ss.take (k + 1)) v else pinsA (ss.take k) v) := (o.below b3).ext (fun v hv => by simp)
        obtain ⟨rd, hrd⟩ : ∃ rd, rd = readsR (rowsL sx) := ⟨_, rfl⟩
        have HSB' : Hid (∀ v, pinsA (ss.take (k + 1)) v = (pinsA (ss.take k) v || rd v)) := fun v => by rw [hrd]; exact HSB.out v
        rw [← hrd] at o3
        have ne3 : G ≠ G3 := by omega
        clear h o b3 hb HXL HLIN HAC HSB hrd hc'
        go_wp2_with fail
        go_loopw [6, 7, 21] (fun _ _ i wr => ∃ u : Nat, u ≤ 3 ∧ i = .int .i64 u ∧ Below w.heap.size w wr ∧ OwnBB wr G3 rd ∧ OwnBB wr G (fun v => if v < u then pinsA (ss.take (k + 1)) v else pinsA (ss.take k) v)) (fun _ _ i _ => 3 - (intOf i).toNat)
        case atStart => exact ⟨0, by omega, rfl, hb3, o3, oo⟩
        case round =>
          clear hb3 o3 oo
          obtain ⟨u, hu, rfl, hb, o3, o⟩ := hrel
          by_cases hu3 : u < 3
          · have hu' : (u : Int) < 3 := by omega
            have r0 := (o3.at hu3).1
            have g0 : wr.cell? ⟨G, u, none⟩ = some (.bool (pinsA (ss.take k) u)) := by
              have := (o.at hu3).1
              simpa using this
            have fz := (o.at hu3).2
            cases hold : pinsA (ss.take k) u
            · rw [hold] at g0
              have O2 : Hid (OwnBB (wr.setCell ⟨G, u, none⟩ (.bool (rd u))) G (fun v => if v < u + 1 then pinsA (ss.take (k + 1)) v else pinsA (ss.take k) v)) := (o.set hu3 (rd u)).ext (fun v hv => by
                by_cases e : v = u
                · subst e; simp only [if_true, Nat.lt_succ_self]; rw [HSB'.out, hold]; simp
                · simp only [e, if_false]
                  by_cases e2 : v < u
                  · rw [if_pos e2, if_pos (by omega)]
                  · rw [if_neg e2, if_neg (by omega)])
              have B2 := hb.setCell (p := ⟨G, u, none⟩) (by simpa using lG0) (.bool (rd u))
              have o32 : OwnBB (wr.setCell ⟨G, u, none⟩ (.bool (rd u))) G3 rd := Cel.setOther o3 (by omega) _ _
              clear o o3 hold
              go_wp2
              go_roundw
              case rel => exact ⟨u + 1, by omega, by go_num, B2, o32, O2.out⟩
              case measure => simp [intOf]; omega
            · rw [hold] at g0
              have O2 : Hid (OwnBB (wr.setCell ⟨G, u, none⟩ (.bool true)) G (fun v => if v < u + 1 then pinsA (ss.take (k + 1)) v else pinsA (ss.take k) v)) := (o.set hu3 true).ext (fun v hv => by
                by_cases e : v = u
                · subst e; simp only [if_true, Nat.lt_succ_self]; rw [HSB'.out, hold]; simp
                · simp only [e, if_false]
                  by_cases e2 : v < u
                  · rw [if_pos e2, if_pos (by omega)]
                  · rw [if_neg e2, if_neg (by omega)])
              have B2 := hb.setCell (p := ⟨G, u, none⟩) (by simpa using lG0) (.bool true)
              have o32 : OwnBB (wr.setCell ⟨G, u, none⟩ (.bool true)) G3 rd := Cel.setOther o3 (by omega) _ _
              clear o o3 hold
              go_wp2
              go_roundw
              case rel => exact ⟨u + 1, by omega, by go_num, B2, o32, O2.out⟩
              case measure => simp [intOf]; omega
          · obtain rfl : u = 3 := by omega
            have O3 : Hid (OwnBB wr G (pinsA (ss.take (k + 1)))) := o.ext (fun v hv => by simp only [hv, if_true])
            clear o o3
            go_wp2
            go_roundw
            case rel => exact ⟨k + 1, by omega, by go_num, hb, O3.out⟩
            case measure => simp [intOf]; omega
      · obtain rfl : k = N := by omega
        have O3 : OwnBB wr G (pinsA ss) := by
          have : ss.take k = ss := List.take_of_length_le (by rw [HN.out]; exact Nat.le_refl _)
          rw [this] at o; exact o
        go_wp2
        go_ret
        exact ⟨hb, .inr ⟨HU.out, G, 3, rfl, lG0, O3⟩⟩

end Go.Proofs.Ytemcinobgdphnaa
namespace Go.Proofs.Ytemcinobgdphnaa
open Go.RowKit Go.Deep Go.Shelf
set_option linter.unusedVariables false
set_option maxRecDepth 100000
attribute [local go_sem] Oper.semAt_some

section
variable {F : Fence} {n : Nat} {P : Program} {ops : Array Oper} {Q : Exit → Act → World → Prop} {md : Region.Mode} {S : World → Prop}
theorem wpAnyS_two {i j : Nat} {oi oj : Oper} {fuel : Nat} {listed : Array Bool} {a : Act} {w : World} (hr : Region.ready md ops listed = [i, j]) (hi : ops[i]? = some oi) (hj : ops[j]? = some oj)
    (h1 : ∀ K' : Act → World → Prop, Shut (∀ a w, S w → wpAnyS F n P md ops Q S fuel (listed.setIfInBounds i true) a w → K' a w) → if Region.wanted oi (yielded ops a.tmps) = true then Oper.wpIn F n P oi a w K' Q else (∀ f, oi.about P w a.eval = some f → F.fn f) ∧ K' (a.put oi.dst undef) w)
    (h2 : ∀ K' : Act → World → Prop, Shut (∀ a w, S w → wpAnyS F n P md ops Q S fuel (listed.setIfInBounds j true) a w → K' a w) → if Region.wanted oj (yielded ops a.tmps) = true then Oper.wpIn F n P oj a w K' Q else (∀ f, oj.about P w a.eval = some f → F.fn f) ∧ K' (a.put oj.dst undef) w) : wpAnyS F n P md ops Q S (fuel + 1) listed a w := by
  refine ⟨fun h0 => (by rw [hr] at h0; cases h0), fun z hz => ?_⟩
  rw [hr] at hz
  rcases List.mem_cons.1 hz with rfl | hz
  · exact wpOpIn_step hi (fun K' hK => h1 K' (fun a w hS hW => hK a w ⟨hS, hW⟩))
  · rcases List.mem_cons.1 hz with rfl | hz
    · exact wpOpIn_step hj (fun K' hK => h2 K' (fun a w hS hW => hK a w ⟨hS, hW⟩))
    · cases hz
end
/-- Marks that loops over functions have left. -/
def MkDs (Ds : List Nat) : List Deferred := Ds.map fun D => { target := .collected D, args := #[] }
theorem leaves_marks {F : Fence} {n : Nat} {P : Program} {fn : Func} {tmps : Array Value} {R : Ending → World → Prop} {v : Value} (hres : ∀ W', (results fn tmps).run P W' = .ok v W') : ∀ (Ds : List Nat) (W : World), (∀ D ∈ Ds, W.heap[D]? = some (.deferred (some []))) → Ds.Nodup →
    (∀ W', Touch (fun k => k ∈ Ds) W W' → R (.returned v) W') → LeavesInM F n P fn tmps R (MkDs Ds) .returning W
  | [], W, _, _, hR => ⟨v, hres W, hR W (Touch.refl _ _)⟩
  | D :: Ds, W, hb, hn, hR => by
    refine ⟨by simp, .inl ⟨D, _, rfl, run_takeDeferred (hb D (by simp)), ?_⟩⟩
    obtain ⟨h1, h2⟩ := List.nodup_cons.1 hn
    refine leaves_marks hres Ds _ (fun D' hD' => ?_) h2 (fun W' t => hR W' ?_)
    · rw [World.putObj_heap_other (fun e => h1 (by rw [← e]; exact hD'))]
      exact hb D' (by simp [hD'])
    · refine Touch.trans (b := W.putObj D _) ⟨rfl, rfl, rfl, by simp [World.putObj], fun k hk hk2 => World.putObj_heap_other (fun e => hk2 (by simp [e]))⟩ (t.mono (fun k hk => by simp [hk]))
/-- The marks' blocks, all made since. -/
structure MkOk (n0 : Nat) (Ds : List Nat) (W : World) : Prop where
  b : ∀ D ∈ Ds, W.heap[D]? = some (.deferred (some []))
  n : Ds.Nodup
  l : ∀ D ∈ Ds, n0 ≤ D
theorem MkOk.nil (n0 : Nat) (W : World) : MkOk n0 [] W := ⟨fun _ h => by simp at h, List.nodup_nil, fun _ h => by simp at h⟩
theorem MkOk.below {n0 : Nat} {Ds : List Nat} {W W' : World} (h : MkOk n0 Ds W) (b : Below W.heap.size W W') : MkOk n0 Ds W' := ⟨fun D hD => (b.block D (lt_of_block (h.b D hD))).trans (h.b D hD), h.n, h.l⟩
theorem MkOk.touch {S : Nat → Prop} {n0 : Nat} {Ds : List Nat} {W W' : World} (h : MkOk n0 Ds W) (t : Touch S W W') (hS : ∀ k, S k → ∀ o, W.heap[k]? ≠ some (.deferred o)) : MkOk n0 Ds W' := ⟨fun D hD => (t.block D (lt_of_block (h.b D hD)) (fun hs => hS D hs _ (h.b D hD))).trans (h.b D hD), h.n, h.l⟩
theorem MkOk.loop {n0 : Nat} {Ds : List Nat} {W : World} {l : Nat} {r : Loop} {o : Obj} (h : MkOk n0 Ds W) (hl : W.heap[l]? = some (.loop r)) : MkOk n0 Ds (W.putObj l o) := ⟨fun D hD => by
    have hne : D ≠ l := fun e => by
      have := h.b D hD
      rw [e, hl] at this
      cases this
    rw [World.putObj_heap_other hne]; exact h.b D hD, h.n, h.l⟩
theorem OwnM.loop {X : World} {B n l : Nat} {D : DataW Unit} {r : Loop} {o : Obj} (h : OwnM X B n D) (hl : X.heap[l]? = some (.loop r)) : OwnM (X.putObj l o) B n D := by
  obtain ⟨es, clock, hb, q⟩ := h
  have hne : B ≠ l := fun e => by
    rw [e, hl] at hb
    cases hb
  exact ⟨es, clock, by rw [World.putObj_heap_other hne]; exact hb, q⟩
theorem OwnM.obj {X : World} {B n : Nat} {D : DataW Unit} (h : OwnM X B n D) : ∃ es clock, X.heap[B]? = some (.map es clock) := by
  obtain ⟨es, clock, hb, _⟩ := h
  exact ⟨es, clock, hb⟩
theorem OwnM.kpR {X Y : World} {B n : Nat} {D : DataW Unit} (h : OwnM X B n D) (t : Touch (fun k => k = B) X Y) : KpR X Y := t.mono (fun k e => by
  subst e
  obtain ⟨es, clock, hb⟩ := h.obj
  intro cs ty fr he
  rw [hb] at he
  cases he)
theorem addP_len (ps : List (List Int)) (p : List Int) : ps.length ≤ (addPb ps p).length := by
  unfold addPb
  split
  · exact Nat.le_refl _
  · simp
theorem guardsP_len (fs : List Frm) : ∀ ps, ps.length ≤ (guardsP ps fs).length := by
  induction fs with
  | nil => intro ps; exact Nat.le_refl _
  | cons f fs ih => intro ps; exact Nat.le_trans (addP_len ps _) (ih _)
theorem rowsP_len (rs : List RowM) : ∀ ps, ps.length ≤ (rowsP ps rs).length := by
  induction rs with
  | nil => intro ps; exact Nat.le_refl _
  | cons r rs ih => intro ps; exact Nat.le_trans (guardsP_len _ ps) (ih _)
theorem actsP_len (ss : List L2V) : ∀ ps, ps.length ≤ (actsP ps ss).length := by
  induction ss with
  | nil => intro ps; exact Nat.le_refl _
  | cons s ss ih => intro ps; exact Nat.le_trans (rowsP_len _ ps) (ih _)
theorem catP_pos (ss : List L2V) : 3 ≤ (catP ss).length := actsP_len ss pots3
/-- A slice of parts, each in a block of its own, all free to be written. -/
structure JO (w : World) (v : Value) (ts : List IV) (bs : Nat → Nat) (W : World) : Prop where
  b : Below w.heap.size w W
  o : W.ownsRow w.heap.size 26 1 v ts.length (ts.map IV.v)
  k : ∀ j, j < ts.length → (ts[j]?.getD noI).n = 3 ∧ OwnX W (ts[j]?.getD noI).a (bs j) 3 (ts[j]?.getD noI).x ∧ w.heap.size ≤ bs j ∧ some (bs j) ≠ v.ownBlock
  d : ∀ i j, i < j → j < ts.length → bs i < bs j
theorem JO.nil (w W : World) (hb : Below w.heap.size w W) (bs : Nat → Nat) : JO w (.slice none 0 0) [] bs W := ⟨hb, World.ownsRow_nil W _ _ _, fun j hj => by simp at hj, fun i j _ hj => by simp at hj⟩
theorem JO.below {w W W' : World} {v : Value} {ts : List IV} {bs : Nat → Nat} (j : JO w v ts bs W) (h : Below W.heap.size W W') : JO w v ts bs W' :=
  ⟨j.b.trans (h.mono j.b.size), by
    refine ⟨j.o.1, ?_⟩
    rcases j.o.2 with h2 | ⟨g, cap, cur, hv, hg, hh, r⟩
    · exact Or.inl h2
    · exact Or.inr ⟨g, cap, cur, hv, hg, by rw [h.block g (lt_of_block hh)]; exact hh, r⟩, fun i hi => by obtain ⟨a, b, c, d⟩ := j.k i hi; exact ⟨a, b.below h, c, d⟩, j.d⟩
theorem JO.blk {w W : World} {v : Value} {ts : List IV} {bs : Nat → Nat} (j : JO w v ts bs W) {g : Nat} (h : v.ownBlock = some g) : w.heap.size ≤ g ∧ ∃ cur, W.heap[g]? = some (.cells cur 26 (0, 0)) := by
  rcases j.o.2 with ⟨h', _⟩ | ⟨g', cap, cur, hv, hg, hh, r⟩
  · rw [h'] at h; simp [Value.ownBlock] at h
  · rw [hv] at h
    simp only [Value.ownBlock, Option.some.injEq] at h
    subst h
    exact ⟨hg, cur, hh⟩
/-- Blocks that hold no cells may change. -/
theorem JO.past {w W W' : World} {v : Value} {ts : List IV} {bs : Nat → Nat} {S : Nat → Prop} (j : JO w v ts bs W) (t : Touch S W W') (hS : ∀ k, S k → w.heap.size ≤ k ∧ ∀ cs ty fr, W.heap[k]? ≠ some (.cells cs ty fr)) : JO w v ts bs W' := by
  refine ⟨j.b.trans (t.below j.b.size (fun k hk => (hS k hk).1)), ?_, fun i hi => ?_, j.d⟩
  · refine ⟨j.o.1, ?_⟩
    rcases j.o.2 with h2 | ⟨g, cap, cur, hv, hg, hh, r⟩
    · exact Or.inl h2
    · exact Or.inr ⟨g, cap, cur, hv, hg, by rw [t.block g (lt_of_block hh) (fun h => (hS g h).2 _ _ _ hh)]; exact hh, r⟩
  · obtain ⟨a, b, c, d⟩ := j.k i hi
    refine ⟨a, b.touch t (fun _ h => ?_), c, d⟩
    rcases b.2 with h0 | ⟨_, cur, hc, _⟩
    · omega
    · exact (hS _ h).2 _ _ _ hc
theorem JO.app {w W W' : World} {v v' : Value} {ts : List IV} {bs : Nat → Nat} {s : IV} {A k : Nat} {o : Obj} (j : JO w v ts bs W) (hk : ts.length = k) (hs : s.n = 3) (hA : OwnX W s.a A 3 s.x) (hlo : w.heap.size ≤ A) (hnew : ∀ i, i < k → bs i < A) (hne : some A ≠ v.ownBlock)
    (hown : W'.ownsRow w.heap.size 26 1 v' (k + 1) (ts.map IV.v ++ [s.v])) (hg : (W.alloc o).grownBy W' v.ownBlock) (hat : v'.ownBlock = v.ownBlock ∨ v'.ownBlock = some (W.alloc o).heap.size) : JO w v' (ts ++ [s]) (fun i => if i < k then bs i else A) W' := by
  subst hk
  have B1 : Below W.heap.size W (W.alloc o) := (Below.refl _ _).alloc (Nat.le_refl _) _
  have ja := j.below B1
  have hlA := hA.lt (by omega)
  have key : ∀ (a : Option Addr) (X : Nat) (x : List Int), OwnX W a X 3 x → some X ≠ v.ownBlock → OwnX W' a X 3 x ∧ some X ≠ v'.ownBlock := fun a X x h1 h2 => by
    have hl := h1.lt (by omega)
    refine ⟨?_, fun e => ?_⟩
    · have h3 := h1.below B1
      rcases h3.2 with h0 | ⟨e1, cur, hc, hv⟩
      · omega
      · exact ⟨h3.1, .inr ⟨e1, cur, hc.grew hg (fun e => h2 e.symm), hv⟩⟩
    · rcases hat with h | h
      · exact h2 (e.trans h)
      · rw [h, World.size_alloc] at e
        simp only [Option.some.injEq] at e
        omega
  refine ⟨ja.b.grown hg ja.b.size (fun z hz => (j.blk hz).1), by rw [List.length_append, List.map_append]; exact hown, fun i hi => ?_, fun i i' h hi' => ?_⟩
  · by_cases h : i < ts.length
    · rw [List.getElem?_append_left h]
      obtain ⟨a, b, c, d⟩ := j.k i h
      simp only [h, if_true]
      obtain ⟨q1, q2⟩ := key _ _ _ b d
      exact ⟨a, q1, c, q2⟩
    · rw [List.length_append, List.length_singleton] at hi
      obtain rfl : i = ts.length := by omega
      rw [List.getElem?_append_right (Nat.le_refl _), Nat.sub_self]
      simp only [Nat.lt_irrefl, if_false]
      obtain ⟨q1, q2⟩ := key _ _ _ hA hne
      exact ⟨hs, q1, hlo, q2⟩
  · rw [List.length_append, List.length_singleton] at hi'
    have h1 : i < ts.length := by omega
    simp only [h1, if_true]
    by_cases h2 : i' < ts.length
    · simp only [h2, if_true]; exact j.d i i' h h2
    · simp only [h2, if_false]; exact hnew i h1
theorem MkOk.grown {n0 : Nat} {Ds : List Nat} {w W W' : World} {v : Value} {ts : List IV} {bs : Nat → Nat} {o : Obj} (h : MkOk n0 Ds W) (j : JO w v ts bs W) (hg : (W.alloc o).grownBy W' v.ownBlock) : MkOk n0 Ds W' := by
  have h1 := h.below ((Below.refl _ _).alloc (Nat.le_refl _) o)
  refine ⟨fun D hD => ?_, h.n, h.l⟩
  rw [hg.block D (lt_of_block (h1.b D hD)) (fun e => ?_)]
  · exact h1.b D hD
  · obtain ⟨_, cur, hh⟩ := j.blk e.symm
    rw [h.b D hD] at hh
    cases hh
theorem Cel.grownKT {w W W' : World} {v : Value} {ts : List IV} {bs : Nat → Nat} {o : Obj} {L : Nat} {cur : List Value} (h : Cel W L cur KT) (j : JO w v ts bs W) (hg : (W.alloc o).grownBy W' v.ownBlock) : Cel W' L cur KT := by
  refine (h.alloc o).grew hg (fun e => ?_)
  obtain ⟨_, c2, hh⟩ := j.blk e
  unfold Cel at h
  rw [h] at hh
  simp only [Option.some.injEq, Obj.cells.injEq] at hh
  exact absurd hh.2.1 (by decide)
theorem pots3_guards : guardsP [] way0.pots = pots3 := by decide +kernel
theorem pot_fit : ∀ k, k < 3 → fitX 10000000 (way0.pots[k]?.getD ([], [], 0)) := fun k hk => (WayOk.start.pf k hk).mono (by have := wb_six (n := 0) (by omega); simp [wb] at *)

set_option maxHeartbeats 6400000 in
theorem icatforms_in (ad : Option Addr) (N cap : Nat) (ss : List L2V) (w : World) (n : Nat) (hN : ss.length = N) (hF : LSG w ad ss) (hN1 : N ≤ 1048576) :
    CallsIn Fence.wide n Try.prog 21 #[.slice ad N cap] w fun e w' => Below w.heap.size w w' ∧ ((catB N ss = false ∧ e = .returned (.slice none 0 0)) ∨ (catB N ss = true ∧ ∃ G cG ts bs, e = .returned (.slice (some ⟨G, 0, none⟩) (catP ss).length cG) ∧ ts.map IV.x = catP ss ∧ JO w (.slice (some ⟨G, 0, none⟩) (catP ss).length cG) ts bs w')) := by
  have hdd : ∀ k : Nat, (Fence.wide.depth.isSome = true → 1 ≤ k) := fun k h => by simp [Fence.wide] at h
  have HN : Hid (ss.length = N) := hN
  have HF : Hid (LSG w ad ss) := hF
  have hmm := @run_makeMap Try.prog
  refine callsIn_of_wp_marks Try.func21 rfl trivial ?_ rfl
  simp only [Try.ntmps21, List.size_toArray, List.length_cons, List.length_nil, Nat.reduceAdd, Nat.reduceSub, Array.replicate_succ, Array.replicate_zero, List.push_toArray, List.append_toArray, List.nil_append, List.cons_append]
  gi_wp2_with fail
  refine ⟨trivial, hdd _, (callsIn_wide.2 (icat_any ad N cap ss _ hN hF hN1)).mono ?_⟩
  rintro e w1 ⟨rfl, b1⟩
  obtain ⟨u, hu⟩ : ∃ u, catB N ss = u := ⟨_, rfl⟩
  rw [hu]
  cases u with
  | false =>
    gi_wp2
    exact ⟨_, results_tmp rfl _ _ _, b1, Or.inl ⟨hu, rfl⟩⟩
  | true =>
    have N4 := (catB_parts hu).1
    have HALL : Hid (ss.all L2V.ok = true) := (catB_parts hu).2
    have HU : Hid (catB N ss = true) := hu
    clear hu hN hF
    gi_wp2_with fail
    have m0 : OwnM ((w1.alloc (.map #[] 0)).alloc (.cells #[.map (some w1.heap.size)] 73)) w1.heap.size 0 (.map []) := (World.ownsMap_made w1 Try.prog KT (plainElem Try.prog ET)).alloc _
    have p0 : Cel ((w1.alloc (.map #[] 0)).alloc (.cells #[.map (some w1.heap.size)] 73)) (w1.heap.size + 1) [.map (some w1.heap.size)] 73 := by
      have := Cel.new (w1.alloc (.map #[] 0)) [.map (some w1.heap.size)] 73
      rw [World.size_alloc] at this; exact this
    have b2 : Below w1.heap.size w1 ((w1.alloc (.map #[] 0)).alloc (.cells #[.map (some w1.heap.size)] 73)) := ((Below.refl _ _).alloc (Nat.le_refl _) _).alloc (by simp) _
    obtain ⟨Z, hZ⟩ : ∃ Z, Z = (w1.alloc (.map #[] 0)).alloc (.cells #[.map (some w1.heap.size)] 73) := ⟨_, rfl⟩
    rw [← hZ] at m0 p0 b2 ⊢
    have lB0 := b1.size
    obtain ⟨B, hB⟩ : ∃ B, B = w1.heap.size := ⟨_, rfl⟩
    rw [← hB] at m0 p0 ⊢
    have hBw : w.heap.size ≤ B := by omega
    have B2 := b1.trans (b2.mono b1.size)
    clear hZ hmm hB b2 b1
    have KP : Hid (∀ V, Touch (fun k => k = B) Z V → V.cell? ⟨B + 1, 0, none⟩ = some (.map (some B))) := fun V t => (p0.touch t (fun h => by have : B + 1 = B := h; omega)).cell 0
    have e0 : Below Z.heap.size Z Z.drew := (Below.refl _ _).drew
    have hSS := KP.out _ (Touch.of e0)
    refine wpIn_region_S (fun w' => w'.cell? ⟨B + 1, 0, none⟩ = some (.map (some B))) (by kernel_rfl) ?_
    refine wpAnyS_two (i := 0) (j := 1) (by kernel_rfl) rfl rfl (fun K hK => ?_) (fun K hK => ?_)
    · go_simp
      refine hK.out _ _ hSS ?_
      clear hK K
      refine wpAnyS_one (i := 1) (by kernel_rfl) rfl (fun K hK => ?_)
      go_simp
      refine ⟨trivial, hdd _, (callsIn_wide.2 (ipots_any _)).mono ?_⟩
      rintro e w2 ⟨v, xs, rfl, jv⟩
      obtain ⟨pa, pcap, rfl, FP⟩ := jv.slice rfl
      have b3 : Below Z.heap.size Z w2 := e0.trans (jv.b.mono e0.size)
      have m2 := m0.below b3
      (try dsimp only)
      refine hK.out _ _ (KP.out _ (Touch.of b3)) ?_
      clear hK K jv
      refine wpAnyS_one (i := 2) (by kernel_rfl) rfl (fun K hK => ?_)
      go_simp
      refine ⟨trivial, hdd _, (callsIn_wide.2 (iput_any B 0 (.map []) [] pa 3 pcap way0.pots _ m2 MapIs.empty (by omega) rfl FP pot_fit (by omega))).mono ?_⟩
      rintro e w3 ⟨⟨v3, rfl⟩, t3, D3, m3, d3⟩
      rw [pots3_guards] at d3
      have p3 : Cel w3 (B + 1) [.map (some B)] 73 := (p0.below b3).touch t3 (fun h => by have : B + 1 = B := h; omega)
      have B3 : Below w.heap.size w w3 := (B2.trans (b3.mono B2.size)).trans (t3.below (B := w.heap.size) (Nat.le_trans B2.size b3.size) (fun k hk => by have : k = B := hk; omega))
      have s3 := t3.size
      (try dsimp only)
      refine hK.out _ _ (p3.cell 0) ?_
      clear hK K
      refine wpAnyS_done (by kernel_rfl) ?_ _
      have lp3 := p3.lt
      clear KP m0 p0 m2 FP t3 b3 e0 B2 lB0
      gi_wp2_with fail
      refine wpIn_loop (fun a' w' => ∃ (u5 u6 u20 u21 u22 u23 u24 u25 u26 u27 u28 u29 u30 : Value) (k : Nat) (Ds : List Nat) (D : DataW Unit) (m : Nat), k ≤ N ∧ OwnM w' B m D ∧ m ≤ 3 + 128000 * k ∧ MapIs D (actsP pots3 (ss.take k)) ∧ Cel w' (B + 1) [.map (some B)] 73 ∧ Below w.heap.size w w' ∧ MkOk w.heap.size Ds w' ∧ a' = { tmps := #[.slice ad N cap, undef, .slice none 0 0, .pointer (some ⟨B + 1, 0, none⟩), undef, u5, u6, undef, undef, undef, .slice ad N cap, .bool true, .bool false, .map (some B), .map (some B), .slice pa 3 pcap, v3, .slice ad N cap, .int .i64 N, .int .i64 (k : Int), u20, u21, u22, u23, u24, u25, u26, u27, u28, u29, u30, undef, undef, undef, undef, undef, undef, undef, undef, undef, undef, undef, undef, undef, undef], defers := MkDs Ds }) (fun a' _ => N - (intOf (a'.tmps.getD 19 undef)).toNat) ⟨undef, undef, undef, undef, undef, undef, undef, undef, undef, undef, undef, undef, undef, 0, [], D3, 3, by omega, m3, by omega, d3, p3, B3, MkOk.nil _ _, rfl⟩ ?_
      rintro a0 wr ⟨u5, u6, u20, u21, u22, u23, u24, u25, u26, u27, u28, u29, u30, k, Ds, D, m, hk, hm, hmb, hD, hp, hb, hmk, rfl⟩
      clear m3 d3 p3 B3 lp3 s3
      have HD : Hid (MapIs D (actsP pots3 (ss.take k))) := hD
      have HMK : Hid (MkOk w.heap.size Ds wr) := hmk
      have lp := hp.lt
      clear hD hmk
      by_cases hlt : k < N
      · have hlt' : (k : Int) < N := by omega
        have his : k < ss.length := by rw [HN.out]; exact hlt
        obtain ⟨ab, ao, rfl, hc, hLG⟩ := (HF.out.below hb) k his
        have HSA : Hid (∀ ps, ps = actsP pots3 (ss.take k) → rowsP ps (rowsL (ss[k]?.getD noL).x) = actsP pots3 (ss.take (k + 1))) := fun ps h => by rw [h, actsP_snoc _ _ _ his]
        have hsok : (ss[k]?.getD noL).ok = true := by
          rw [List.getElem?_eq_getElem his]
          exact List.all_eq_true.1 HALL.out _ (List.getElem_mem his)
        obtain ⟨s, hs⟩ : ∃ s, s = ss[k]?.getD noL := ⟨_, rfl⟩
        rw [← hs] at hc hLG HSA hsok
        obtain ⟨sa, sn, sc, sx⟩ := s
        have hAct : actB sn sx = true := hsok
        obtain ⟨hxl, hLin, hsn⟩ := hLG
        have hc' : wr.cell? ⟨ab, ao + k, none⟩ = some (.slice sa sn sc) := hc
        have HLIN : Hid (LinesG wr sa sx) := hLin
        clear hs hc hsok hLin
        obtain ⟨PS, hPS⟩ : ∃ PS, PS = actsP pots3 (ss.take k) := ⟨_, rfl⟩
        have HSA2 : Hid (rowsP PS (rowsL sx) = actsP pots3 (ss.take (k + 1))) := HSA.out PS hPS
        have HD' : Hid (MapIs D (rowsP PS [])) := by show MapIs _ _; rw [hPS]; exact HD.out
        clear HSA HD hPS
        gi_wp2_with fail
        refine ⟨trivial, hdd _, (callsIn_wide.2 (ithrough_any sa sn sc wr)).mono ?_⟩
        rintro e w4 ⟨Bc, rfl, b4, cB⟩
        have m4 := OwnM.below hm b4
        have p4 := hp.below b4
        have mk4 := HMK.out.below b4
        have s4 := b4.size
        have B4 : Below w.heap.size w w4 := hb.trans (b4.mono hb.size)
        have F4 := HLIN.out.below b4
        have sB := B4.size
        clear hm hp hb HMK hc'
        gi_wp2_with fail
        refine wpIn_rows (α := Value × RowM) (gf := 71) (lb := #[.pointer (some ⟨Bc, 0, none⟩)]) rfl (enters_of Try.func71 (by kernel_rfl) rfl) (encs := fun x => #[x.1]) (fun _ => rfl)
          (fun pre x X => pre.length < 128 ∧ RowFit x.2 ∧ RowX X w4.heap.size x.1 x.2) KpR (fun xs => xs.map Prod.snd = rowsL sx)
          (fun pre X => ∃ (D : DataW Unit) (m : Nat), OwnM X B m D ∧ m ≤ 3 + 128000 * k + 1000 * pre.length ∧ MapIs D (rowsP PS (pre.map Prod.snd)) ∧ Cel X (B + 1) [.map (some B)] 73 ∧ Below w.heap.size w X ∧ MkOk w.heap.size Ds X)
          (fun pre X Y h b => by
            obtain ⟨D, m, h1, h2, h3, h4, h5, h6⟩ := h
            exact ⟨D, m, OwnM.below h1 b, h2, h3, h4.below b, h5.trans (b.mono h5.size), h6.below b⟩)
          (fun pre X l r r' h hl lt => by
            obtain ⟨D, m, h1, h2, h3, h4, h5, h6⟩ := h
            exact ⟨D, m, OwnM.loop h1 hl, h2, h3, h4.loop hl, below_loop h5 (by omega), h6.loop hl⟩) KpR.loop (fun X Y Z => KpR.trans) ⟨D, m, m4, by simp; omega, HD'.out, p4, B4, mk4⟩ ?seq ?round ?done
        case seq =>
          intro l J W hJ hb2 hJ0 hY
          have ee0 : (#[.func (.yield l) #[] #[]] ++ #[.pointer (some ⟨Bc, 0, none⟩)] : Array Value) = #[.func (.yield l) #[] #[], .pointer (some ⟨Bc, 0, none⟩)] := rfl
          rw [ee0]
          refine (through_any l w4.heap.size (fun rs X => ∃ xs : List (Value × RowM), xs.map Prod.snd = rs ∧ J xs X) (fun rs X Y h b => ?_) (fun mm rs v r X h fit rx hlen => ?_) Bc sa sn sc sx W (n - 1) hxl (F4.below hb2) hsn hAct ((cB.below hb2).cell 0) hb2.size ⟨[], rfl, hJ0⟩).mono ?_
          · obtain ⟨xs, e, j⟩ := h
            exact ⟨xs, e, hJ _ _ _ j b⟩
          · obtain ⟨xs, e, j⟩ := h
            obtain ⟨fn, tmps, assign, body, hy, hR⟩ := hY mm xs (v, r) X j ⟨by rw [← e, List.length_map] at hlen; exact hlen, fit, rx⟩
            refine ⟨fn, tmps, assign, body, hy, hR.mono ?_⟩
            rintro e' Y ⟨a, b, c⟩
            exact ⟨a, ⟨xs ++ [(v, r)], by simp [e], b⟩, c⟩
          · rintro e Y ⟨h1, ⟨xs, e1, j⟩, _⟩
            exact ⟨h1, xs, e1, j⟩
        case round =>
          rintro mm l pre ⟨v, rm⟩ X r ⟨D1, m1, hO, hm1, hD1, hC, hB, hMk⟩ ⟨hlen, fit, rx⟩ hl hlt2
          dsimp only at fit rx
          obtain ⟨ga, gc, aa, ac, ta, tc, rfl, f0, f1, f2⟩ := rx
          dsimp only
          gi_wp2_with fail
          have bx : Below X.heap.size X (X.alloc (.cells #[.slice ga rm.guards.length gc, .slice aa rm.adds.length ac, .slice ta rm.tells.length tc, .bool rm.stop] 25)) := (Below.refl _ _).alloc (Nat.le_refl _) _
          have cx := Cel.new X [.slice ga rm.guards.length gc, .slice aa rm.adds.length ac, .slice ta rm.tells.length tc, .bool rm.stop] 25
          have hl1 := (bx.block l (lt_of_block hl)).trans hl
          refine ⟨keeps_below bx, KpR.of bx, ?_⟩
          have O1 : OwnM _ _ _ _ := OwnM.loop (o := .loop { r with state := .busy }) (OwnM.below hO bx) hl1
          have C1 := Cel.loop (r' := { r with state := .busy }) (hC.below bx) hl1
          have X1 := Cel.loop (r' := { r with state := .busy }) cx hl1
          have MK1 := MkOk.loop (o := .loop { r with state := .busy }) (hMk.below bx) hl1
          have k1 : KpR X _ := (KpR.of bx).trans (KpR.loop _ l r { r with state := .busy } hl1)
          have B1 := below_loop (r' := { r with state := .busy }) (hB.trans (bx.mono hB.size)) (l := l) (by omega)
          obtain ⟨Y, hY⟩ : ∃ Y, Y = (X.alloc (.cells #[.slice ga rm.guards.length gc, .slice aa rm.adds.length ac, .slice ta rm.tells.length tc, .bool rm.stop] 25)).putObj l (.loop { r with state := .busy }) := ⟨_, rfl⟩
          rw [← hY] at O1 C1 X1 k1 B1 MK1 ⊢
          clear hY
          have FG := f0.at.keepR k1
          have hc1 := C1.cell 0
          have hx1 := X1.cell 0
          have lB1 : B < w4.heap.size := m4.lt
          have lgg := fit.lg
          clear cx bx hl1 hO hC hB f0 f1 f2
          gi_wp2_with fail
          refine ⟨trivial, hdd _, CallsIn.mono (CallsIn.inRound l (callsIn_wide.2 (iput_any B m1 D1 _ ga rm.guards.length gc rm.guards Y O1 hD1 (by omega) rfl FG fit.g (by omega)))) ?_⟩
          rintro e Y1 ⟨⟨v1, rfl⟩, t1, D2, m2, d2⟩
          have C2 := cel_past C1 t1 (by omega)
          have MK2 := MK1.touch t1 (fun q hq o ho => by
            have : q = B := hq
            subst this
            obtain ⟨es, clock, hb⟩ := O1.obj
            rw [hb] at ho
            cases ho)
          clear hc1 hx1
          gi_wp2_with fail
          refine ⟨keeps_touch t1 (by omega), OwnM.kpR O1 t1, D2, _, m2, ?_, ?_, C2, below_touch B1 t1 (by omega), MK2⟩
          · rw [List.length_append, List.length_singleton]; omega
          · rw [List.map_append]
            have e2 : rowsP PS (pre.map Prod.snd ++ [rm]) = guardsP (rowsP PS (pre.map Prod.snd)) rm.guards := by simp [rowsP, List.foldl_append]
            exact e2 ▸ d2
        case done =>
          rintro DD xs W hDD hS ⟨D1, m1, hO, hm1, hD1, hC, hB, hMk⟩ hK
          rw [hS] at hD1
          have hxl2 : xs.length ≤ 128 := by
            have := congrArg List.length hS
            rw [List.length_map] at this
            rw [this]; exact goW_128 (by omega)
          have MK3 : MkOk w.heap.size (DD :: Ds) W := by
            refine ⟨fun D' hD' => ?_, List.nodup_cons.2 ⟨fun hin => ?_, hMk.n⟩, fun D' hD' => ?_⟩
            · rcases List.mem_cons.1 hD' with rfl | h
              · exact hK
              · exact hMk.b D' h
            · have := lt_of_block (mk4.b DD hin)
              omega
            · rcases List.mem_cons.1 hD' with rfl | h
              · omega
              · exact hMk.l D' h
          have HD1 : Hid (MapIs D1 (actsP pots3 (ss.take (k + 1)))) := by show MapIs _ _; rw [← HSA2.out]; exact hD1
          clear hD1 hMk hK
          gi_wp2
          refine ⟨⟨_, _, _, _, _, _, _, _, _, _, _, _, _, k + 1, DD :: Ds, D1, m1, by omega, hO, by omega, HD1.out, hC, hB, MK3, rfl⟩, ?_⟩
          simp [intOf]; omega
      · obtain rfl : k = N := by omega
        have hall : ss.take k = ss := List.take_of_length_le (by rw [HN.out]; exact Nat.le_refl _)
        obtain ⟨ps, hps⟩ : ∃ ps, ps = catP ss := ⟨_, rfl⟩
        have HPS : Hid (ps = catP ss) := hps
        have HDP : Hid (MapIs D ps) := by show MapIs _ _; rw [hps, catP, ← hall]; rw [hall]; have := HD.out; rw [hall] at this; exact this
        have hlen : ps.length ≤ 600000 := by
          have h1 := HDP.out.sz
          have h2 := hm.size_le
          omega
        clear HD hall hps
        have hpc := hp.cell 0
        gi_wp2_with fail
        refine ⟨trivial, hdd _, (callsIn_wide.2 (iorder_any B m D ps wr hm HDP.out (by omega))).mono ?_⟩
        rintro e w5 ⟨L, cur, rfl, b5, lL, c5, hKA⟩
        have HKA : Hid (∀ j, j < ps.length → KeyAt cur j (ps[j]?.getD [])) := hKA
        have HWF : Hid (∀ j, j < ps.length → (ps[j]?.getD []).length = 3) := fun j hj => (HDP.out.wf _ (by rw [List.getElem?_eq_getElem hj]; exact List.getElem_mem hj)).1
        have mk5 := HMK.out.below b5
        have B5 := hb.trans (b5.mono hb.size)
        have lL0 : w.heap.size ≤ L := Nat.le_trans hb.size lL
        obtain ⟨M, hM⟩ : ∃ M, M = ps.length := ⟨_, rfl⟩
        have HM : Hid (M = ps.length) := hM
        rw [← hM] at hlen ⊢
        have j5 : JO w (.slice none 0 0) [] (fun _ => 0) w5 := JO.nil w w5 B5 _
        clear hKA hM hm hp hb HMK b5 HDP hpc
        gi_wp2_with fail
        gi_loopw [7, 9, 34] (fun v _ i wr => ∃ (j : Nat) (ts : List IV) (bs : Nat → Nat), j ≤ M ∧ i = .int .i64 j ∧ ts.length = j ∧ JO w v ts bs wr ∧ ts.map IV.x = ps.take j ∧ Cel wr L cur KT ∧ MkOk w.heap.size Ds wr) (fun _ _ i _ => M - (intOf i).toNat)
        case atStart => exact ⟨0, [], fun _ => 0, Nat.zero_le _, rfl, rfl, j5, rfl, c5, mk5⟩
        case round =>
          clear j5 c5 mk5 B5 lL
          obtain ⟨j, ts, bs, hj, rfl, htl, jo, hx, hc, hmk⟩ := hrel
          have HTL : Hid (ts.length = j) := htl
          have HX : Hid (ts.map IV.x = ps.take j) := hx
          have HMK : Hid (MkOk w.heap.size Ds wr) := hmk
          clear htl hx hmk
          by_cases hlt2 : j < M
          · have hlt2' : (j : Int) < M := by omega
            have hjp : j < ps.length := by have := HM.out; omega
            obtain ⟨k0, k1, k2⟩ := HKA.out j hjp
            have c0 := (hc.cell _).trans k0
            have c1 := (hc.cell _).trans k1
            have c2 := (hc.cell _).trans k2
            have h3 := HWF.out j hjp
            have HXS : Hid (ps.take (j + 1) = ps.take j ++ [ps[j]?.getD []]) := by
              show _ = _
              rw [List.take_succ_eq_append_getElem hjp, List.getElem?_eq_getElem hjp]; rfl
            obtain ⟨p, hp⟩ : ∃ p, p = ps[j]?.getD [] := ⟨_, rfl⟩
            rw [← hp] at c0 c1 c2 h3 HXS
            have HP3 : Hid (p = [p[0]?.getD 0, p[1]?.getD 0, p[2]?.getD 0]) := three_eq h3
            have Hlen3 : Hid (p.length = 3) := h3
            generalize hx0 : p[0]?.getD 0 = x0 at *
            generalize hx1 : p[1]?.getD 0 = x1 at *
            generalize hx2 : p[2]?.getD 0 = x2 at *
            have bx : Below wr.heap.size wr (wr.alloc (.cells #[.int .i64 x0, .int .i64 x1, .int .i64 x2] KT)) := (Below.refl _ _).alloc (Nat.le_refl _) _
            have cx := Cel.new wr [.int .i64 x0, .int .i64 x1, .int .i64 x2] KT
            have ix : Ints (wr.alloc (.cells #[.int .i64 x0, .int .i64 x1, .int .i64 x2] KT)) (some ⟨wr.heap.size, 0, none⟩) 3 p := by
              rw [HP3.out]
              refine ⟨rfl, fun i hi => ⟨wr.heap.size, 0, rfl, ?_⟩⟩
              rw [Nat.zero_add, cx.cell i]
              match i, hi with
              | 0, _ => rfl
              | 1, _ => rfl
              | 2, _ => rfl
            clear hx0 hx1 hx2 hp h3 k0 k1 k2
            gi_wp2_with fail
            refine ⟨trivial, hdd _, (callsIn_wide.2 (clone_any _ 3 3 p _ ix (by omega) (by omega))).mono ?_⟩
            rintro e w6 ⟨v6, rfl, jA⟩
            obtain ⟨aA, cA, A, rfl, oA, gA⟩ := jA.ownx Hlen3.out
            have lA := gA (by omega)
            rw [World.size_alloc] at lA
            have b6 : Below wr.heap.size wr w6 := bx.trans (jA.b.mono (by rw [World.size_alloc]; omega))
            have jo6 := jo.below b6
            have hc6 := hc.below b6
            have mk6 := HMK.out.below b6
            have s6 := b6.size
            have sw := jo.b.size
            have HBS : Hid (∀ i, i < j → bs i < A) := fun i hi => by
              obtain ⟨_, h1, _, _⟩ := jo.k i (by rw [HTL.out]; exact hi)
              have := h1.lt (by omega)
              omega
            have HNE : Hid (some A ≠ u7.ownBlock) := fun e => by
              obtain ⟨_, cc, hh⟩ := jo.blk e.symm
              have := lt_of_block hh
              omega
            have jow := jo6.o
            rw [HTL.out] at jow
            clear jo hc HMK jA gA b6 bx cx ix c0 c1 c2
            obtain ⟨i0, hi0, hz0, hz1, hz2⟩ := info_parts Try.infoI
            gi_wp2_with (gi_at_builtin; go_must (refine wpListIn_append_own_at _ rfl (.tmp 38) (.tmp 41) 46 rfl w.heap.size 26 i0 _ 1 24 Try.underlying46 hi0 hz0 hz1 hz2 rfl (by decide) _ _ _ rfl (jow.alloc _) ⟨w6.heap.size, 0, none⟩ 1 1 [.slice aA 3 cA] rfl rfl (news1 w6 _ _) oneSl (by unfold maxLen; omega) (by omega) (by rw [World.size_alloc]; omega) ?_); intro v7 w7 hown hgrow hnil hat)
            have jo7 := jo6.app (s := ⟨aA, 3, cA, p⟩) HTL.out rfl oA (by omega) HBS.out HNE.out hown hgrow hat
            have hc7 := hc6.grownKT jo6 hgrow
            have mk7 := mk6.grown jo6 hgrow
            have HX7 : Hid ((ts ++ [(⟨aA, 3, cA, p⟩ : IV)]).map IV.x = ps.take (j + 1)) := by
              show _ = _
              rw [List.map_append, HX.out, HXS.out]; rfl
            have HT7 : Hid ((ts ++ [(⟨aA, 3, cA, p⟩ : IV)]).length = j + 1) := by show _ = _; rw [List.length_append, HTL.out]; rfl
            clear hown hgrow hnil hat jow jo6 hc6 mk6 oA HBS HNE
            gi_wp2
            go_roundw
            case rel => exact ⟨j + 1, _, _, by omega, by go_num, HT7.out, jo7, HX7.out, hc7, mk7⟩
            case measure => simp [intOf]; omega
          · obtain rfl : j = M := by omega
            have HXE : Hid (ts.map IV.x = catP ss) := by
              show _ = _
              rw [HX.out, List.take_of_length_le (by have := HM.out; omega), HPS.out]
            have HLE : Hid (ts.length = (catP ss).length) := by
              show _ = _
              rw [← HXE.out, List.length_map]
            gi_wp2
            refine leaves_marks (v := u7) (fun W' => by simp [results, Try.results21, go_sem]) Ds _ HMK.out.b HMK.out.n (fun W' t => ?_)
            have jo' := jo.past t (fun q hq => ⟨HMK.out.l q hq, fun cs ty fr h => by rw [HMK.out.b q hq] at h; cases h⟩)
            have hpos := catP_pos ss
            have hle := HLE.out
            rcases jo'.o.2 with ⟨_, h0⟩ | ⟨g, cap', cur', hv, _, _⟩
            · omega
            · rw [hle] at hv
              subst hv
              exact ⟨jo'.b, .inr ⟨HU.out, g, cap', ts, bs, rfl, HXE.out, jo'⟩⟩
    · go_simp
      refine ⟨trivial, hdd _, (callsIn_wide.2 (ipots_any _)).mono ?_⟩
      rintro e w2 ⟨v, xs, rfl, jv⟩
      obtain ⟨pa, pcap, rfl, FP⟩ := jv.slice rfl
      have b3 : Below Z.heap.size Z w2 := e0.trans (jv.b.mono e0.size)
      have m2 := m0.below b3
      (try dsimp only)
      refine hK.out _ _ (KP.out _ (Touch.of b3)) ?_
      clear hK K jv
      have hS2 := KP.out _ (Touch.of b3)
      refine wpAnyS_one (i := 0) (by kernel_rfl) rfl (fun K hK => ?_)
      go_simp
      refine hK.out _ _ hS2 ?_
      clear hK K
      refine wpAnyS_one (i := 2) (by kernel_rfl) rfl (fun K hK => ?_)
      go_simp
      refine ⟨trivial, hdd _, (callsIn_wide.2 (iput_any B 0 (.map []) [] pa 3 pcap way0.pots _ m2 MapIs.empty (by omega) rfl FP pot_fit (by omega))).mono ?_⟩
      rintro e w3 ⟨⟨v3, rfl⟩, t3, D3, m3, d3⟩
      rw [pots3_guards] at d3
      have p3 : Cel w3 (B + 1) [.map (some B)] 73 := (p0.below b3).touch t3 (fun h => by have : B + 1 = B := h; omega)
      have B3 : Below w.heap.size w w3 := (B2.trans (b3.mono B2.size)).trans (t3.below (B := w.heap.size) (Nat.le_trans B2.size b3.size) (fun k hk => by have : k = B := hk; omega))
      have s3 := t3.size
      (try dsimp only)
      refine hK.out _ _ (p3.cell 0) ?_
      clear hK K
      refine wpAnyS_done (by kernel_rfl) ?_ _
      have lp3 := p3.lt
      clear KP m0 p0 m2 FP t3 b3 e0 B2 lB0
      gi_wp2_with fail
      refine wpIn_loop (fun a' w' => ∃ (u5 u6 u20 u21 u22 u23 u24 u25 u26 u27 u28 u29 u30 : Value) (k : Nat) (Ds : List Nat) (D : DataW Unit) (m : Nat), k ≤ N ∧ OwnM w' B m D ∧ m ≤ 3 + 128000 * k ∧ MapIs D (actsP pots3 (ss.take k)) ∧ Cel w' (B + 1) [.map (some B)] 73 ∧ Below w.heap.size w w' ∧ MkOk w.heap.size Ds w' ∧ a' = { tmps := #[.slice ad N cap, undef, .slice none 0 0, .pointer (some ⟨B + 1, 0, none⟩), undef, u5, u6, undef, undef, undef, .slice ad N cap, .bool true, .bool false, .map (some B), .map (some B), .slice pa 3 pcap, v3, .slice ad N cap, .int .i64 N, .int .i64 (k : Int), u20, u21, u22, u23, u24, u25, u26, u27, u28, u29, u30, undef, undef, undef, undef, undef, undef, undef, undef, undef, undef, undef, undef, undef, undef], defers := MkDs Ds }) (fun a' _ => N - (intOf (a'.tmps.getD 19 undef)).toNat) ⟨undef, undef, undef, undef, undef, undef, undef, undef, undef, undef, undef, undef, undef, 0, [], D3, 3, by omega, m3, by omega, d3, p3, B3, MkOk.nil _ _, rfl⟩ ?_
      rintro a0 wr ⟨u5, u6, u20, u21, u22, u23, u24, u25, u26, u27, u28, u29, u30, k, Ds, D, m, hk, hm, hmb, hD, hp, hb, hmk, rfl⟩
      clear m3 d3 p3 B3 lp3 s3
      have HD : Hid (MapIs D (actsP pots3 (ss.take k))) := hD
      have HMK : Hid (MkOk w.heap.size Ds wr) := hmk
      have lp := hp.lt
      clear hD hmk
      by_cases hlt : k < N
      · have hlt' : (k : Int) < N := by omega
        have his : k < ss.length := by rw [HN.out]; exact hlt
        obtain ⟨ab, ao, rfl, hc, hLG⟩ := (HF.out.below hb) k his
        have HSA : Hid (∀ ps, ps = actsP pots3 (ss.take k) → rowsP ps (rowsL (ss[k]?.getD noL).x) = actsP pots3 (ss.take (k + 1))) := fun ps h => by rw [h, actsP_snoc _ _ _ his]
        have hsok : (ss[k]?.getD noL).ok = true := by
          rw [List.getElem?_eq_getElem his]
          exact List.all_eq_true.1 HALL.out _ (List.getElem_mem his)
        obtain ⟨s, hs⟩ : ∃ s, s = ss[k]?.getD noL := ⟨_, rfl⟩
        rw [← hs] at hc hLG HSA hsok
        obtain ⟨sa, sn, sc, sx⟩ := s
        have hAct : actB sn sx = true := hsok
        obtain ⟨hxl, hLin, hsn⟩ := hLG
        have hc' : wr.cell? ⟨ab, ao + k, none⟩ = some (.slice sa sn sc) := hc
        have HLIN : Hid (LinesG wr sa sx) := hLin
        clear hs hc hsok hLin
        obtain ⟨PS, hPS⟩ : ∃ PS, PS = actsP pots3 (ss.take k) := ⟨_, rfl⟩
        have HSA2 : Hid (rowsP PS (rowsL sx) = actsP pots3 (ss.take (k + 1))) := HSA.out PS hPS
        have HD' : Hid (MapIs D (rowsP PS [])) := by show MapIs _ _; rw [hPS]; exact HD.out
        clear HSA HD hPS
        gi_wp2_with fail
        refine ⟨trivial, hdd _, (callsIn_wide.2 (ithrough_any sa sn sc wr)).mono ?_⟩
        rintro e w4 ⟨Bc, rfl, b4, cB⟩
        have m4 := OwnM.below hm b4
        have p4 := hp.below b4
        have mk4 := HMK.out.below b4
        have s4 := b4.size
        have B4 : Below w.heap.size w w4 := hb.trans (b4.mono hb.size)
        have F4 := HLIN.out.below b4
        have sB := B4.size
        clear hm hp hb HMK hc'
        gi_wp2_with fail
        refine wpIn_rows (α := Value × RowM) (gf := 71) (lb := #[.pointer (some ⟨Bc, 0, none⟩)]) rfl (enters_of Try.func71 (by kernel_rfl) rfl) (encs := fun x => #[x.1]) (fun _ => rfl)
          (fun pre x X => pre.length < 128 ∧ RowFit x.2 ∧ RowX X w4.heap.size x.1 x.2) KpR (fun xs => xs.map Prod.snd = rowsL sx)
          (fun pre X => ∃ (D : DataW Unit) (m : Nat), OwnM X B m D ∧ m ≤ 3 + 128000 * k + 1000 * pre.length ∧ MapIs D (rowsP PS (pre.map Prod.snd)) ∧ Cel X (B + 1) [.map (some B)] 73 ∧ Below w.heap.size w X ∧ MkOk w.heap.size Ds X)
          (fun pre X Y h b => by
            obtain ⟨D, m, h1, h2, h3, h4, h5, h6⟩ := h
            exact ⟨D, m, OwnM.below h1 b, h2, h3, h4.below b, h5.trans (b.mono h5.size), h6.below b⟩)
          (fun pre X l r r' h hl lt => by
            obtain ⟨D, m, h1, h2, h3, h4, h5, h6⟩ := h
            exact ⟨D, m, OwnM.loop h1 hl, h2, h3, h4.loop hl, below_loop h5 (by omega), h6.loop hl⟩) KpR.loop (fun X Y Z => KpR.trans) ⟨D, m, m4, by simp; omega, HD'.out, p4, B4, mk4⟩ ?seq ?round ?done
        case seq =>
          intro l J W hJ hb2 hJ0 hY
          have ee0 : (#[.func (.yield l) #[] #[]] ++ #[.pointer (some ⟨Bc, 0, none⟩)] : Array Value) = #[.func (.yield l) #[] #[], .pointer (some ⟨Bc, 0, none⟩)] := rfl
          rw [ee0]
          refine (through_any l w4.heap.size (fun rs X => ∃ xs : List (Value × RowM), xs.map Prod.snd = rs ∧ J xs X) (fun rs X Y h b => ?_) (fun mm rs v r X h fit rx hlen => ?_) Bc sa sn sc sx W (n - 1) hxl (F4.below hb2) hsn hAct ((cB.below hb2).cell 0) hb2.size ⟨[], rfl, hJ0⟩).mono ?_
          · obtain ⟨xs, e, j⟩ := h
            exact ⟨xs, e, hJ _ _ _ j b⟩
          · obtain ⟨xs, e, j⟩ := h
            obtain ⟨fn, tmps, assign, body, hy, hR⟩ := hY mm xs (v, r) X j ⟨by rw [← e, List.length_map] at hlen; exact hlen, fit, rx⟩
            refine ⟨fn, tmps, assign, body, hy, hR.mono ?_⟩
            rintro e' Y ⟨a, b, c⟩
            exact ⟨a, ⟨xs ++ [(v, r)], by simp [e], b⟩, c⟩
          · rintro e Y ⟨h1, ⟨xs, e1, j⟩, _⟩
            exact ⟨h1, xs, e1, j⟩
        case round =>
          rintro mm l pre ⟨v, rm⟩ X r ⟨D1, m1, hO, hm1, hD1, hC, hB, hMk⟩ ⟨hlen, fit, rx⟩ hl hlt2
          dsimp only at fit rx
          obtain ⟨ga, gc, aa, ac, ta, tc, rfl, f0, f1, f2⟩ := rx
          dsimp only
          gi_wp2_with fail
          have bx : Below X.heap.size X (X.alloc (.cells #[.slice ga rm.guards.length gc, .slice aa rm.adds.length ac, .slice ta rm.tells.length tc, .bool rm.stop] 25)) := (Below.refl _ _).alloc (Nat.le_refl _) _
          have cx := Cel.new X [.slice ga rm.guards.length gc, .slice aa rm.adds.length ac, .slice ta rm.tells.length tc, .bool rm.stop] 25
          have hl1 := (bx.block l (lt_of_block hl)).trans hl
          refine ⟨keeps_below bx, KpR.of bx, ?_⟩
          have O1 : OwnM _ _ _ _ := OwnM.loop (o := .loop { r with state := .busy }) (OwnM.below hO bx) hl1
          have C1 := Cel.loop (r' := { r with state := .busy }) (hC.below bx) hl1
          have X1 := Cel.loop (r' := { r with state := .busy }) cx hl1
          have MK1 := MkOk.loop (o := .loop { r with state := .busy }) (hMk.below bx) hl1
          have k1 : KpR X _ := (KpR.of bx).trans (KpR.loop _ l r { r with state := .busy } hl1)
          have B1 := below_loop (r' := { r with state := .busy }) (hB.trans (bx.mono hB.size)) (l := l) (by omega)
          obtain ⟨Y, hY⟩ : ∃ Y, Y = (X.alloc (.cells #[.slice ga rm.guards.length gc, .slice aa rm.adds.length ac, .slice ta rm.tells.length tc, .bool rm.stop] 25)).putObj l (.loop { r with state := .busy }) := ⟨_, rfl⟩
          rw [← hY] at O1 C1 X1 k1 B1 MK1 ⊢
          clear hY
          have FG := f0.at.keepR k1
          have hc1 := C1.cell 0
          have hx1 := X1.cell 0
          have lB1 : B < w4.heap.size := m4.lt
          have lgg := fit.lg
          clear cx bx hl1 hO hC hB f0 f1 f2
          gi_wp2_with fail
          refine ⟨trivial, hdd _, CallsIn.mono (CallsIn.inRound l (callsIn_wide.2 (iput_any B m1 D1 _ ga rm.guards.length gc rm.guards Y O1 hD1 (by omega) rfl FG fit.g (by omega)))) ?_⟩
          rintro e Y1 ⟨⟨v1, rfl⟩, t1, D2, m2, d2⟩
          have C2 := cel_past C1 t1 (by omega)
          have MK2 := MK1.touch t1 (fun q hq o ho => by
            have : q = B := hq
            subst this
            obtain ⟨es, clock, hb⟩ := O1.obj
            rw [hb] at ho
            cases ho)
          clear hc1 hx1
          gi_wp2_with fail
          refine ⟨keeps_touch t1 (by omega), OwnM.kpR O1 t1, D2, _, m2, ?_, ?_, C2, below_touch B1 t1 (by omega), MK2⟩
          · rw [List.length_append, List.length_singleton]; omega
          · rw [List.map_append]
            have e2 : rowsP PS (pre.map Prod.snd ++ [rm]) = guardsP (rowsP PS (pre.map Prod.snd)) rm.guards := by simp [rowsP, List.foldl_append]
            exact e2 ▸ d2
        case done =>
          rintro DD xs W hDD hS ⟨D1, m1, hO, hm1, hD1, hC, hB, hMk⟩ hK
          rw [hS] at hD1
          have hxl2 : xs.length ≤ 128 := by
            have := congrArg List.length hS
            rw [List.length_map] at this
            rw [this]; exact goW_128 (by omega)
          have MK3 : MkOk w.heap.size (DD :: Ds) W := by
            refine ⟨fun D' hD' => ?_, List.nodup_cons.2 ⟨fun hin => ?_, hMk.n⟩, fun D' hD' => ?_⟩
            · rcases List.mem_cons.1 hD' with rfl | h
              · exact hK
              · exact hMk.b D' h
            · have := lt_of_block (mk4.b DD hin)
              omega
            · rcases List.mem_cons.1 hD' with rfl | h
              · omega
              · exact hMk.l D' h
          have HD1 : Hid (MapIs D1 (actsP pots3 (ss.take (k + 1)))) := by show MapIs _ _; rw [← HSA2.out]; exact hD1
          clear hD1 hMk hK
          gi_wp2
          refine ⟨⟨_, _, _, _, _, _, _, _, _, _, _, _, _, k + 1, DD :: Ds, D1, m1, by omega, hO, by omega, HD1.out, hC, hB, MK3, rfl⟩, ?_⟩
          simp [intOf]; omega
      · obtain rfl : k = N := by omega
        have hall : ss.take k = ss := List.take_of_length_le (by rw [HN.out]; exact Nat.le_refl _)
        obtain ⟨ps, hps⟩ : ∃ ps, ps = catP ss := ⟨_, rfl⟩
        have HPS : Hid (ps = catP ss) := hps
        have HDP : Hid (MapIs D ps) := by show MapIs _ _; rw [hps, catP, ← hall]; rw [hall]; have := HD.out; rw [hall] at this; exact this
        have hlen : ps.length ≤ 600000 := by
          have h1 := HDP.out.sz
          have h2 := hm.size_le
          omega
        clear HD hall hps
        have hpc := hp.cell 0
        gi_wp2_with fail
        refine ⟨trivial, hdd _, (callsIn_wide.2 (iorder_any B m D ps wr hm HDP.out (by omega))).mono ?_⟩
        rintro e w5 ⟨L, cur, rfl, b5, lL, c5, hKA⟩
        have HKA : Hid (∀ j, j < ps.length → KeyAt cur j (ps[j]?.getD [])) := hKA
        have HWF : Hid (∀ j, j < ps.length → (ps[j]?.getD []).length = 3) := fun j hj => (HDP.out.wf _ (by rw [List.getElem?_eq_getElem hj]; exact List.getElem_mem hj)).1
        have mk5 := HMK.out.below b5
        have B5 := hb.trans (b5.mono hb.size)
        have lL0 : w.heap.size ≤ L := Nat.le_trans hb.size lL
        obtain ⟨M, hM⟩ : ∃ M, M = ps.length := ⟨_, rfl⟩
        have HM : Hid (M = ps.length) := hM
        rw [← hM] at hlen ⊢
        have j5 : JO w (.slice none 0 0) [] (fun _ => 0) w5 := JO.nil w w5 B5 _
        clear hKA hM hm hp hb HMK b5 HDP hpc
        gi_wp2_with fail
        gi_loopw [7, 9, 34] (fun v _ i wr => ∃ (j : Nat) (ts : List IV) (bs : Nat → Nat), j ≤ M ∧ i = .int .i64 j ∧ ts.length = j ∧ JO w v ts bs wr ∧ ts.map IV.x = ps.take j ∧ Cel wr L cur KT ∧ MkOk w.heap.size Ds wr) (fun _ _ i _ => M - (intOf i).toNat)
        case atStart => exact ⟨0, [], fun _ => 0, Nat.zero_le _, rfl, rfl, j5, rfl, c5, mk5⟩
        case round =>
          clear j5 c5 mk5 B5 lL
          obtain ⟨j, ts, bs, hj, rfl, htl, jo, hx, hc, hmk⟩ := hrel
          have HTL : Hid (ts.length = j) := htl
          have HX : Hid (ts.map IV.x = ps.take j) := hx
          have HMK : Hid (MkOk w.heap.size Ds wr) := hmk
          clear htl hx hmk
          by_cases hlt2 : j < M
          · have hlt2' : (j : Int) < M := by omega
            have hjp : j < ps.length := by have := HM.out; omega
            obtain ⟨k0, k1, k2⟩ := HKA.out j hjp
            have c0 := (hc.cell _).trans k0
            have c1 := (hc.cell _).trans k1
            have c2 := (hc.cell _).trans k2
            have h3 := HWF.out j hjp
            have HXS : Hid (ps.take (j + 1) = ps.take j ++ [ps[j]?.getD []]) := by
              show _ = _
              rw [List.take_succ_eq_append_getElem hjp, List.getElem?_eq_getElem hjp]; rfl
            obtain ⟨p, hp⟩ : ∃ p, p = ps[j]?.getD [] := ⟨_, rfl⟩
            rw [← hp] at c0 c1 c2 h3 HXS
            have HP3 : Hid (p = [p[0]?.getD 0, p[1]?.getD 0, p[2]?.getD 0]) := three_eq h3
            have Hlen3 : Hid (p.length = 3) := h3
            generalize hx0 : p[0]?.getD 0 = x0 at *
            generalize hx1 : p[1]?.getD 0 = x1 at *
            generalize hx2 : p[2]?.getD 0 = x2 at *
            have bx : Below wr.heap.size wr (wr.alloc (.cells #[.int .i64 x0, .int .i64 x1, .int .i64 x2] KT)) := (Below.refl _ _).alloc (Nat.le_refl _) _
            have cx := Cel.new wr [.int .i64 x0, .int .i64 x1, .int .i64 x2] KT
            have ix : Ints (wr.alloc (.cells #[.int .i64 x0, .int .i64 x1, .int .i64 x2] KT)) (some ⟨wr.heap.size, 0, none⟩) 3 p := by
              rw [HP3.out]
              refine ⟨rfl, fun i hi => ⟨wr.heap.size, 0, rfl, ?_⟩⟩
              rw [Nat.zero_add, cx.cell i]
              match i, hi with
              | 0, _ => rfl
              | 1, _ => rfl
              | 2, _ => rfl
            clear hx0 hx1 hx2 hp h3 k0 k1 k2
            gi_wp2_with fail
            refine ⟨trivial, hdd _, (callsIn_wide.2 (clone_any _ 3 3 p _ ix (by omega) (by omega))).mono ?_⟩
            rintro e w6 ⟨v6, rfl, jA⟩
            obtain ⟨aA, cA, A, rfl, oA, gA⟩ := jA.ownx Hlen3.out
            have lA := gA (by omega)
            rw [World.size_alloc] at lA
            have b6 : Below wr.heap.size wr w6 := bx.trans (jA.b.mono (by rw [World.size_alloc]; omega))
            have jo6 := jo.below b6
            have hc6 := hc.below b6
            have mk6 := HMK.out.below b6
            have s6 := b6.size
            have sw := jo.b.size
            have HBS : Hid (∀ i, i < j → bs i < A) := fun i hi => by
              obtain ⟨_, h1, _, _⟩ := jo.k i (by rw [HTL.out]; exact hi)
              have := h1.lt (by omega)
              omega
            have HNE : Hid (some A ≠ u7.ownBlock) := fun e => by
              obtain ⟨_, cc, hh⟩ := jo.blk e.symm
              have := lt_of_block hh
              omega
            have jow := jo6.o
            rw [HTL.out] at jow
            clear jo hc HMK jA gA b6 bx cx ix c0 c1 c2
            obtain ⟨i0, hi0, hz0, hz1, hz2⟩ := info_parts Try.infoI
            gi_wp2_with (gi_at_builtin; go_must (refine wpListIn_append_own_at _ rfl (.tmp 38) (.tmp 41) 46 rfl w.heap.size 26 i0 _ 1 24 Try.underlying46 hi0 hz0 hz1 hz2 rfl (by decide) _ _ _ rfl (jow.alloc _) ⟨w6.heap.size, 0, none⟩ 1 1 [.slice aA 3 cA] rfl rfl (news1 w6 _ _) oneSl (by unfold maxLen; omega) (by omega) (by rw [World.size_alloc]; omega) ?_); intro v7 w7 hown hgrow hnil hat)
            have jo7 := jo6.app (s := ⟨aA, 3, cA, p⟩) HTL.out rfl oA (by omega) HBS.out HNE.out hown hgrow hat
            have hc7 := hc6.grownKT jo6 hgrow
            have mk7 := mk6.grown jo6 hgrow
            have HX7 : Hid ((ts ++ [(⟨aA, 3, cA, p⟩ : IV)]).map IV.x = ps.take (j + 1)) := by
              show _ = _
              rw [List.map_append, HX.out, HXS.out]; rfl
            have HT7 : Hid ((ts ++ [(⟨aA, 3, cA, p⟩ : IV)]).length = j + 1) := by show _ = _; rw [List.length_append, HTL.out]; rfl
            clear hown hgrow hnil hat jow jo6 hc6 mk6 oA HBS HNE
            gi_wp2
            go_roundw
            case rel => exact ⟨j + 1, _, _, by omega, by go_num, HT7.out, jo7, HX7.out, hc7, mk7⟩
            case measure => simp [intOf]; omega
          · obtain rfl : j = M := by omega
            have HXE : Hid (ts.map IV.x = catP ss) := by
              show _ = _
              rw [HX.out, List.take_of_length_le (by have := HM.out; omega), HPS.out]
            have HLE : Hid (ts.length = (catP ss).length) := by
              show _ = _
              rw [← HXE.out, List.length_map]
            gi_wp2
            refine leaves_marks (v := u7) (fun W' => by simp [results, Try.results21, go_sem]) Ds _ HMK.out.b HMK.out.n (fun W' t => ?_)
            have jo' := jo.past t (fun q hq => ⟨HMK.out.l q hq, fun cs ty fr h => by rw [HMK.out.b q hq] at h; cases h⟩)
            have hpos := catP_pos ss
            have hle := HLE.out
            rcases jo'.o.2 with ⟨_, h0⟩ | ⟨g, cap', cur', hv, _, _⟩
            · omega
            · rw [hle] at hv
              subst hv
              exact ⟨jo'.b, .inr ⟨HU.out, g, cap', ts, bs, rfl, HXE.out, jo'⟩⟩

theorem icatforms_any (ad : Option Addr) (N cap : Nat) (ss : List L2V) (w : World) (hN : ss.length = N) (hF : LSG w ad ss) (hN1 : N ≤ 1048576) :
    Calls Try.prog 21 #[.slice ad N cap] w fun e w' => Below w.heap.size w w' ∧ ((catB N ss = false ∧ e = .returned (.slice none 0 0)) ∨ (catB N ss = true ∧ ∃ G cG ts bs, e = .returned (.slice (some ⟨G, 0, none⟩) (catP ss).length cG) ∧ ts.map IV.x = catP ss ∧ JO w (.slice (some ⟨G, 0, none⟩) (catP ss).length cG) ts bs w')) :=
  callsIn_wide.1 (icatforms_in ad N cap ss w 0 hN hF hN1)

end Go.Proofs.Ytemcinobgdphnaa
namespace Go.Proofs.Ytemcinobgdphnaa
open Go.RowKit
set_option linter.unusedVariables false
set_option maxRecDepth 100000

/-- Parts in blocks of their own. -/
structure SL (W : World) (a : Option Addr) (G n : Nat) (ts : List IV) (bs : Nat → Nat) (f : Nat → List Int) : Prop where
  c : ∀ j, j < n → a = some ⟨G, 0, none⟩ ∧ W.cell? ⟨G, j, none⟩ = some (.slice (ts[j]?.getD noI).a 3 (ts[j]?.getD noI).cap) ∧ OwnX W (ts[j]?.getD noI).a (bs j) 3 (f j) ∧ bs j ≠ G
  d : ∀ i j, i < j → j < n → bs i < bs j
theorem SL.touch {S : Nat → Prop} {W W' : World} {a : Option Addr} {G n : Nat} {ts : List IV} {bs : Nat → Nat} {f : Nat → List Int} (h : SL W a G n ts bs f) (t : Touch S W W') (hG : 0 < n → ¬ S G) (hb : ∀ j, j < n → ¬ S (bs j)) : SL W' a G n ts bs f :=
  ⟨fun j hj => by
    obtain ⟨h1, h2, h3, h4⟩ := h.c j hj
    refine ⟨h1, ?_, h3.touch t (fun _ => hb j hj), h4⟩
    rw [World.cell?_of_block (t.block G (block_lt h2) (hG (by omega)))]; exact h2, h.d⟩
theorem SL.below {W W' : World} {a : Option Addr} {G n : Nat} {ts : List IV} {bs : Nat → Nat} {f : Nat → List Int} (h : SL W a G n ts bs f) (b : Below W.heap.size W W') : SL W' a G n ts bs f := h.touch (S := fun _ => False) (Touch.of b) (fun _ h => h) (fun _ _ h => h)
theorem SL.ext {W : World} {a : Option Addr} {G n : Nat} {ts : List IV} {bs : Nat → Nat} {f g : Nat → List Int} (h : SL W a G n ts bs f) (e : ∀ j, j < n → f j = g j) : SL W a G n ts bs g := ⟨fun j hj => by rw [← e j hj]; exact h.c j hj, h.d⟩
theorem SL.none (W : World) (a : Option Addr) (G : Nat) (ts : List IV) (bs : Nat → Nat) (f : Nat → List Int) : SL W a G 0 ts bs f := ⟨fun j hj => by omega, fun i j _ hj => by omega⟩
theorem JO.sl {w W : World} {G n cG : Nat} {ts : List IV} {bs : Nat → Nat} (j : JO w (.slice (some ⟨G, 0, Option.none⟩) n cG) ts bs W) (hn : ts.length = n) : SL W (some ⟨G, 0, Option.none⟩) G n ts bs (fun i => (ts[i]?.getD noI).x) := by
  subst hn
  refine ⟨fun i hi => ?_, j.d⟩
  obtain ⟨a, b, c, d⟩ := j.k i hi
  refine ⟨rfl, ?_, b, fun e => d (by rw [e]; rfl)⟩
  rw [own_cell j.o i (by omega), List.getElem?_map, List.getElem?_eq_getElem hi]
  rw [List.getElem?_eq_getElem hi] at a
  simp only [Option.getD_some] at a
  simp [IV.v, a]
theorem SL.isg {W : World} {a : Option Addr} {G n : Nat} {ts : List IV} {bs : Nat → Nat} (h : SL W a G n ts bs (fun i => (ts[i]?.getD noI).x)) (hn : ts.length = n) (h3 : ∀ i, i < n → (ts[i]?.getD noI).n = 3) : ISG W a ts := fun i hi => by
  obtain ⟨h1, h2, hx, _⟩ := h.c i (by omega)
  refine ⟨G, 0, h1, ?_, ?_, by rw [h3 i (by omega)]; omega⟩
  · rw [Nat.zero_add, h2, IV.v, h3 i (by omega)]
  · rw [h3 i (by omega)]; exact hx.ints

end Go.Proofs.Ytemcinobgdphnaa
namespace Go.Proofs.Ytemcinobgdphnaa
open Go.RowKit
set_option linter.unusedVariables false

theorem goW_copies {ls gs : List LV} (hl : gs.length = ls.length) (h : copiesL ls gs) (f : Nat) : ∀ (i : Nat) (y : Way), goW gs f i y = goW ls f i y := by
  induction f with
  | zero => intro i y; rfl
  | succ f ih =>
    intro i y
    rw [goW, goW, hl]
    by_cases hi : i < ls.length
    · obtain ⟨a1, a2, a3, a4, a5, a6, _⟩ := h i (by omega)
      have e : intoX (gs[i]?.getD noLV).f y.pots = intoX (ls[i]?.getD noLV).f y.pots := by rw [intoX, intoX, a4, a5, a6]
      rw [if_pos hi, if_pos hi, a1, a2, a3, e, ih, ih, ih, ih]
    · rw [if_neg hi, if_neg hi]
theorem rowsL_copies {ls gs : List LV} (hl : gs.length = ls.length) (h : copiesL ls gs) : rowsL gs = rowsL ls := goW_copies hl h 7 0 way0

/-- How many bools are answered. -/
def lenB (v : Bool) : Nat := if v then 3 else 0
theorem lenB_le (v : Bool) : lenB v ≤ 3 := by cases v <;> simp [lenB]

theorem icatreads_at (v : Bool) (R : Nat → Bool) (ad : Option Addr) (N cap : Nat) (gs : List LV) (w : World) (hN : gs.length = N) (hF : LinesG w ad gs) (hN1 : N ≤ 1048576) (hv : actB N gs = v) (hR : readsR (rowsL gs) = R) :
    Calls Try.prog 56 #[.slice ad N cap] w fun e w' => ∃ a cp, e = .returned (.slice a (lenB v) cp) ∧ Below w.heap.size w w' ∧ (v = false ∨ (v = true ∧ ∃ G, a = some ⟨G, 0, none⟩ ∧ w.heap.size ≤ G ∧ OwnBB w' G R)) := by
  refine (icatreads_any ad N cap gs w hN hF hN1).mono ?_
  rintro e w' ⟨b, ⟨h, rfl⟩ | ⟨h, G, cG, rfl, hG, o⟩⟩
  · rw [hv] at h; subst h
    exact ⟨_, 0, rfl, b, Or.inl rfl⟩
  · rw [hv] at h; subst h; subst hR
    exact ⟨_, cG, rfl, b, Or.inr ⟨rfl, G, rfl, hG, o⟩⟩

end Go.Proofs.Ytemcinobgdphnaa
namespace Go.Proofs.Ytemcinobgdphnaa
open Go.ChangeShapes Go.WideShapes Go.ChangeAt Go.RowKit Go.Joins
set_option linter.unusedVariables false
set_option maxRecDepth 100000

/-- A treaty as a value. -/
abbrev treV (a : Option Addr) (n cap : Nat) (c : Option Addr) (m cap' : Nat) : Value := .agg #[.slice a n cap, .slice c m cap']

end Go.Proofs.Ytemcinobgdphnaa
namespace Go.Proofs.Ytemcinobgdphnaa
open Go.RowKit
set_option linter.unusedVariables false

/-- A treaty is ok. -/
def trtB (n m : Nat) (C D : List Int) : Bool := okN 3 10000 n C && (inB m 1 3 && betB 0 50 D)

/-- What the first k sites but one may. -/
def others (D : List Int) (s : Int) : Nat → Int
  | 0 => 0
  | k + 1 => if (k : Int) = s then others D s k else wrap64 (others D s k + D[k]?.getD 0)

/-- Parts are ok. -/
def partsB (ss : List IV) : Bool := ss.all fun s => okN 3 10000000 s.n s.x
theorem partsB_step {ss : List IV} {k : Nat} (h : k < ss.length) (h1 : partsB (ss.take k) = true) (h2 : okN 3 10000000 (ss[k]?.getD noI).n (ss[k]?.getD noI).x = true) : partsB (ss.take (k + 1)) = true := by
  unfold partsB at *
  rw [List.take_succ_eq_append_getElem h, List.all_append, h1]
  rw [List.getElem?_eq_getElem h] at h2
  simpa using h2
theorem partsB_end {ss : List IV} {k : Nat} (h : ss.length ≤ k) (h1 : partsB (ss.take k) = true) : partsB ss = true := by
  rwa [List.take_of_length_le h] at h1
theorem partsB_false {ss : List IV} {k : Nat} (h : k < ss.length) (hn : okN 3 10000000 (ss[k]?.getD noI).n (ss[k]?.getD noI).x = false) : partsB ss = false := by
  unfold partsB
  rw [List.all_eq_false]
  refine ⟨ss[k], List.getElem_mem h, ?_⟩
  rw [List.getElem?_eq_getElem h] at hn
  simpa using hn
theorem partsB_at {ss : List IV} {k : Nat} (h : k < ss.length) (hp : partsB ss = true) : okN 3 10000000 (ss[k]?.getD noI).n (ss[k]?.getD noI).x = true := by
  cases hn : okN 3 10000000 (ss[k]?.getD noI).n (ss[k]?.getD noI).x
  · rw [partsB_false h hn] at hp; cases hp
  · rfl

end Go.Proofs.Ytemcinobgdphnaa
namespace Go.Proofs.Ytemcinobgdphnaa
open Go.ChangeShapes Go.WideShapes Go.ChangeAt Go.RowKit Go.Joins
set_option linter.unusedVariables false
set_option maxRecDepth 100000

/-- A plan as a value. -/
abbrev plV (cl : Int) (ad : Option Addr) (N cap : Nat) (ga : Option Addr) (gn gc : Nat) (sa : Option Addr) (sn sc : Nat) : Value := .agg #[.int .i64 cl, .slice ad N cap, .slice ga gn gc, .slice sa sn sc]

/-- What a plan holds, that may be copied. -/
structure PlAt (w : World) (ad : Option Addr) (N : Nat) (ss : List L2V) (ga : Option Addr) (gn : Nat) (G : List Int) (sa : Option Addr) (sn : Nat) (S : List Int) : Prop where
  a : LSG w ad ss
  ha : ss.length = N
  za : N ≤ 1048576
  g : Ints w ga gn G
  zg : gn ≤ 1048576
  s : Ints w sa sn S
  zs : sn ≤ 1048576
theorem PlAt.below {w w' : World} {ad : Option Addr} {N : Nat} {ss : List L2V} {ga : Option Addr} {gn : Nat} {G : List Int} {sa : Option Addr} {sn : Nat} {S : List Int} (h : PlAt w ad N ss ga gn G sa sn S) (b : Below w.heap.size w w') : PlAt w' ad N ss ga gn G sa sn S :=
  ⟨h.a.below b, h.ha, h.za, h.g.below b, h.zg, h.s.below b, h.zs⟩
theorem PlAt.alloc {w : World} {ad : Option Addr} {N : Nat} {ss : List L2V} {ga : Option Addr} {gn : Nat} {G : List Int} {sa : Option Addr} {sn : Nat} {S : List Int} (h : PlAt w ad N ss ga gn G sa sn S) (o : Obj) : PlAt (w.alloc o) ad N ss ga gn G sa sn S :=
  h.below ((Below.refl _ _).alloc (Nat.le_refl _) _)

theorem Cel.quadP {w : World} {B : Nat} {x y z u : Value} {t : TypeId} (h : Cel w B [x, y, z, u] t) : w.cell? ⟨B, 0, none⟩ = some x ∧ w.cell? ⟨B, 1, none⟩ = some y ∧ w.cell? ⟨B, 2, none⟩ = some z ∧ w.cell? ⟨B, 3, none⟩ = some u := ⟨h.cell 0, h.cell 1, h.cell 2, h.cell 3⟩
/-- A box, and all that came before is as it was. -/
structure BP (w : World) (B : Nat) (la : List Value) (ty : TypeId) (W : World) : Prop where
  p : Cel W B la ty
  b : Below w.heap.size w W
theorem BP.new (w : World) (la : List Value) (ty : TypeId) : BP w w.heap.size la ty (w.alloc (.cells la.toArray ty)) := ⟨Cel.new w la ty, (Below.refl _ _).alloc (Nat.le_refl _) _⟩
theorem BP.below {w W W' : World} {B : Nat} {la : List Value} {ty : TypeId} (h : BP w B la ty W) (b : Below W.heap.size W W') : BP w B la ty W' := ⟨h.p.below b, h.b.trans (b.mono h.b.size)⟩
theorem BP.alloc {w W : World} {B : Nat} {la : List Value} {ty : TypeId} (h : BP w B la ty W) (o : Obj) : BP w B la ty (W.alloc o) := h.below ((Below.refl _ _).alloc (Nat.le_refl _) _)

theorem ML2.setLow {W : World} {B N : Nat} {ts : List L2V} (h : ML2 W B N ts) {X : Nat} (hX : X < B) (i : Nat) (v : Value) : ML2 (W.setCell ⟨X, i, none⟩ v) B N ts := by
  have T : Touch (fun x => x = X) W (W.setCell ⟨X, i, none⟩ v) := Touch.setCell (S := fun x => x = X) (Touch.refl _ _) rfl _
  obtain ⟨vs, h1, h2, h3⟩ := h.c
  obtain ⟨c, c1, c2, c3⟩ := h.d
  exact ⟨⟨vs, h1.setOther (by omega) _ _, h2, h3⟩, fun i hi => (h.l i hi).touch T (fun x hx => by omega), c, c1, by rw [size_setCell]; exact c2, c3⟩

theorem copies_mapP {ss ts : List L2V} (hl : ts.length = ss.length) (h : copiesL2S ss ts) : ts.map L2V.ok = ss.map L2V.ok := by
  apply List.ext_getElem?
  intro i
  by_cases hi : i < ts.length
  · obtain ⟨e1, e2, e3⟩ := h i hi
    have : (ts[i]?.getD noL).ok = (ss[i]?.getD noL).ok := by rw [L2V.ok, L2V.ok, e1]; exact copiesL_act e2 e3
    rw [List.getElem?_eq_getElem hi, List.getElem?_eq_getElem (by omega)] at this
    simp only [Option.getD_some] at this
    rw [List.getElem?_map, List.getElem?_map, List.getElem?_eq_getElem hi, List.getElem?_eq_getElem (by omega)]
    simp [this]
  · rw [List.getElem?_eq_none (by simp; omega), List.getElem?_eq_none (by simp; omega)]
theorem copies_catP {ss ts : List L2V} {N : Nat} (hl : ts.length = ss.length) (h : copiesL2S ss ts) : catB N ts = catB N ss := by
  have h3 := copies_mapP hl h
  have e1 : ∀ xs : List L2V, xs.all L2V.ok = (xs.map L2V.ok).all id := fun xs => by simp [List.all_map]
  rw [catB, catB, e1, e1, h3]
theorem copies_sameP {ss ts us : List L2V} {N : Nat} (h1 : ts.length = N) (h2 : us.length = N) (c1 : copiesL2S ss ts) (c2 : copiesL2S ss us) (hl : ∀ i, i < N → (ts[i]?.getD noL).x.length = (ts[i]?.getD noL).n) : ∀ i, i < N → sameL2 (ts[i]?.getD noL) (us[i]?.getD noL) := fun i hi => by
  obtain ⟨a1, a2, a3⟩ := c1 i (by omega)
  obtain ⟨b1, b2, b3⟩ := c2 i (by omega)
  refine ⟨by rw [a1, b1], fun j hj => ?_⟩
  have e1 := hl i hi
  exact copiesL_same (N := (ts[i]?.getD noL).n) e1 (by rw [b2, ← a2]; exact e1) a3 b3 j hj
theorem ML2.lens {W : World} {B N : Nat} {ts : List L2V} (h : ML2 W B N ts) (hl : ts.length = N) : ∀ i, i < N → (ts[i]?.getD noL).x.length = (ts[i]?.getD noL).n := fun i hi => by
  obtain ⟨b, off, _, _, h⟩ := h.g i (by rw [hl]; exact hi)
  exact h.1

/-- A plan is ok. -/
def plnB (cl : Int) (N : Nat) (ss : List L2V) (gn : Nat) (G : List Int) (sn : Nat) (S : List Int) : Bool := inB cl 1 4 && (catB N ss && (okN 3 1000 sn S && trtB sn gn S G))

theorem open_LSC {H : Type} {enc : TypeId × Value → H} {W : World} {fuel : Nat} {v : Value} {y : DataW H × List MemPlace}
    (hf : DataW.trod enc Try.prog W 0 (fun _ => true) true fuel 44 [v] = some y) :
    ∃ ad N cap ss, v = .slice ad N cap ∧ ss.length = N ∧ LSM W ad ss ∧ N ≤ maxLen := by
  obtain ⟨ad, N, cap, ss, hv, hl, hN, hall⟩ := open_sliceC noL (fun s => [L2V.v s]) (fun s => LM W s) (c := 1) (by omega) Try.underlying44 (by kernel_rfl) (fun _ => rfl) (fun fuel cs x hx => by
    have hl : cs.length = 1 := (trod_lenL Try.underlying52 hx)
    match cs, hl with
    | [c], _ =>
      obtain ⟨s, hs, hr⟩ := open_L1 hx
      exact ⟨s, by rw [hs], hr⟩) hf
  refine ⟨ad, N, cap, ss, hv, hl, fun i hi => ?_, hN⟩
  obtain ⟨b, off, e, hc, hr⟩ := hall i hi
  have h0 := hc 0 (by omega)
  simp only [Nat.mul_one, Nat.add_zero, List.getElem?_cons_zero] at h0
  exact ⟨b, off, e, h0, hr⟩

end Go.Proofs.Ytemcinobgdphnaa
namespace Go.Proofs.Ytemcinobgdphnaa
open Go.RowKit
set_option linter.unusedVariables false

theorem rows_map {ss ts : List L2V} (hl : ts.length = ss.length) (h : copiesL2S ss ts) : ts.map (fun s => rowsL s.x) = ss.map (fun s => rowsL s.x) := by
  apply List.ext_getElem?
  intro i
  by_cases hi : i < ts.length
  · obtain ⟨e1, e2, e3⟩ := h i hi
    have := rowsL_copies e2 e3
    rw [List.getElem?_eq_getElem hi, List.getElem?_eq_getElem (by omega)] at this
    simp only [Option.getD_some] at this
    rw [List.getElem?_map, List.getElem?_map, List.getElem?_eq_getElem hi, List.getElem?_eq_getElem (by omega)]
    simp [this]
  · rw [List.getElem?_eq_none (by simp; omega), List.getElem?_eq_none (by simp; omega)]
theorem pins_copies {ss ts : List L2V} (hl : ts.length = ss.length) (h : copiesL2S ss ts) : pinsA ts = pinsA ss := by
  funext v
  have e : ∀ xs : List L2V, pinsA xs v = (xs.map (fun s => rowsL s.x)).any (fun r => readsR r v) := fun xs => by simp [pinsA, List.any_map, Function.comp_def]
  rw [e, e, rows_map hl h]
theorem catP_copies {ss ts : List L2V} (hl : ts.length = ss.length) (h : copiesL2S ss ts) : catP ts = catP ss := by
  have e : ∀ xs : List L2V, catP xs = (xs.map (fun s => rowsL s.x)).foldl rowsP pots3 := fun xs => by rw [catP, actsP, List.foldl_map]
  rw [e, e, rows_map hl h]

theorem icatpins_at (v : Bool) (R : Nat → Bool) (ad : Option Addr) (N cap : Nat) (gs : List L2V) (w : World) (hN : gs.length = N) (hF : LSG w ad gs) (hN1 : N ≤ 1048576) (hv : catB N gs = v) (hR : pinsA gs = R) :
    Calls Try.prog 26 #[.slice ad N cap] w fun e w' => ∃ a cp, e = .returned (.slice a (lenB v) cp) ∧ Below w.heap.size w w' ∧ (v = false ∨ (v = true ∧ ∃ G, a = some ⟨G, 0, none⟩ ∧ w.heap.size ≤ G ∧ OwnBB w' G R)) := by
  refine (icatpins_any ad N cap gs w hN hF hN1).mono ?_
  rintro e w' ⟨b, ⟨h, rfl⟩ | ⟨h, G, cG, rfl, hG, o⟩⟩
  · rw [hv] at h; subst h
    exact ⟨_, 0, rfl, b, Or.inl rfl⟩
  · rw [hv] at h; subst h; subst hR
    exact ⟨_, cG, rfl, b, Or.inr ⟨rfl, G, rfl, hG, o⟩⟩

end Go.Proofs.Ytemcinobgdphnaa
namespace Go.Proofs.Ytemcinobgdphnaa
open Go.RowKit
set_option linter.unusedVariables false
set_option maxRecDepth 100000

set_option maxHeartbeats 1600000 in
theorem scatforms_any (ad : Option Addr) (N cap : Nat) (ss : List L2V) (w : World) (hN : ss.length = N) (hF : LSG w ad ss) (hN1 : N ≤ 1048576) :
    Calls Try.prog 23 #[.slice ad N cap] w fun e w' => Below w.heap.size w w' ∧ ((catB N ss = false ∧ ∃ G, e = .returned (.slice (some ⟨G, 0, none⟩) 0 0)) ∨ (catB N ss = true ∧ ∃ G cG ts nt, e = .returned (.slice (some ⟨G, 0, none⟩) nt cG) ∧ ts.length = nt ∧ ISG w' (some ⟨G, 0, none⟩) ts ∧ ts.map IV.x = catP ss ∧ nt ≤ 600000)) := by
  have HN : Hid (ss.length = N) := hN
  clear hN
  obtain ⟨u, hu⟩ : ∃ u, catB N ss = u := ⟨_, rfl⟩
  have HU : Hid (catB N ss = u) := hu
  go_enter Try.func23, Try.ntmps23
  go_wp2_with fail
  refine (scat_any _ _ _ ss _ HN.out hF hN1).mono ?_
  rintro e w1 ⟨rfl, b1⟩
  rw [hu]
  clear hu
  cases u with
  | false =>
    have B2 := b1.alloc b1.size (.cells #[] 26)
    go_wp2
    go_ret
    exact ⟨B2, .inl ⟨HU.out, _, rfl⟩⟩
  | true =>
    go_wp2_with fail
    refine (sboth_any _ _ _ ss _ HN.out (hF.below b1) (catB_parts HU.out).2 (catB_parts HU.out).1).mono ?_
    rintro e w2 ⟨G, cG, ts, nt, Gp, cp, rfl, hl, jp, hx, hnt, o, lGp⟩
    have B2 := b1.trans (jp.b.mono b1.size)
    have hg := jp.g
    have HX : Hid _ := hx
    have HL : Hid _ := hl
    clear jp hx hl o
    go_wp2
    go_ret
    exact ⟨B2, .inr ⟨HU.out, G, cG, ts, nt, rfl, HL.out, hg, HX.out, hnt⟩⟩

/-- What is told of acts. -/
def catT (v : Bool) (ps : List (List Int)) : List (List Int) := if v then ps else []
def tF (T : List (List Int)) (i : Nat) : List Int := T[i]?.getD []
theorem map_at {ts : List IV} {T : List (List Int)} (h : ts.map IV.x = T) {i : Nat} (hi : i < T.length) : (ts[i]?.getD noI).x = tF T i := by
  subst h
  rw [List.length_map] at hi
  rw [tF, List.getElem?_map, List.getElem?_eq_getElem hi]; rfl
theorem map_len {ts : List IV} {T : List (List Int)} (h : ts.map IV.x = T) : ts.length = T.length := by rw [← h, List.length_map]
/-- The program's answer, in memory of its own. -/
def UF (W : World) (a : Option Addr) (lo : Nat) (T : List (List Int)) (f : Nat → List Int) : Prop := ∃ G ts bs, SL W a G T.length ts bs f ∧ ts.map IV.x = T ∧ (∀ i, i < T.length → (ts[i]?.getD noI).n = 3) ∧ (0 < T.length → lo ≤ G) ∧ ∀ j, j < T.length → lo ≤ bs j
theorem UF.below {W W' : World} {a : Option Addr} {lo : Nat} {T : List (List Int)} {f : Nat → List Int} (h : UF W a lo T f) (b : Below W.heap.size W W') : UF W' a lo T f := by
  obtain ⟨G, ts, bs, s, r⟩ := h
  exact ⟨G, ts, bs, s.below b, r⟩
theorem UF.touch {S : Nat → Prop} {W W' : World} {a : Option Addr} {lo : Nat} {T : List (List Int)} {f : Nat → List Int} (h : UF W a lo T f) (t : Touch S W W') (hs : ∀ k, S k → k < lo) : UF W' a lo T f := by
  obtain ⟨G, ts, bs, s, r1, r2, r3, r4⟩ := h
  exact ⟨G, ts, bs, s.touch t (fun h0 hh => by have := hs _ hh; have := r3 h0; omega) (fun j hj hh => by have := hs _ hh; have := r4 j hj; omega), r1, r2, r3, r4⟩
theorem UF.isg {W : World} {a : Option Addr} {lo : Nat} {T : List (List Int)} (h : UF W a lo T (tF T)) : ∃ ts, ISG W a ts ∧ ts.map IV.x = T := by
  obtain ⟨G, ts, bs, s, r1, r2, _⟩ := h
  exact ⟨ts, (s.ext (fun j hj => (map_at r1 hj).symm)).isg (map_len r1) r2, r1⟩

theorem scatforms_at (T : List (List Int)) (ad : Option Addr) (N cap : Nat) (gs : List L2V) (w : World) (hN : gs.length = N) (hF : LSG w ad gs) (hN1 : N ≤ 1048576) (hT : catT (catB N gs) (catP gs) = T) :
    Calls Try.prog 23 #[.slice ad N cap] w fun e w' => ∃ a cp ts, e = .returned (.slice a T.length cp) ∧ Below w.heap.size w w' ∧ ISG w' a ts ∧ ts.map IV.x = T ∧ T.length ≤ 600000 := by
  refine (scatforms_any ad N cap gs w hN hF hN1).mono ?_
  rintro e w' ⟨b, ⟨h, G, rfl⟩ | ⟨h, G, cG, ts, nt, rfl, hl, hg, hx, hnt⟩⟩
  · rw [h, catT] at hT
    simp only [Bool.false_eq_true, if_false] at hT
    subst hT
    exact ⟨_, 0, [], rfl, b, fun i hi => by simp at hi, rfl, by simp⟩
  · rw [h, catT] at hT
    simp only [if_true] at hT
    rw [hT] at hx
    have := map_len hx
    exact ⟨_, cG, ts, by rw [← this, hl], b, hg, hx, by omega⟩

theorem icatforms_at (T : List (List Int)) (ad : Option Addr) (N cap : Nat) (gs : List L2V) (w : World) (hN : gs.length = N) (hF : LSG w ad gs) (hN1 : N ≤ 1048576) (hT : catT (catB N gs) (catP gs) = T) :
    Calls Try.prog 21 #[.slice ad N cap] w fun e w' => ∃ a cp, e = .returned (.slice a T.length cp) ∧ Below w.heap.size w w' ∧ UF w' a w.heap.size T (tF T) := by
  refine (icatforms_any ad N cap gs w hN hF hN1).mono ?_
  rintro e w' ⟨b, ⟨h, rfl⟩ | ⟨h, G, cG, ts, bs, rfl, hx, jo⟩⟩
  · rw [h, catT] at hT
    simp only [Bool.false_eq_true, if_false] at hT
    subst hT
    exact ⟨_, 0, rfl, b, 0, [], fun _ => 0, SL.none _ _ _ _ _ _, rfl, fun i hi => by simp at hi, fun h => by simp at h, fun j hj => by simp at hj⟩
  · rw [h, catT] at hT
    simp only [if_true] at hT
    rw [hT] at hx jo ⊢
    have hl := map_len hx
    have s := jo.sl hl
    refine ⟨_, cG, rfl, b, G, ts, bs, s.ext (fun j hj => map_at hx hj), hx, fun i hi => (jo.k i (by omega)).1, fun _ => (jo.blk (g := G) rfl).1, fun j hj => (jo.k j (by omega)).2.2.1⟩

end Go.Proofs.Ytemcinobgdphnaa
namespace Go.Proofs.Ytemcinobgdphnaa
open Go.ChangeShapes Go.WideShapes Go.ChangeAt Go.RowKit Go.Joins Go.Deep
set_option linter.unusedVariables false
set_option maxRecDepth 100000

theorem open_formsC {H : Type} {enc : TypeId × Value → H} {W : World} {fuel : Nat} {v : Value} {y : DataW H × List MemPlace}
    (hf : DataW.trod enc Try.prog W 0 (fun _ => true) true fuel 23 [v] = some y) :
    ∃ ad N cap fs, v = .slice ad N cap ∧ fs.length = N ∧ FormsM W ad fs ∧ N ≤ maxLen := by
  obtain ⟨ad, N, cap, fs, hv, hl, hN, hall⟩ := open_sliceC noFV FV.cs (fun f => Ints W f.a f.n f.C ∧ Ints W f.c f.m f.D ∧ f.n ≤ maxLen ∧ f.m ≤ maxLen) (c := 3) (by omega) Try.underlying23 (by kernel_rfl) (fun _ => rfl) (fun fuel cs x hx => open_formC hx) hf
  refine ⟨ad, N, cap, fs, hv, hl, fun i hi => ?_, hN⟩
  obtain ⟨b, off, e, hc, hr⟩ := hall i hi
  exact ⟨b, off, e, hc 0 (by omega), hc 1 (by omega), hc 2 (by omega), hr⟩

/-- A row as a value. -/
abbrev rowV (g : Option Addr) (G cg : Nat) (a : Option Addr) (A ca : Nat) (t : Option Addr) (T ct : Nat) (st : Bool) : Value := .agg #[.slice g G cg, .slice a A ca, .slice t T ct, .bool st]

theorem open_rowR {H : Type} {enc : TypeId × Value → H} {W : World} {r : Reach} {b0 : Nat} {v : Value} {d : DataW H} {p : List MemPlace}
    (hv : Value.okWide Try.prog W r b0 25 v) (h : DataW.Trod enc Try.prog W 0 (fun _ => true) true 25 v d p) :
    ∃ g G cg gs a A ca ls t T ct ts st, v = rowV g G cg a A ca t T ct st ∧ gs.length = G ∧ FormsM W g gs ∧ G ≤ maxLen ∧ ls.length = A ∧ FormsM W a ls ∧ A ≤ maxLen ∧ ts.length = T ∧ FormsM W t ts ∧ T ≤ maxLen := by
  obtain ⟨v0, v1, v2, v3, y0, y1, y2, y3, k, rfl, -, -, h0, h1, h2, h3⟩ := open_agg4 Try.underlying25 (by kernel_rfl) (by kernel_rfl) hv h
  obtain ⟨g, G, cg, gs, rfl, hg1, hg2, hg3⟩ := open_formsC h0
  obtain ⟨a, A, ca, ls, rfl, ha1, ha2, ha3⟩ := open_formsC h1
  obtain ⟨t, T, ct, ts, rfl, ht1, ht2, ht3⟩ := open_formsC h2
  obtain ⟨st, e3, _⟩ := DataW.trod_bool Try.underlying4 h3
  simp at e3
  subst e3
  exact ⟨g, G, cg, gs, a, A, ca, ls, t, T, ct, ts, st, rfl, hg1, hg2, hg3, ha1, ha2, ha3, ht1, ht2, ht3⟩

end Go.Proofs.Ytemcinobgdphnaa
