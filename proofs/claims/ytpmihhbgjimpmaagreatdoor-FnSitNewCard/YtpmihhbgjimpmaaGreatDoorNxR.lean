/-
  Lemmas that the claim's last text rests on.
-/
import Derived.Lib.SlBuf
import Derived.Laws.IdiomCopy
import Derived.Test.YtpmihhbgjimpmaaGreatDoorNxQ
namespace Go.Proofs.YtpmihhbgjimpmaaGreatDoor
open Go.RowKit Go.Deep
open Option.some renaming injEq → qA
open List renaming getElem?_eq_getElem → qB, getElem?_cons_zero → qC, getElem?_set_ne → qD, take_of_length_le → qE, getElem?_set_self → qF
open Nat renaming le_refl → qG
set_option linter.unusedVariables false
set_option maxRecDepth 100000
set_option maxHeartbeats 25600000
variable {B n : Nat} {W W' : World}
abbrev ET : TypeId := 3
abbrev OwnM (W : World) (B n : Nat) (D : DataW Unit) : Prop := W.ownsMap Tryz.prog KT (plainElem Tryz.prog ET) B n D
theorem OwnM.no {D : DataW Unit} (h : OwnM W B n D) : ∀ o, W.cell? ⟨B, o, none⟩ = none := fun o => by
 obtain ⟨es, clock, hb, _⟩ := h;simp [World.cell?, hb]
theorem FormsAt.pastM {D : DataW Unit} {a : Option Addr} {fs : List Frm} (h : FormsAt W a fs) (m : OwnM W B n D) (t : Touch (fun z => z = B) W W') : FormsAt W' a fs :=
 h.past (fun o v hv => by rw [m.no o] at hv; cases hv) t
theorem touch_grownQ (h : W.grownBy W' (some B)) : Touch (fun z => z = B) W W' := ⟨h.os, h.tape, h.output, h.size, fun z hz hn => h.block z hz (fun e => hn (by simpa using e))⟩
theorem OwnM.below {D : DataW Unit} (h : OwnM W B n D) (b : Below W.heap.size W W') : OwnM W' B n D := by
 obtain ⟨es, clock, hb, r⟩ := h
 exact ⟨es, clock, (b.block B (lt_of_block hb)).trans hb, r⟩
theorem OwnM.touch {S : Nat -> Prop} {D : DataW Unit} (h : OwnM W B n D) (t : Touch S W W') (hn : ¬ S B) : OwnM W' B n D := by
 obtain ⟨es, clock, hb, r⟩ := h
 exact ⟨es, clock, (t.block B (lt_of_block hb) hn).trans hb, r⟩
theorem zeroE {w : World} : (zeroValue ET).run Tryz.prog w = .ok (.int .i64 0) w := by kernel_rfl
theorem three_set {P : Nat} {vs : List Value} {t : TypeId} (h : Cel W P vs t) (hl : vs.length = 3) (x y z : Value) : Cel (W.setCells P 0 [x, y, z]) P [x, y, z] t /\ Touch (fun k => k = P) W (W.setCells P 0 [x, y, z]) := by
 simp only [World.setCells];refine ⟨?_, (((Touch.refl (fun k => k = P) W).setCell rfl _).setCell rfl _).setCell rfl _⟩;have := ((h.set 0 x).set 1 y).set 2 z
 match vs, hl with
 | [a, b, c], _ => exact this
theorem eq3 {p : List Int} (hp : wfP p) (w : World) : ∃ r : Bool, (Op.equalIn 10000 KT (kV (p[0]?.getD 0) (p[1]?.getD 0) (p[2]?.getD 0)) (kV 0 0 0)).run Tryz.prog w = .ok r w /\ (r = true ↔ p = [0, 0, 0]) := by
 have h0 : wfP [0, 0, 0] := ⟨rfl, fun i hi => by
  match i, hi with
  | 0, _ => rfl
  | 1, _ => rfl
  | 2, _ => rfl⟩
 obtain ⟨r, h1, h2⟩ := run_equal_deep w (m := 2) (by omega) (arr3.at 0) arr3.wide (keyOf_P hp) (keyOf_P h0)
 exact ⟨r, h1, h2.trans ⟨fun h => kP_inj hp h0 h, fun h => by rw [h]⟩⟩
theorem iput_any (B n : Nat) (D : DataW Unit) (ps : List (List Int)) (ad : Option Addr) (N cap : Nat) (fs : List Frm) (w : World) (hm : OwnM w B n D) (hD : MapIs D ps) (hn : n <= 1000000000) (hN : fs.length = N) (hF : FormsAt w ad fs) (hfit : ∀ k, k < N -> fitX 10000000 (fs[k]?.getD ([], [], 0))) (hN1 : N <= 1048576 := by omega) :
  Calls Tryz.prog 132 #[.map (some B), .slice ad N cap] w fun e w' => (∃ v, e = .returned v) /\ Touch (fun z => z = B) w w' /\ ∃ D', OwnM w' B (n + N) D' /\ MapIs D' (guardsP ps fs) := by
 have HN : Hid (fs.length = N) := hN;have HF : Hid (FormsAt w ad fs) := hF;have HFT : Hid _ := hfit;have HM : Hid (OwnM w B n D) := hm;have HD : Hid (MapIs D ps) := hD;have hBw : B < w.heap.size := hm.lt;clear hN hF hfit hm hD
 go_enter Tryz.func132, Tryz.ntmps132
 go_wp2_with fail
 go_loopw [5, 6, 7, 8, 9, 12] (fun _ _ _ _ _ i wr => ∃ (k : Nat) (D : DataW Unit), k <= N /\ i = .int .i64 k /\ Touch (fun z => z = B) w wr /\ OwnM wr B (n + k) D /\ MapIs D (guardsP ps (fs.take k))) (fun _ _ _ _ _ i _ => N - (intOf i).toNat)
 case atStart => exact ⟨0, D, Nat.zero_le _, rfl, Touch.refl _ _, HM.out, HD.out⟩
 case round =>
  clear HD;obtain ⟨k, D1, hk, rfl, t, m, d⟩ := hrel;have HD : Hid (MapIs D1 (guardsP ps (fs.take k))) := d;clear d
  by_cases hlt : k < N
  ·have hlt' : (k : Int) < N := by omega
   have hkl : k < fs.length := by rw [HN.out]; exact hlt
   have HS : Hid (guardsP ps (fs.take (k + 1)) = addPb (guardsP ps (fs.take k)) (partL (fs[k]?.getD ([], [], 0)).1)) := guardsP_snoc ps fs k hkl;have HW : Hid (wfP (partL (fs[k]?.getD ([], [], 0)).1)) := wfP_part (HFT.out k hlt).1;obtain ⟨b, off, rfl, a', c', ca, cc, c0, c1, c2, iC, iD⟩ := (HF.out.pastM HM.out t) k hkl;generalize (fs[k]?.getD ([], [], 0)).1 = C at *;generalize (fs[k]?.getD ([], [], 0)).2.2 = kz at *;generalize guardsP ps (fs.take k) = qs at *;have lB : B < wr.heap.size := m.lt;have b1 : Below wr.heap.size wr ((wr.alloc (.cells #[.slice a' 3 ca, .slice c' 2 cc, .int .i64 kz] 95)).alloc (.cells #[.int .i64 0, .int .i64 0, .int .i64 0] KT)) := (bal).alloc (by simp) _;have fb := (Cel.new wr [.slice a' 3 ca, .slice c' 2 cc, .int .i64 kz] 95).alloc (.cells #[.int .i64 0, .int .i64 0, .int .i64 0] KT);have pb := Cel.new (wr.alloc (.cells #[.slice a' 3 ca, .slice c' 2 cc, .int .i64 kz] 95)) [.int .i64 0, .int .i64 0, .int .i64 0] KT;rw [World.size_alloc] at pb
   go_upto_region 4 with fail
   obtain ⟨Z, hZ⟩ : ∃ Z, Z = (wr.alloc (.cells #[.slice a' 3 ca, .slice c' 2 cc, .int .i64 kz] 95)).alloc (.cells #[.int .i64 0, .int .i64 0, .int .i64 0] KT) := ⟨_, rfl⟩
   rw [<- hZ] at b1 fb pb ⊢;clear hZ c0 c1 c2;have KP : Hid (∀ W, Below Z.heap.size Z W -> (W.cell? ⟨wr.heap.size, 0, none⟩ = some (.slice a' 3 ca) /\ W.cell? ⟨wr.heap.size, 1, none⟩ = some (.slice c' 2 cc) /\ W.cell? ⟨wr.heap.size, 2, none⟩ = some (.int .i64 kz))) := fun W hW => ⟨(fb.below hW).cell 0, (fb.below hW).cell 1, (fb.below hW).cell 2⟩
   have e0 : Below Z.heap.size Z Z.drew := (Below.refl _ _).drew;have hSS := And.intro (KP.out _ e0) (True.intro);have lP := pb.lt;refine wp_region_ends (fun w' => w'.cell? ⟨wr.heap.size, 0, none⟩ = some (.slice a' 3 ca) /\ w'.cell? ⟨wr.heap.size, 1, none⟩ = some (.slice c' 2 cc) /\ w'.cell? ⟨wr.heap.size, 2, none⟩ = some (.int .i64 kz)) (fun _ => True) 3 (by kernel_rfl) ?_;refine tkl 0 rfl hSS ?_;refine tkl 1 rfl hSS ?_;simp only [Act.put, List.setIfInBounds_toArray, List.set_cons_succ, List.set_cons_zero, List.getElem_toArray, List.getElem_cons_succ, List.getElem_cons_zero];clear hSS;refine wo1 2 rfl fun K hK => ?_;go_simp;refine (ipart_any 3 2 C ((iC.below b1).below e0) (by omega)).mono ?_;rintro ee w4 ⟨rfl, bd4, k4⟩;have b4 : Below Z.heap.size Z w4 := btr e0 bd4;have zd : Z.drew.heap.size = Z.heap.size := rfl;rw [zd] at k4;(try dsimp only);refine kk0 hK (KP.out _ b4) ?_;have p4 := pb.below b4;have hp3 : (partL C).length = 3 := HW.out.1
   have hr : (Builtin.copy_ #[24, 24] 3 #[.slice (some ⟨wr.heap.size + 1, 0, none⟩) 3 3, .slice (some ⟨Z.heap.size + 1, 0, none⟩) 3 3]).run Tryz.prog w4 = .ok (goInt 3) (w4.setCells (wr.heap.size + 1) 0 [.int .i64 ((partL C)[0]?.getD 0), .int .i64 ((partL C)[1]?.getD 0), .int .i64 ((partL C)[2]?.getD 0)]) :=
    run_copy_cells w4 24 24 3 3 (wr.heap.size + 1) 0 3 3 ⟨Z.heap.size + 1, 0, none⟩ 3 3 [.int .i64 ((partL C)[0]?.getD 0), .int .i64 ((partL C)[1]?.getD 0), .int .i64 ((partL C)[2]?.getD 0)] Tryz.underlying24 (by kernel_rfl) rfl
     (fun j v hv => by
      have hadd : (⟨Z.heap.size + 1, 0, none⟩ : Addr).add j = ⟨Z.heap.size + 1, j, none⟩ := by
       by_cases h0 : j = 0
       ·subst h0; simp [Addr.add]
       simp [Addr.add, h0]
      rw [hadd]
      match j with
      | 0 => simp only [qC, qA] at hv; subst hv; rw [k4.cell 0 (by omega), List.getD_eq_getElem?_getD]
      | 1 => simp only [qC, List.getElem?_cons_succ, qA] at hv; subst hv; rw [k4.cell 1 (by omega), List.getD_eq_getElem?_getD]
      | 2 => simp only [qC, List.getElem?_cons_succ, qA] at hv; subst hv; rw [k4.cell 2 (by omega), List.getD_eq_getElem?_getD]
      | j + 3 => simp at hv)
     (fun j hj => by
      have hj3 : j < 3 := hj;rw [Nat.zero_add, p4.cell j]
      match j, hj3 with
      | 0, _ => rfl
      | 1, _ => rfl
      | 2, _ => rfl)
     (fun j hj => by rw [Nat.zero_add]; exact p4.free j)
     (by simp [Value.oneCell'])
   obtain ⟨p5, t5⟩ := three_set p4 rfl (.int .i64 ((partL C)[0]?.getD 0)) (.int .i64 ((partL C)[1]?.getD 0)) (.int .i64 ((partL C)[2]?.getD 0));have s4 := b4.size;have s1 := b1.size;have m5 : OwnM (w4.setCells (wr.heap.size + 1) 0 [.int .i64 ((partL C)[0]?.getD 0), .int .i64 ((partL C)[1]?.getD 0), .int .i64 ((partL C)[2]?.getD 0)]) B (n + k) D1 := ((m.below b1).below b4).touch t5 (fun h => by have : B = wr.heap.size + 1 := h; omega)
   have T5 : Touch (fun z => z = B) w (w4.setCells (wr.heap.size + 1) 0 [.int .i64 ((partL C)[0]?.getD 0), .int .i64 ((partL C)[1]?.getD 0), .int .i64 ((partL C)[2]?.getD 0)]) := by
    have tw := t.size;have tb := (t.trans (Touch.of b1)).trans (Touch.of b4);refine ⟨t5.os.trans tb.os, t5.tape.trans tb.tape, t5.output.trans tb.output, Nat.le_trans tb.size t5.size, fun z hz hz2 => ?_⟩;rw [t5.block z (Nat.lt_of_lt_of_le hz tb.size) (by omega)]
    exact tb.block z hz hz2
   have KP5 : (w4.setCells (wr.heap.size + 1) 0 [.int .i64 ((partL C)[0]?.getD 0), .int .i64 ((partL C)[1]?.getD 0), .int .i64 ((partL C)[2]?.getD 0)]).cell? ⟨wr.heap.size, 0, none⟩ = some (.slice a' 3 ca) /\ (w4.setCells (wr.heap.size + 1) 0 [.int .i64 ((partL C)[0]?.getD 0), .int .i64 ((partL C)[1]?.getD 0), .int .i64 ((partL C)[2]?.getD 0)]).cell? ⟨wr.heap.size, 1, none⟩ = some (.slice c' 2 cc) /\ (w4.setCells (wr.heap.size + 1) 0 [.int .i64 ((partL C)[0]?.getD 0), .int .i64 ((partL C)[1]?.getD 0), .int .i64 ((partL C)[2]?.getD 0)]).cell? ⟨wr.heap.size, 2, none⟩ = some (.int .i64 kz) := by
    have := fb.below b4;have := Cel.touch this t5 (fun h => by have : wr.heap.size = wr.heap.size + 1 := h; omega)
    exact ⟨this.cell 0, this.cell 1, this.cell 2⟩
   refine wo1 3 rfl fun K hK => ?_;rw [if_pos (by kernel_rfl)];refine Go.Lib.wp_copy_run w4 (.tmp 16) (.tmp 18) 24 24 rfl (.slice (some ⟨wr.heap.size + 1, 0, none⟩) 3 3) (.slice (some ⟨Z.heap.size + 1, 0, none⟩) 3 3) (by rfl) (by rfl) hr ?_;(try dsimp only);refine hK.out _ _ ⟨KP5, fun h => absurd (show true = false from h) (by decide)⟩ ?_;refine wod ?_ _;generalize w4.setCells (wr.heap.size + 1) 0 [.int .i64 ((partL C)[0]?.getD 0), .int .i64 ((partL C)[1]?.getD 0), .int .i64 ((partL C)[2]?.getD 0)] = w5 at *;clear KP5 KP hr p4 t5 k4 bd4 b4 pb fb b1 m t iC iD e0 zd;obtain ⟨g0, g1, g2⟩ : w5.cell? ⟨wr.heap.size + 1, 0, none⟩ = some (.int .i64 ((partL C)[0]?.getD 0)) /\ w5.cell? ⟨wr.heap.size + 1, 1, none⟩ = some (.int .i64 ((partL C)[1]?.getD 0)) /\ w5.cell? ⟨wr.heap.size + 1, 2, none⟩ = some (.int .i64 ((partL C)[2]?.getD 0)) := ⟨p5.cell 0, p5.cell 1, p5.cell 2⟩
   obtain ⟨rz, hrz, hrz2⟩ := eq3 HW.out w5;have HRZ : Hid (rz = true ↔ partL C = [0, 0, 0]) := hrz2;clear hrz2;have HKEY : Hid (keyOf Tryz.prog KT (kV ((partL C)[0]?.getD 0) ((partL C)[1]?.getD 0) ((partL C)[2]?.getD 0)) = some (kP (partL C))) := keyOf_P HW.out;have HP3 : Hid (partL C = [(partL C)[0]?.getD 0, (partL C)[1]?.getD 0, (partL C)[2]?.getD 0]) := three_eq hp3;generalize hx0 : (partL C)[0]?.getD 0 = x0 at *;generalize hx1 : (partL C)[1]?.getD 0 = x1 at *;generalize hx2 : (partL C)[2]?.getD 0 = x2 at *;clear hx0 hx1 hx2 hp3;have HSZ : Hid (Maps.size D1 = qs.length) := HD.out.sz
   cases hh : Maps.has D1 (kP (partL C))
   ·have HNI : Hid (partL C ∉ qs) := fun hin => by
     have := (HD.out.has _ HW.out).2 hin;rw [hh] at this
     cases this
    cases rz
    ·have HNZ : Hid (partL C ≠ [0, 0, 0]) := fun e => by
      have := HRZ.out.2 e
      cases this
     have hszb : Maps.size D1 <= n + k := m5.size_le;have HWF : Hid ((Lit.int .i64 (Maps.size D1 : Int)).wf = true) := WalkArith.wf_i64 (by omega)
     go_wp2_with (first | (at_len; refine wpList_len_own _ rfl (.tmp 20) 181 rfl KT ET Tryz.underlying181 (plainElem Tryz.prog ET) B _ D1 rfl m5 ?_) | (at_lookup; refine wpList_lookup_own_ok_int _ rfl (.tmp 23) (.tmp 24) 181 rfl KT ET .i64 law3 Tryz.underlying181 Tryz.underlying3 (zeroE) B _ D1 rfl m5 _ _ rfl HKEY.out ?_; intro cq hatq hwq) | (at_mapUpdate; refine wpList_mapUpdate_own _ rfl (.tmp 35) (.tmp 36) (.tmp 37) 181 rfl KT ET law3 Tryz.underlying181 (plainElem Tryz.prog ET) B _ D1 rfl m5 (by unfold maxLen; omega) _ _ _ rfl rfl HKEY.out (.lit (.int .i64 (Maps.size D1))) [] (plainElem_int Tryz.underlying3 HWF.out) ?_; intro w6 hown6 hgrow6))
     have HD6 : Hid (MapIs (D1.put (kP (partL C)) (.lit (.int .i64 (Maps.size D1 : Int)))) (guardsP ps (fs.take (k + 1)))) := by
      have := HD.out.put (m5.tidy law3) HW.out HNI.out;rw [HSZ.out, HS.out, addPb, if_neg (by rintro (h | h); exact HNI.out h; exact HNZ.out h)]
      exact this
     have T6 := T5.trans (touch_grownQ hgrow6);have m6 : OwnM w6 B (n + (k + 1)) _ := hown6;clear m5 T5 hown6 hgrow6
     go_wp2
     go_roundw
     case rel => exact ⟨k + 1, _, by omega, by go_num, T6, m6, HD6.out⟩
     case measure => simp [intOf]; omega
    have HD6 : Hid (MapIs D1 (guardsP ps (fs.take (k + 1)))) := by
     have e : partL C = [0, 0, 0] := HRZ.out.1 rfl
     show MapIs _ _
     rw [HS.out, addP_zero e]
     exact HD.out
    have m6 : OwnM w5 B (n + (k + 1)) D1 := m5.mono (by omega)
    go_wp2_with (first | (at_len; refine wpList_len_own _ rfl (.tmp 20) 181 rfl KT ET Tryz.underlying181 (plainElem Tryz.prog ET) B _ D1 rfl m5 ?_) | (at_lookup; refine wpList_lookup_own_ok_int _ rfl (.tmp 23) (.tmp 24) 181 rfl KT ET .i64 law3 Tryz.underlying181 Tryz.underlying3 (zeroE) B _ D1 rfl m5 _ _ rfl HKEY.out ?_; intro cq hatq hwq))
    go_roundw
    case rel => exact ⟨k + 1, D1, by omega, by go_num, T5, m6, HD6.out⟩
    case measure => simp [intOf]; omega
   have HD6 : Hid (MapIs D1 (guardsP ps (fs.take (k + 1)))) := by
    have e : partL C ∈ qs := (HD.out.has _ HW.out).1 hh
    show MapIs _ _
    rw [HS.out, addPb, if_pos (.inl e)]
    exact HD.out
   have m6 : OwnM w5 B (n + (k + 1)) D1 := m5.mono (by omega)
   go_wp2_with (first | (at_len; refine wpList_len_own _ rfl (.tmp 20) 181 rfl KT ET Tryz.underlying181 (plainElem Tryz.prog ET) B _ D1 rfl m5 ?_) | (at_lookup; refine wpList_lookup_own_ok_int _ rfl (.tmp 23) (.tmp 24) 181 rfl KT ET .i64 law3 Tryz.underlying181 Tryz.underlying3 (zeroE) B _ D1 rfl m5 _ _ rfl HKEY.out ?_; intro cq hatq hwq))
   go_roundw
   case rel => exact ⟨k + 1, D1, by omega, by go_num, T5, m6, HD6.out⟩
   case measure => simp [intOf]; omega
  obtain rfl : k = N := by omega
  have HE : Hid (MapIs D1 (guardsP ps fs)) := by
   have := HD.out;rw [qE (by rw [HN.out]; exact qG _)] at this
   exact this
  clear HD
  go_wp2
  go_end0
  exact ⟨⟨_, rfl⟩, t, D1, m, HE.out⟩
theorem grown_of_touch (h : Touch (fun z => z = B) W W') : W.grownBy W' (some B) := ⟨h.os, h.tape, h.output, h.size, fun z hz hn => h.block z hz (fun e => hn (by rw [e]))⟩
theorem Tryz.infoKey : (Tryz.prog.info? KT).map (fun i => (i.zero, i.size, i.bytes)) = some (some (.agg #[.int .i64 0, .int .i64 0, .int .i64 0]), 3, 24) := by kernel_rfl
def KeyAt (cur : List Value) (j : Nat) (p : List Int) : Prop := cur[j * 3]? = some (.int .i64 (p[0]?.getD 0)) /\ cur[j * 3 + 1]? = some (.int .i64 (p[1]?.getD 0)) /\ cur[j * 3 + 2]? = some (.int .i64 (p[2]?.getD 0))
theorem KeyAt.set_same {cur : List Value} {j : Nat} (p : List Int) (h : j * 3 + 2 < cur.length) : KeyAt (((cur.set (j * 3) (.int .i64 (p[0]?.getD 0))).set (j * 3 + 1) (.int .i64 (p[1]?.getD 0))).set (j * 3 + 2) (.int .i64 (p[2]?.getD 0))) j p := by
 refine ⟨?_, ?_, ?_⟩
 ·rw [qD (by omega), qD (by omega), qF (by omega)]
 ·rw [qD (by omega), qF (by rw [List.length_set]; omega)]
 rw [qF (by rw [List.length_set, List.length_set]; omega)]
theorem KeyAt.set_other {cur : List Value} {i j : Nat} {q : List Int} (h : KeyAt cur i q) (hne : i ≠ j) (x y z : Value) : KeyAt (((cur.set (j * 3) x).set (j * 3 + 1) y).set (j * 3 + 2) z) i q := by
 refine ⟨?_, ?_, ?_⟩
 ·rw [qD (by omega), qD (by omega), qD (by omega)]; exact h.1
 ·rw [qD (by omega), qD (by omega), qD (by omega)]; exact h.2.1
 rw [qD (by omega), qD (by omega), qD (by omega)]; exact h.2.2
theorem MapIs.idx {D : DataW Unit} {ps : List (List Int)} (h : MapIs D ps) {p : List Int} (hp : wfP p) (hh : Maps.has D (kP p) = true) {c : Int} (hc : ∀ z, D.atKey (kP p) z = .lit (.int .i64 c)) : ∃ j, j < ps.length /\ ps[j]?.getD [] = p /\ c = j := by
 obtain ⟨j, hj, e⟩ := List.getElem_of_mem ((h.has p hp).1 hh);have e' : ps[j]?.getD [] = p := by rw [qB hj]; exact e
 have h1 := h.ix j hj (.lit (.int .i64 0));rw [e', hc] at h1;simp only [DataW.lit.injEq, Lit.int.injEq, true_and] at h1
 exact ⟨j, hj, e', h1⟩
theorem MapIs.one {D : DataW Unit} {ps : List (List Int)} (h : MapIs D ps) {i j : Nat} (hi : i < ps.length) (hj : j < ps.length) (e : kP (ps[i]?.getD []) = kP (ps[j]?.getD [])) : i = j := by
 have h1 := h.ix i hi (.lit (.int .i64 0));have h2 := h.ix j hj (.lit (.int .i64 0));rw [e, h2] at h1;simp only [DataW.lit.injEq, Lit.int.injEq, true_and] at h1
 omega
theorem iorder_any (B n : Nat) (D : DataW Unit) (ps : List (List Int)) (w : World) (hm : OwnM w B n D) (hD : MapIs D ps) (hl : ps.length <= 1048576 := by omega) :
  Calls Tryz.prog 135 #[.map (some B)] w fun e w' => ∃ L cur, e = .returned (.slice (some ⟨L, 0, none⟩) ps.length ps.length) /\ Below w.heap.size w w' /\ w.heap.size <= L /\ Cel w' L cur KT /\ ∀ j, j < ps.length -> KeyAt cur j (ps[j]?.getD []) := by
 have HD : Hid (MapIs D ps) := hD;have hsz : Maps.size D = ps.length := hD.sz;have HSZ : Hid (Maps.size D = ps.length) := hsz;obtain ⟨N, hN⟩ : ∃ N, N = Maps.size D := ⟨_, rfl⟩
 have HN : Hid (N = Maps.size D) := hN;have hNl : N <= 1048576 := by omega
 have lB := hm.lt;obtain ⟨i0, hi, hz0, hz1, hz2⟩ := info_parts Tryz.infoKey;obtain ⟨w2, hrun, o2, g2⟩ := run_make_full (P := Tryz.prog) (w := w) w.heap.size 189 KT i0 (.agg #[.int .i64 0, .int .i64 0, .int .i64 0]) 3 Tryz.underlying189 hi hz0 hz1 .i64 .i64 N (by rw [hz2]; omega) (by unfold maxLen; omega) (qG _);have hrun' : (Instr.makeSlice 189 (.int .i64 (N : Int)) (.int .i64 (N : Int))).run Tryz.prog w = .ok (.slice (some ⟨w.heap.size, 0, none⟩) N N) w2 := hrun;have b2 : Below w.heap.size w w2 := (Below.refl _ _).grown g2 (qG _) (by simp)
 obtain ⟨cur, hc2, hl2⟩ : ∃ cur : List Value, Cel w2 w.heap.size cur KT /\ N * 3 <= cur.length := by
  rcases o2.2 with ⟨e, _⟩ | ⟨g, cp, cur, hv, hg, hh, hl, hc, hs, ht⟩
  ·cases e
  cases hv
  exact ⟨cur.toList, by unfold Cel; simpa using hh, by rw [Array.length_toList]; omega⟩
 have m2 : OwnM w2 B n D := OwnM.below hm b2;have OwnM0 : Hid (OwnM w B n D) := hm;clear hrun o2 g2 hm hD hsz hN
 go_enter Tryz.func135, Tryz.ntmps135
 go_wp2_with (first | (at_len; refine wpList_len_own _ rfl (.tmp 6) 180 rfl KT ET Tryz.underlying180 (plainElem Tryz.prog ET) B _ D rfl (OwnM0.out) ?_; rw [<- HN.out]) | (at_range; refine wpList_range_own _ rfl (.tmp 9) 180 rfl KT ET law3 Tryz.underlying180 (plainElem Tryz.prog ET) B n D rfl m2 ?_; intro w3 hrg3 hg3 hs3))
 go_frame
 have b3 : Below w2.heap.size w2 w3 := (Below.refl _ _).grown hg3 (qG _) (by simp);have c3 := hc2.below b3;have B3 := btr b2 b3;obtain ⟨L, hL⟩ : ∃ L, L = w.heap.size := ⟨_, rfl⟩
 rw [<- hL] at c3 ⊢;have lL := c3.lt;have lL0 : w.heap.size <= L := by omega
 have s2 := b2.size;have lr : L < w2.heap.size := by rw [hL]; exact hc2.lt
 obtain ⟨r, hr⟩ : ∃ r, r = w2.heap.size := ⟨_, rfl⟩
 rw [<- hr] at hrg3 ⊢;have lr' : L < r := by omega
 have lB' : B < L := by omega
 clear hrun' hc2 hg3 hs3 m2 b2 b3 hL hr
 go_loopw [4, 5] (fun _ _ wr => ∃ (left : Lit -> Bool) (cnt : Nat) (cur : List Value), wr.ranges Tryz.prog KT (plainElem Tryz.prog ET) B r n D left cnt /\ (∀ kl, left kl = true -> Maps.has D kl = true) /\ Cel wr L cur KT /\ N * 3 <= cur.length /\ (∀ j, j < ps.length -> left (kP (ps[j]?.getD [])) = false -> KeyAt cur j (ps[j]?.getD [])) /\ Below w.heap.size w wr) (fun _ _ wr => wr.rangeLeft B r)
 case atStart =>
  refine ⟨Maps.has D, Maps.size D, cur, hrg3, fun _ h => h, c3, hl2, fun j hj h => ?_, B3⟩;have hm : ps[j]?.getD [] ∈ ps := by rw [qB hj]; exact List.getElem_mem hj
  rw [(HD.out.has _ (HD.out.wf _ hm)).2 hm] at h
  cases h
 case round =>
  clear hrg3 c3 hl2 B3 lL;clear cur;obtain ⟨left, cnt, cur, hrg, hsub, hc, hlc, hat, hb⟩ := hrel;have HSUB : Hid _ := hsub;have HAT : Hid (∀ j, j < ps.length -> left (kP (ps[j]?.getD [])) = false -> KeyAt cur j (ps[j]?.getD [])) := hat;clear hsub hat
  go_wp2_with (at_next; refine wpList_next_ranges (α := Int × Int × Int) (β := Int) _ rfl (.tmp 10) rfl KT law3 (plainElem Tryz.prog ET) (fun x => kV x.1 x.2.1 x.2.2) (fun c => .int .i64 c) (fun key kl h => by obtain ⟨a, b, c, e, _⟩ := inv3 h; exact ⟨(a, b, c), e⟩) (fun v y h => by obtain ⟨c, e, _⟩ := plainElem_int_inv Tryz.underlying3 h; exact ⟨c, e⟩) B r n D left cnt rfl hrg ?_ ?_)
  ·intro h0 hl0;have HE : Hid (∀ j, j < ps.length -> KeyAt cur j (ps[j]?.getD [])) := fun j hj => HAT.out j hj (hl0 _);have HNP : Hid (N = ps.length) := HN.out.trans HSZ.out
   go_wp2
   go_ret
   exact ⟨L, cur, by rw [<- HNP.out]; rfl, hb, lL0, hc, HE.out⟩
  intro x0 x1 x2 c kl yd yp w4 cnt4 hkey hleft hv hat hrg4 hlt4 hg4 hs4 hen;(try dsimp only at hkey); (try dsimp only at hv); (try dsimp only at hen)
  obtain ⟨j, hj, hpj, hcj⟩ : ∃ j, j < ps.length /\ ps[j]?.getD [] = [x0, x1, x2] /\ c = (j : Int) := by
   obtain ⟨a, b, c', e, ek, wa, wb, wc⟩ := inv3 hkey;simp only [kV, Value.agg.injEq, Array.mk.injEq, List.cons.injEq, Value.int.injEq, true_and, and_true] at e;obtain ⟨rfl, rfl, rfl⟩ := e
   have hp : wfP [x0, x1, x2] := ⟨rfl, fun i hi => by
    match i, hi with
    | 0, _ => exact wa
    | 1, _ => exact wb
    | 2, _ => exact wc⟩
   obtain ⟨c2, e2, e3, _⟩ := plainElem_int_inv Tryz.underlying3 hv
   cases e2
   simp only [Prod.mk.injEq] at e3;subst ek
   exact HD.out.idx hp (HSUB.out _ hleft) (fun z => by rw [show kP [x0, x1, x2] = kL x0 x1 x2 from rfl, hat z, e3.1])
  have HKL : Hid (kl = kP (ps[j]?.getD [])) := by
   show kl = _
   obtain ⟨a, b, c', e, ek, _⟩ := inv3 hkey;simp only [kV, Value.agg.injEq, Array.mk.injEq, List.cons.injEq, Value.int.injEq, true_and, and_true] at e;obtain ⟨rfl, rfl, rfl⟩ := e;rw [hpj]; exact ek
  subst hcj;have hjN : (j : Int) < N := by have h1 := HN.out; have h2 := HSZ.out; omega
  have hj0 : ¬ ((j : Int) < 0) := by omega
  have c4 : Cel w4 L cur KT := hc.touch (touch_grownQ hg4) (fun h => by have : L = r := h; omega);have B4 : Below w.heap.size w w4 := hb.trans ((touch_grownQ hg4).below hb.size (fun k hk => by have : k = r := hk; omega));have A4 : Below w4.heap.size w4 (w4.alloc (.cells #[.int .i64 x0, .int .i64 x1, .int .i64 x2] KT)) := bal;have rg5 := hrg4.alloc (.cells #[.int .i64 x0, .int .i64 x1, .int .i64 x2] KT);have c5 := c4.alloc (.cells #[.int .i64 x0, .int .i64 x1, .int .i64 x2] KT);have B5 := btr B4 A4;have hlj : j * 3 + 2 < cur.length := by have h1 := HN.out; have h2 := HSZ.out; omega
  have hleft' := hrg.left_eq;have HLE : Hid (wr.rangeLeft B r = cnt) := hleft';have kb := Cel.new w4 [.int .i64 x0, .int .i64 x1, .int .i64 x2] KT;clear hc hb hrg hg4 hs4 hrg4 c4 B4 A4 hleft';obtain ⟨q0, q1, q2⟩ : (w4.alloc (.cells #[.int .i64 x0, .int .i64 x1, .int .i64 x2] KT)).cell? ⟨w4.heap.size, 0, none⟩ = some (.int .i64 x0) /\ (w4.alloc (.cells #[.int .i64 x0, .int .i64 x1, .int .i64 x2] KT)).cell? ⟨w4.heap.size, 1, none⟩ = some (.int .i64 x1) /\ (w4.alloc (.cells #[.int .i64 x0, .int .i64 x1, .int .i64 x2] KT)).cell? ⟨w4.heap.size, 2, none⟩ = some (.int .i64 x2) := ⟨kb.cell 0, kb.cell 1, kb.cell 2⟩
  have lLw : L < (w4.alloc (.cells #[.int .i64 x0, .int .i64 x1, .int .i64 x2] KT)).heap.size := c5.lt;obtain ⟨y0, y1, y2⟩ : (∃ v, (w4.alloc (.cells #[.int .i64 x0, .int .i64 x1, .int .i64 x2] KT)).cell? ⟨L, j * 3, none⟩ = some v) /\ (∃ v, (w4.alloc (.cells #[.int .i64 x0, .int .i64 x1, .int .i64 x2] KT)).cell? ⟨L, j * 3 + 1, none⟩ = some v) /\ (∃ v, (w4.alloc (.cells #[.int .i64 x0, .int .i64 x1, .int .i64 x2] KT)).cell? ⟨L, j * 3 + 2, none⟩ = some v) := ⟨⟨_, (c5.cell _).trans (qB (by omega))⟩, ⟨_, (c5.cell _).trans (qB (by omega))⟩, ⟨_, (c5.cell _).trans (qB (by omega))⟩⟩
  obtain ⟨v0, y0⟩ := y0;obtain ⟨v1, y1⟩ := y1;obtain ⟨v2, y2⟩ := y2;have z0 := c5.free (j * 3);have z1 := c5.free (j * 3 + 1);have z2 := c5.free (j * 3 + 2);have T6 : Touch (fun z => z = L) (w4.alloc (.cells #[.int .i64 x0, .int .i64 x1, .int .i64 x2] KT)) ((((w4.alloc (.cells #[.int .i64 x0, .int .i64 x1, .int .i64 x2] KT)).setCell ⟨L, j * 3, none⟩ (.int .i64 x0)).setCell ⟨L, j * 3 + 1, none⟩ (.int .i64 x1)).setCell ⟨L, j * 3 + 2, none⟩ (.int .i64 x2)) := Touch.setCell (S := fun z => z = L) (Touch.setCell (S := fun z => z = L) (Touch.setCell (S := fun z => z = L) (Touch.refl _ _) rfl _) rfl _) rfl _;have c6 := ((c5.set (j * 3) (.int .i64 x0)).set (j * 3 + 1) (.int .i64 x1)).set (j * 3 + 2) (.int .i64 x2);have rg6 := rg5.kept (grown_of_touch T6) (by simp; omega) (by simp; omega);have B6 := B5.trans (T6.below B5.size (fun k hk => by have : k = L := hk; omega))
  have HAT6 : Hid (∀ i, i < ps.length -> (left (kP (ps[i]?.getD [])) && !(kP (ps[i]?.getD [])).sameKey kl) = false -> KeyAt (((cur.set (j * 3) (.int .i64 x0)).set (j * 3 + 1) (.int .i64 x1)).set (j * 3 + 2) (.int .i64 x2)) i (ps[i]?.getD [])) := fun i hi hf => by
   by_cases e : i = j
   ·subst e;rw [hpj]
    exact KeyAt.set_same [x0, x1, x2] hlj
   refine KeyAt.set_other (HAT.out i hi ?_) e _ _ _
   cases hlf : left (kP (ps[i]?.getD [])) with
   | false => rfl
   | true =>
    rw [hlf] at hf;simp only [Bool.true_and, Bool.not_eq_false'] at hf;have := WideAt.sameKey_eq hf;rw [HKL.out] at this
    exact absurd (HD.out.one hi hj this) e
  have HSUB6 : Hid (∀ z, (left z && !z.sameKey kl) = true -> Maps.has D z = true) := fun z hz => by
   simp only [Bool.and_eq_true] at hz
   exact HSUB.out z hz.1
  have HLC : Hid (N * 3 <= (((cur.set (j * 3) (.int .i64 x0)).set (j * 3 + 1) (.int .i64 x1)).set (j * 3 + 2) (.int .i64 x2)).length) := by show _ <= _; simpa using hlc
  clear c5 B5 rg5 T6 HKL hpj
  go_wp2
  go_roundw
  case rel => exact ⟨_, cnt4, _, rg6, HSUB6.out, c6, HLC.out, HAT6.out, B6⟩
  case measure => rw [rg6.left_eq, HLE.out]; omega
theorem oneSl {a : Option Addr} {c : Nat} : ∀ u ∈ [Value.slice a n c], u.oneCell' = true := fun u hu => by
 simp at hu; subst hu; rfl
def BA (W : World) (a : Option Addr) (n : Nat) (f : Nat -> Bool) : Prop := ∀ j, j < n -> ∃ b off, a = some ⟨b, off, none⟩ /\ W.cell? ⟨b, off + j, none⟩ = some (.bool (f j))
theorem OwnBB.ba {G : Nat} {f : Nat -> Bool} (h : OwnBB W G f) : BA W (some ⟨G, 0, Option.none⟩) 3 f := fun j hj => ⟨G, 0, rfl, by rw [Nat.zero_add]; exact (h.at hj).1⟩
theorem catB_parts {N : Nat} {ss : List L2V} (h : catB N ss = true) : N <= 4 /\ ss.all L2V.ok = true := by
 simp only [catB, Bool.and_eq_true] at h;have := inB_iff.1 h.1
 exact ⟨by omega, h.2⟩
theorem icatpins_any (ad : Option Addr) (N cap : Nat) (ss : List L2V) (w : World) (hN : ss.length = N) (hF : LSG w ad ss) (hN1 : N <= 1048576) :
  Calls Tryz.prog 96 #[.slice ad N cap] w fun e w' => Below w.heap.size w w' /\ ((catB N ss = false /\ e = .returned (.slice none 0 0)) \/ (catB N ss = true /\ ∃ G cG, e = .returned (.slice (some ⟨G, 0, none⟩) 3 cG) /\ w.heap.size <= G /\ OwnBB w' G (pinsA ss))) := by
 have HN : Hid (ss.length = N) := hN;have HF : Hid (LSG w ad ss) := hF;clear hN;obtain ⟨u, hu⟩ : ∃ u, catB N ss = u := ⟨_, rfl⟩
 have HU : Hid (catB N ss = u) := hu
 go_enter Tryz.func96, Tryz.ntmps96
 go_wp2_with fail
 refine (icat_any _ _ _ ss HN.out hF hN1).mono ?_;rintro e w1 ⟨rfl, b1⟩;rw [hu];clear hu hF
 cases u with
 | false =>
  go_wp2
  go_ret
  exact ⟨b1, .inl ⟨HU.out, rfl⟩⟩
 | true =>
  obtain ⟨i0, hi, hz0, hz1, hz2⟩ := info_parts Tryz.infoBool;obtain ⟨w2, hrun, o2, g2⟩ := run_make_full (P := Tryz.prog) (w := w1) w1.heap.size 141 4 i0 (.bool false) 1 Tryz.underlying141 hi hz0 hz1 .i64 .i64 3 (by rw [hz2]; omega) (by unfold maxLen; omega) (qG _);have hrun' : (Instr.makeSlice 141 (.int .i64 3) (.int .i64 3)).run Tryz.prog w1 = .ok (.slice (some ⟨w1.heap.size, 0, none⟩) 3 3) w2 := hrun;have b2 : Below w1.heap.size w1 w2 := (Below.refl _ _).grown g2 (qG _) (by simp)
  have O2 : OwnBB w2 w1.heap.size (pinsA (ss.take 0)) := by
   rcases o2.2 with ⟨e, _⟩ | ⟨g, cp, cur, hv, hg, hh, hl, hc, hs, ht⟩
   ·cases e
   cases hv
   have hl3 : cur.toList.length = 3 := by rw [Array.length_toList]; omega
   rw [qE (by omega)] at ht
   have : cur = #[.bool false, .bool false, .bool false] := by
    apply Array.toList_inj.1
    rw [ht]; simpa [Value.cells] using toList_madeCells_one (.bool false) 3
   rw [this] at hh
   exact hh
  have B2 := btr b1 b2;have lG0 := b1.size;have N4 := (catB_parts HU.out).1;have HALL : Hid (ss.all L2V.ok = true) := (catB_parts HU.out).2;obtain ⟨G, hG⟩ : ∃ G, G = w1.heap.size := ⟨_, rfl⟩
  rw [<- hG] at O2 lG0 hrun';clear hrun o2 g2 b1 b2 hG
  go_wp2_with fail
  go_loopw [5, 6, 7, 14] (fun _ _ _ i wr => ∃ k : Nat, k <= N /\ i = .int .i64 k /\ Below w.heap.size w wr /\ OwnBB wr G (pinsA (ss.take k))) (fun _ _ _ i _ => N - (intOf i).toNat)
  case atStart => exact ⟨0, Nat.zero_le _, rfl, B2, O2⟩
  case round =>
   clear B2 O2 hrun';obtain ⟨k, hk, rfl, hb, o⟩ := hrel
   by_cases hlt : k < N
   ·have hlt' : (k : Int) < N := by omega
    have his : k < ss.length := by rw [HN.out]; exact hlt
    obtain ⟨ab, ao, rfl, hc, hLG⟩ := (HF.out.below hb) k his;have HSB : Hid (∀ v, pinsA (ss.take (k + 1)) v = (pinsA (ss.take k) v || readsR (rowsL (ss[k]?.getD noL).x) v)) := fun v => pinsA_snoc ss k his v
    have hsok : (ss[k]?.getD noL).ok = true := by
     rw [qB his]
     exact List.all_eq_true.1 HALL.out _ (List.getElem_mem his)
    obtain ⟨s, hs⟩ : ∃ s, s = ss[k]?.getD noL := ⟨_, rfl⟩
    rw [<- hs] at hc hLG HSB hsok;obtain ⟨sa, sn, sc, sx⟩ := s;have hAct : actB sn sx = true := hsok;obtain ⟨hxl, hLin, hsn⟩ := hLG;have hc' : wr.cell? ⟨ab, ao + k, none⟩ = some (.slice sa sn sc) := hc;have HXL : Hid (sx.length = sn) := hxl;have HLIN : Hid (LinesG wr sa sx) := hLin;have HAC : Hid (actB sn sx = true) := hAct;clear hs hc hsok hxl hLin hAct
    go_wp2_with fail
    refine (icatreads_any sx HXL.out HLIN.out hsn).mono ?_;rintro ee w3 ⟨b3, h⟩
    obtain ⟨G3, c3, rfl, lG3, o3⟩ : ∃ G3 c3, ee = .returned (.slice (some ⟨G3, 0, none⟩) 3 c3) /\ wr.heap.size <= G3 /\ OwnBB w3 G3 (readsR (rowsL sx)) := by
     rcases h with ⟨h, _⟩ | ⟨_, G3, c3, h1, h2, h3⟩
     ·rw [HAC.out] at h; cases h
     exact ⟨G3, c3, h1, h2, h3⟩
    have lo : G < wr.heap.size := Cel.lt o;have hb3 := btr hb b3;have oo : OwnBB w3 G (fun v => if v < 0 then pinsA (ss.take (k + 1)) v else pinsA (ss.take k) v) := (o.below b3).ext (fun v hv => by simp);obtain ⟨rd, hrd⟩ : ∃ rd, rd = readsR (rowsL sx) := ⟨_, rfl⟩
    have HSB' : Hid (∀ v, pinsA (ss.take (k + 1)) v = (pinsA (ss.take k) v || rd v)) := fun v => by rw [hrd]; exact HSB.out v
    rw [<- hrd] at o3;have ne3 : G ≠ G3 := by omega
    clear h o b3 hb HXL HLIN HAC HSB hrd hc'
    go_wp2_with fail
    go_loopw [6, 7, 21] (fun _ _ i wr => ∃ u : Nat, u <= 3 /\ i = .int .i64 u /\ Below w.heap.size w wr /\ OwnBB wr G3 rd /\ OwnBB wr G (fun v => if v < u then pinsA (ss.take (k + 1)) v else pinsA (ss.take k) v)) (fun _ _ i _ => 3 - (intOf i).toNat)
    case atStart => exact ⟨0, by omega, rfl, hb3, o3, oo⟩
    case round =>
     clear hb3 o3 oo;obtain ⟨u, hu, rfl, hb, o3, o⟩ := hrel
     by_cases hu3 : u < 3
     ·have hu' : (u : Int) < 3 := by omega
      have r0 := (o3.at hu3).1
      have g0 : wr.cell? ⟨G, u, none⟩ = some (.bool (pinsA (ss.take k) u)) := by
       have := (o.at hu3).1;simpa using this
      have fz := (o.at hu3).2
      cases hold : pinsA (ss.take k) u
      ·rw [hold] at g0
       have O2 : Hid (OwnBB (wr.setCell ⟨G, u, none⟩ (.bool (rd u))) G (fun v => if v < u + 1 then pinsA (ss.take (k + 1)) v else pinsA (ss.take k) v)) := (o.set hu3 (rd u)).ext (fun v hv => by
        by_cases e : v = u
        ·subst e; simp only [if_true, Nat.lt_succ_self]; rw [HSB'.out, hold]; simp
        simp only [e, if_false]
        by_cases e2 : v < u
        ·rw [if_pos e2, if_pos (by omega)]
        rw [if_neg e2, if_neg (by omega)])
       have B2 := hb.setCell (p := ⟨G, u, none⟩) (by simpa using lG0) (.bool (rd u));have o32 : OwnBB (wr.setCell ⟨G, u, none⟩ (.bool (rd u))) G3 rd := Cel.setOther o3 (by omega) _ _;clear o o3 hold
       go_wp2
       go_roundw
       case rel => exact ⟨u + 1, by omega, by go_num, B2, o32, O2.out⟩
       case measure => simp [intOf]; omega
      rw [hold] at g0
      have O2 : Hid (OwnBB (wr.setCell ⟨G, u, none⟩ (.bool true)) G (fun v => if v < u + 1 then pinsA (ss.take (k + 1)) v else pinsA (ss.take k) v)) := (o.set hu3 true).ext (fun v hv => by
       by_cases e : v = u
       ·subst e; simp only [if_true, Nat.lt_succ_self]; rw [HSB'.out, hold]; simp
       simp only [e, if_false]
       by_cases e2 : v < u
       ·rw [if_pos e2, if_pos (by omega)]
       rw [if_neg e2, if_neg (by omega)])
      have B2 := hb.setCell (p := ⟨G, u, none⟩) (by simpa using lG0) (.bool true);have o32 : OwnBB (wr.setCell ⟨G, u, none⟩ (.bool true)) G3 rd := Cel.setOther o3 (by omega) _ _;clear o o3 hold
      go_wp2
      go_roundw
      case rel => exact ⟨u + 1, by omega, by go_num, B2, o32, O2.out⟩
      case measure => simp [intOf]; omega
     obtain rfl : u = 3 := by omega
     have O3 : Hid (OwnBB wr G (pinsA (ss.take (k + 1)))) := o.ext (fun v hv => by simp only [hv, if_true]);clear o o3
     go_wp2
     go_roundw
     case rel => exact ⟨k + 1, by omega, by go_num, hb, O3.out⟩
     case measure => simp [intOf]; omega
   obtain rfl : k = N := by omega
   have O3 : OwnBB wr G (pinsA ss) := by
    have : ss.take k = ss := qE (by rw [HN.out]; exact qG _);rw [this] at o; exact o
   go_wp2
   go_ret
   exact ⟨hb, .inr ⟨HU.out, G, 3, rfl, lG0, O3⟩⟩
end Go.Proofs.YtpmihhbgjimpmaaGreatDoor
