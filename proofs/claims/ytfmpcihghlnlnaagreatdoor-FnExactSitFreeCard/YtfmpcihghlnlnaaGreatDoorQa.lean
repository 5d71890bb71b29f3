/-
  Lemmas that the claim's last text rests on.
-/
import Derived.Test.YtfmpcihghlnlnaaGreatDoorQZ
namespace Go.Proofs.YtfmpcihghlnlnaaGreatDoor
open Go.RowKit Go.Deep
open Nat renaming le_refl → qA
set_option linter.unusedVariables false
set_option maxRecDepth 100000
set_option maxHeartbeats 25600000
variable {W : World} {a : Option Addr} {f : Nat -> Bool}
def BA (W : World) (a : Option Addr) (n : Nat) (f : Nat -> Bool) : Prop := ∀ j, j < n -> ∃ b off, a = some ⟨b, off, none⟩ /\ W.cell? ⟨b, off + j, none⟩ = some (.bool (f j))
theorem BA.none : BA W a 0 f := fun j hj => by omega
theorem Bools.ba (h : Bools W a f) : BA W a 3 f := fun j hj => by
 obtain ⟨b, off, e, hc⟩ := h
 exact ⟨b, off, e, hc j hj⟩
theorem OwnBB.ba {G : Nat} (h : OwnBB W G f) : BA W (some ⟨G, 0, Option.none⟩) 3 f := fun j hj => ⟨G, 0, rfl, by rw [Nat.zero_add]; exact (h.at hj).1⟩
theorem BA.below {W' : World} {n : Nat} (h : BA W a n f) (b : Below W.heap.size W W') : BA W' a n f := fun j hj => by
 obtain ⟨b0, off, e, hc⟩ := h j hj
 exact ⟨b0, off, e, (b.cell (p := ⟨b0, off + j, Option.none⟩) (block_lt hc)).trans hc⟩
theorem catB_parts {N : Nat} {ss : List L2V} (h : catB N ss = true) : N <= 4 /\ ss.all L2V.ok = true := by
 simp only [catB, Bool.and_eq_true] at h;have := inB_iff.1 h.1
 exact ⟨by omega, h.2⟩
theorem icatpins_any (ad : Option Addr) (N cap : Nat) (ss : List L2V) (w : World) (hN : ss.length = N) (hF : LSG w ad ss) (hN1 : N <= 1048576) :
  Calls Tryz.prog 81 #[.slice ad N cap] w fun e w' => Below w.heap.size w w' /\ ((catB N ss = false /\ e = .returned (.slice none 0 0)) \/ (catB N ss = true /\ ∃ G cG, e = .returned (.slice (some ⟨G, 0, none⟩) 3 cG) /\ w.heap.size <= G /\ OwnBB w' G (pinsA ss))) := by
 have HN : Hid (ss.length = N) := hN;have HF : Hid (LSG w ad ss) := hF;clear hN;obtain ⟨u, hu⟩ : ∃ u, catB N ss = u := ⟨_, rfl⟩
 have HU : Hid (catB N ss = u) := hu
 go_enter Tryz.func81, Tryz.ntmps81
 go_wp2_with fail
 refine (icat_any _ _ _ ss HN.out hF hN1).mono ?_;rintro e w1 ⟨rfl, b1⟩;rw [hu];clear hu hF
 cases u with
 | false =>
  go_wp2
  go_ret
  exact ⟨b1, .inl ⟨HU.out, rfl⟩⟩
 | true =>
  obtain ⟨i0, hi, hz0, hz1, hz2⟩ := info_parts Tryz.infoBool;obtain ⟨w2, hrun, o2, g2⟩ := run_make_full (P := Tryz.prog) (w := w1) w1.heap.size 77 4 i0 (.bool false) 1 Tryz.underlying77 hi hz0 hz1 .i64 .i64 3 (by rw [hz2]; omega) (by unfold maxLen; omega) (qA _);have hrun' : (Instr.makeSlice 77 (.int .i64 3) (.int .i64 3)).run Tryz.prog w1 = .ok (.slice (some ⟨w1.heap.size, 0, none⟩) 3 3) w2 := hrun;have b2 : Below w1.heap.size w1 w2 := (Below.refl _ _).grown g2 (qA _) (by simp)
  have O2 : OwnBB w2 w1.heap.size (pinsA (ss.take 0)) := by
   rcases o2.2 with ⟨e, _⟩ | ⟨g, cp, cur, hv, hg, hh, hl, hc, hs, ht⟩
   ·cases e
   cases hv
   have hl3 : cur.toList.length = 3 := by rw [Array.length_toList]; omega
   rw [List.take_of_length_le (by omega)] at ht
   have : cur = #[.bool false, .bool false, .bool false] := by
    apply Array.toList_inj.1
    rw [ht]; simpa [Value.cells] using toList_madeCells_one (.bool false) 3
   rw [this] at hh
   exact hh
  have B2 := btr b1 b2;have lG0 := b1.size;have N4 := (catB_parts HU.out).1;have HALL : Hid (ss.all L2V.ok = true) := (catB_parts HU.out).2;obtain ⟨G, hG⟩ : ∃ G, G = w1.heap.size := ⟨_, rfl⟩
  rw [<- hG] at O2 lG0 hrun';clear hrun o2 g2 b1 b2 hG
  go_wp2_with fail
  go_loopw [5, 6, 7, 14] (fun _ _ _ i wr => ∃ k : Nat, k <= N /\ i = .int .i64 k /\ Below w.heap.size w wr /\ OwnBB wr G (pinsA (ss.take k))) (fun _ _ _ i _ => N - (intOf i).toNat)
  case atStart => exact ⟨0, Nat.zero_le _, rfl, B2, O2⟩
  case round =>
   clear B2 O2 hrun';obtain ⟨k, hk, rfl, hb, o⟩ := hrel
   by_cases hlt : k < N
   ·have hlt' : (k : Int) < N := by omega
    have his : k < ss.length := by rw [HN.out]; exact hlt
    obtain ⟨ab, ao, rfl, hc, hLG⟩ := (HF.out.below hb) k his;have HSB : Hid (∀ v, pinsA (ss.take (k + 1)) v = (pinsA (ss.take k) v || readsR (rowsL (ss[k]?.getD noL).x) v)) := fun v => pinsA_snoc ss k his v
    have hsok : (ss[k]?.getD noL).ok = true := by
     rw [List.getElem?_eq_getElem his]
     exact List.all_eq_true.1 HALL.out _ (List.getElem_mem his)
    obtain ⟨s, hs⟩ : ∃ s, s = ss[k]?.getD noL := ⟨_, rfl⟩
    rw [<- hs] at hc hLG HSB hsok;obtain ⟨sa, sn, sc, sx⟩ := s;have hAct : actB sn sx = true := hsok;obtain ⟨hxl, hLin, hsn⟩ := hLG;have hc' : wr.cell? ⟨ab, ao + k, none⟩ = some (.slice sa sn sc) := hc;have HXL : Hid (sx.length = sn) := hxl;have HLIN : Hid (LinesG wr sa sx) := hLin;have HAC : Hid (actB sn sx = true) := hAct;clear hs hc hsok hxl hLin hAct
    go_wp2_with fail
    refine (icatreads_any sx HXL.out HLIN.out hsn).mono ?_;rintro ee w3 ⟨b3, h⟩
    obtain ⟨G3, c3, rfl, lG3, o3⟩ : ∃ G3 c3, ee = .returned (.slice (some ⟨G3, 0, none⟩) 3 c3) /\ wr.heap.size <= G3 /\ OwnBB w3 G3 (readsR (rowsL sx)) := by
     rcases h with ⟨h, _⟩ | ⟨_, G3, c3, h1, h2, h3⟩
     ·rw [HAC.out] at h; cases h
     exact ⟨G3, c3, h1, h2, h3⟩
    have lo : G < wr.heap.size := Cel.lt o;have hb3 := btr hb b3;have oo : OwnBB w3 G (fun v => if v < 0 then pinsA (ss.take (k + 1)) v else pinsA (ss.take k) v) := (o.below b3).ext (fun v hv => by simp);obtain ⟨rd, hrd⟩ : ∃ rd, rd = readsR (rowsL sx) := ⟨_, rfl⟩
    have HSB' : Hid (∀ v, pinsA (ss.take (k + 1)) v = (pinsA (ss.take k) v || rd v)) := fun v => by rw [hrd]; exact HSB.out v
    rw [<- hrd] at o3;have ne3 : G ≠ G3 := by omega
    clear h o b3 hb HXL HLIN HAC HSB hrd hc'
    go_wp2_with fail
    go_loopw [6, 7, 21] (fun _ _ i wr => ∃ u : Nat, u <= 3 /\ i = .int .i64 u /\ Below w.heap.size w wr /\ OwnBB wr G3 rd /\ OwnBB wr G (fun v => if v < u then pinsA (ss.take (k + 1)) v else pinsA (ss.take k) v)) (fun _ _ i _ => 3 - (intOf i).toNat)
    case atStart => exact ⟨0, by omega, rfl, hb3, o3, oo⟩
    case round =>
     clear hb3 o3 oo;obtain ⟨u, hu, rfl, hb, o3, o⟩ := hrel
     by_cases hu3 : u < 3
     ·have hu' : (u : Int) < 3 := by omega
      have r0 := (o3.at hu3).1
      have g0 : wr.cell? ⟨G, u, none⟩ = some (.bool (pinsA (ss.take k) u)) := by
       have := (o.at hu3).1;simpa using this
      have fz := (o.at hu3).2
      cases hold : pinsA (ss.take k) u
      ·rw [hold] at g0
       have O2 : Hid (OwnBB (wr.setCell ⟨G, u, none⟩ (.bool (rd u))) G (fun v => if v < u + 1 then pinsA (ss.take (k + 1)) v else pinsA (ss.take k) v)) := (o.set hu3 (rd u)).ext (fun v hv => by
        by_cases e : v = u
        ·subst e; simp only [if_true, Nat.lt_succ_self]; rw [HSB'.out, hold]; simp
        simp only [e, if_false]
        by_cases e2 : v < u
        ·rw [if_pos e2, if_pos (by omega)]
        rw [if_neg e2, if_neg (by omega)])
       have B2 := hb.setCell (p := ⟨G, u, none⟩) (by simpa using lG0) (.bool (rd u));have o32 : OwnBB (wr.setCell ⟨G, u, none⟩ (.bool (rd u))) G3 rd := Cel.setOther o3 (by omega) _ _;clear o o3 hold
       go_wp2
       go_roundw
       case rel => exact ⟨u + 1, by omega, by go_num, B2, o32, O2.out⟩
       case measure => simp [intOf]; omega
      rw [hold] at g0
      have O2 : Hid (OwnBB (wr.setCell ⟨G, u, none⟩ (.bool true)) G (fun v => if v < u + 1 then pinsA (ss.take (k + 1)) v else pinsA (ss.take k) v)) := (o.set hu3 true).ext (fun v hv => by
       by_cases e : v = u
       ·subst e; simp only [if_true, Nat.lt_succ_self]; rw [HSB'.out, hold]; simp
       simp only [e, if_false]
       by_cases e2 : v < u
       ·rw [if_pos e2, if_pos (by omega)]
       rw [if_neg e2, if_neg (by omega)])
      have B2 := hb.setCell (p := ⟨G, u, none⟩) (by simpa using lG0) (.bool true);have o32 : OwnBB (wr.setCell ⟨G, u, none⟩ (.bool true)) G3 rd := Cel.setOther o3 (by omega) _ _;clear o o3 hold
      go_wp2
      go_roundw
      case rel => exact ⟨u + 1, by omega, by go_num, B2, o32, O2.out⟩
      case measure => simp [intOf]; omega
     obtain rfl : u = 3 := by omega
     have O3 : Hid (OwnBB wr G (pinsA (ss.take (k + 1)))) := o.ext (fun v hv => by simp only [hv, if_true]);clear o o3
     go_wp2
     go_roundw
     case rel => exact ⟨k + 1, by omega, by go_num, hb, O3.out⟩
     case measure => simp [intOf]; omega
   obtain rfl : k = N := by omega
   have O3 : OwnBB wr G (pinsA ss) := by
    have : ss.take k = ss := List.take_of_length_le (by rw [HN.out]; exact qA _);rw [this] at o; exact o
   go_wp2
   go_ret
   exact ⟨hb, .inr ⟨HU.out, G, 3, rfl, lG0, O3⟩⟩
end Go.Proofs.YtfmpcihghlnlnaaGreatDoor
