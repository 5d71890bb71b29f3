/-
  Lemmas that the claim's last text rests on.
-/
import Derived.Maps.OwnIn
import Derived.Test.YtacfoeekmcnpjaaGreatDoorQJ
namespace Go.Proofs.YtacfoeekmcnpjaaGreatDoor
open Go.RowKit Go.Deep Go.Shelf
open List renaming getElem?_eq_getElem → qA, length_append → qB, take_of_length_le → qC, length_cons → qD, length_nil → qE, length_singleton → qH, length_map → qI
open Nat renaming le_refl → qF, zero_le → qG
set_option linter.unusedVariables false
set_option maxRecDepth 100000
set_option maxHeartbeats 25600000
variable {B G Gr N cap cr gn k n n0 sn : Nat} {Ds : List Nat} {E : List Int} {S : Nat -> Prop} {T : List (List Int)} {W W' X w : World} {a ad : Option Addr} {bs : Nat -> Nat} {cl : Int} {f : Nat -> Bool} {ls : List LV} {rs : List RowM} {ss : List L2V} {ts : List IV} {v : Value} {xs : List Value}
theorem oneSl {c : Nat} : ∀ u ∈ [Value.slice a n c], u.oneCell' = true := fun u hu => by
 simp at hu; subst hu; rfl
theorem field_C (a : Option Addr) (n ca : Nat) (c : Option Addr) (m cc : Nat) (K : Int) (W : World) : (Instr.field 151 (formV a n ca c m cc K) 0).run Tryz.prog W = .ok (.slice a n ca) W := by kernel_rfl
theorem OwnB.grown {Gp : Nat} {o : Obj} (h : OwnB W Gp f) (hg : (W.alloc o).grownBy W' (some G)) (hne : Gp ≠ G) : OwnB W' Gp f := by
 obtain ⟨cur, hc, hv⟩ := h
 exact ⟨cur, (hc.alloc o).grew hg (by simpa using fun e => hne e.symm), hv⟩
structure JQ (n0 Gr cr G : Nat) (xs : List Value) (rs : List RowM) (W : World) : Prop where
 o : W.ownsRow n0 159 4 (.slice (some ⟨Gr, 0, none⟩) rs.length cr) rs.length xs
 r : RowsOk W (fun k => k < n0 \/ k = G) xs rs
 ne : Gr ≠ G
theorem JQ.of (j : JR w Gr cr xs rs W) (hG : G < w.heap.size) : JQ w.heap.size Gr cr G xs rs W :=
 ⟨j.o, j.r.map (fun _ _ f => f.mono (fun k hk => Or.inl (by omega))), by have := j.lt; omega⟩
theorem JQ.lt (j : JQ n0 Gr cr G xs rs W) : n0 <= Gr /\ Gr < W.heap.size := by
 rcases j.o.2 with ⟨h, _⟩ | ⟨g, cap', cur, h, hg, hh, _⟩
 ·cases h
 ·simp only [Value.slice.injEq, Option.some.injEq, Addr.mk.injEq, and_true, true_and] at h
  obtain ⟨rfl, _⟩ := h
  exact ⟨hg, lt_of_block hh⟩
theorem JQ.below (j : JQ n0 Gr cr G xs rs W) (b : Below W.heap.size W W') : JQ n0 Gr cr G xs rs W' :=
 ⟨own_below j.o b, j.r.map (fun _ _ f => f.below b), j.ne⟩
theorem JQ.grown {g : Nat} {o : Obj} (j : JQ n0 Gr cr G xs rs W) (hg : (W.alloc o).grownBy W' (some G)) (hat : g = G \/ W.heap.size < g) : JQ n0 Gr cr g xs rs W' := by
 have A : Below W.heap.size W (W.alloc o) := bal
 have ja := j.below A
 have T : Touch (fun y => y = G) (W.alloc o) W' := ⟨hg.os, hg.tape, hg.output, hg.size, fun z hz hn => hg.block z hz (fun e => hn (by simpa using e))⟩
 refine ⟨own_off ja.o (fun z hz hs => ?_) T, ja.r.map (fun _ _ f => f.grown hg (by rw [World.size_alloc]; omega)), ?_⟩
 ·have hz' : some Gr = some z := hz
  simp only [Option.some.injEq] at hz'
  exact j.ne (by omega)
 ·have := j.lt
  have := j.ne
  omega
theorem pots3_take (h : k < 3) : pots3.take (k + 1) = pots3.take k ++ [([0, 0, 0] : List Int).set k 1] := by
 match k, h with
 | 0, _ => rfl
 | 1, _ => rfl
 | 2, _ => rfl
theorem partL_len3 {f : Frm} {M : Int} (h : fitX M f) : (partL f.1).length = 3 := by
 rw [part_len]; exact h.1
theorem sboth_any (ss : List L2V) {w : World} (hN : ss.length = N) (hF : LSG w ad ss) (hok : ss.all L2V.ok = true) (hN4 : N <= 4) :
  Calls Tryz.prog 42 #[.slice ad N cap] w fun e w' => ∃ G cG ts nt Gp cp, e = .returned (.tuple #[.slice (some ⟨G, 0, none⟩) nt cG, .slice (some ⟨Gp, 0, none⟩) 3 cp]) /\ ts.length = nt /\ JP w G cG ts w' /\ ts.map IV.x = catP ss /\ nt <= 600000 /\ OwnB w' Gp (pinsA ss) /\ w.heap.size <= Gp := by
 have HN : Hid (ss.length = N) := hN
 have HOK : Hid (ss.all L2V.ok = true) := hok
 have HF : Hid (LSG w ad ss) := hF
 clear hN hok hF
 obtain ⟨i0, hi, hz0, hz1, hz2⟩ := info_parts Tryz.infoI
 have b0 : Below w.heap.size w ((w.alloc (.cells #[] 23)).alloc (.cells #[.bool false, .bool false, .bool false] 4)) := (bal).alloc (by simp) _
 have j0 : JP w w.heap.size 0 [] ((w.alloc (.cells #[] 23)).alloc (.cells #[.bool false, .bool false, .bool false] 4)) := (JP.nil w w (Below.refl _ _)).below (bal)
 have p0 : OwnB ((w.alloc (.cells #[] 23)).alloc (.cells #[.bool false, .bool false, .bool false] 4)) (w.heap.size + 1) (pinsA (ss.take 0)) := by
  refine ⟨[.bool false, .bool false, .bool false], ?_, fun v hv => ?_⟩
  ·have := Cel.new (w.alloc (.cells #[] 23)) [.bool false, .bool false, .bool false] 4
   rw [World.size_alloc] at this; exact this
  ·match v, hv with
   | 0, _ => simp [pinsA]
   | 1, _ => simp [pinsA]
   | 2, _ => simp [pinsA]
 go_enter Tryz.func42, Tryz.ntmps42
 go_wp2_with fail
 go_loopw [4, 6] (fun out v wr => ∃ (k G cG : Nat) (ts : List IV), k <= 3 /\ v = .int .i64 k /\ out = .slice (some ⟨G, 0, none⟩) k cG /\ ts.length = k /\ JP w G cG ts wr /\ ts.map IV.x = pots3.take k /\ OwnB wr (w.heap.size + 1) (pinsA (ss.take 0)) /\ w.heap.size + 1 ≠ G) (fun _ v _ => 3 - (intOf v).toNat)
 case atStart => exact ⟨0, _, _, [], by omega, rfl, rfl, rfl, j0, rfl, p0, by omega⟩
 case round =>
  clear j0 p0 b0
  obtain ⟨k, G, cG, ts, hk, rfl, rfl, hl, jp, hx, p, pne⟩ := hrel
  have HL : Hid (ts.length = k) := hl
  have HX : Hid (ts.map IV.x = pots3.take k) := hx
  clear hl hx
  by_cases hlt : k < 3
  ·have hlt' : (k : Int) < 3 := by omega
   have HP : Hid (potC (k : Int) = [0, 0, 0].set k 1) := potC_in _ k rfl (by omega)
   have lG := jp.lt
   go_wp2_with fail
   refine (spot_any).mono ?_
   rintro e w1 ⟨a, n, ca, c, m, cc, B1, B2, rfl, hn, hm, b1, o1, o2, g1, g2, ne⟩
   have hn3 : n = 3 := by rw [<- hn, HP.out]; simp
   subst hn3
   have I1 : Ints w1 a 3 (potC (k : Int)) := o1.ints' hn
   have Hne : Hid (∀ b o, a = some ⟨b, o, none⟩ -> b ≠ G) := fun b o e => by
    rcases o1 with h | ⟨h, _⟩
    ·rw [h] at hn; cases hn
    ·rw [h] at e
     simp only [Option.some.injEq, Addr.mk.injEq, and_true] at e
     have := g1 (by omega)
     omega
   have jp1 := jp.below b1
   have p1 := p.below b1
   have jo := jp1.o
   rw [HL.out] at jo
   have js := jp1.b.size
   have hfl : ∀ W, (Instr.field 151 (formV a 3 ca c m cc 0) 0).run Tryz.prog W = .ok (.slice a 3 ca) W := fun W => field_C a 3 ca c m cc 0 W
   clear jp p b1 o1 o2 hn hm ne g1 g2
   go_wp2_with (at_builtin; go_must (refine wpList_append_lies _ rfl (.tmp 18) (.tmp 22) 75 rfl w.heap.size 23 i0 _ 1 24 Tryz.underlying75 hi hz0 hz1 hz2 rfl (by decide) _ _ _ rfl (jo.alloc _) ⟨w1.heap.size, 0, none⟩ 1 1 [.slice a 3 ca] rfl rfl (news1 w1) oneSl (by omega) (by unfold maxLen; omega) (by omega) (by rw [World.size_alloc]; omega) _ rfl ?_); intro g cp2 w2 hown hgrow hat hlt1)
   have hat' : g = G \/ w1.heap.size <= g := by
    rcases hat with h | h
    ·have h' : some G = some g := h
     simp only [Option.some.injEq] at h'
     exact Or.inl h'.symm
    ·rw [World.size_alloc] at h
     exact Or.inr (by omega)
   have jp2 := jp1.app (s := ⟨a, 3, ca, potC (k : Int)⟩) HL.out rfl I1 Hne.out hown hgrow hat'
   have lp1 := p1.lt
   have p2 := p1.grown hgrow pne
   have pne2 : w.heap.size + 1 ≠ g := by omega
   have HX2 : Hid ((ts ++ [(⟨a, 3, ca, potC (k : Int)⟩ : IV)]).map IV.x = pots3.take (k + 1)) := by
    show _ = _
    rw [List.map_append, HX.out, pots3_take hlt, <- HP.out]; rfl
   have HL2 : Hid ((ts ++ [(⟨a, 3, ca, potC (k : Int)⟩ : IV)]).length = k + 1) := by show _ = _; rw [qB, HL.out]; rfl
   clear hown hgrow hat jo jp1 p1 I1 Hne
   go_wp2
   go_roundw
   case rel => exact ⟨k + 1, g, cp2, _, by omega, by go_num, rfl, HL2.out, jp2, HX2.out, p2, pne2⟩
   case measure => simp [intOf]; omega
  ·obtain rfl : k = 3 := by omega
   have HX3 : Hid (ts.map IV.x = actsP pots3 (ss.take 0)) := HX.out
   have hb3 := jp.b
   clear HX
   go_wp2_with fail
   go_loopw [4, 5, 7, 8, 9, 10, 11] (fun out pins i _ _ _ _ wr => ∃ (ia G cG nt Gp cp : Nat) (ts : List IV), ia <= N /\ i = .int .i64 ia /\ out = .slice (some ⟨G, 0, none⟩) nt cG /\ pins = .slice (some ⟨Gp, 0, none⟩) 3 cp /\ ts.length = nt /\ nt <= 3 + 128000 * ia /\ JP w G cG ts wr /\ ts.map IV.x = actsP pots3 (ss.take ia) /\ OwnB wr Gp (pinsA (ss.take ia)) /\ w.heap.size <= Gp /\ Gp ≠ G) (fun _ _ i _ _ _ _ _ => N - (intOf i).toNat)
   case atStart => exact ⟨0, G, cG, 3, w.heap.size + 1, 3, ts, by omega, rfl, rfl, rfl, HL.out, by omega, jp, HX3.out, p, by omega, pne⟩
   case round =>
    clear jp p pne HX3 HL hb3 hlt hk
    obtain ⟨ia, G, cG, nt, Gp, cp, ts, hia, rfl, rfl, rfl, hl, hnt, jp, hx, p, lGp, pne⟩ := hrel
    have HL : Hid (ts.length = nt) := hl
    have HX : Hid (ts.map IV.x = actsP pots3 (ss.take ia)) := hx
    clear hl hx
    by_cases hlt : ia < N
    ·have hlt' : (ia : Int) < N := by omega
     have his : ia < ss.length := by rw [HN.out]; exact hlt
     obtain ⟨ab, ao, rfl, hc, hLG⟩ := (HF.out.below jp.b) ia his
     have HSA : Hid (∀ ps, ps = actsP pots3 (ss.take ia) -> rowsP ps (rowsL (ss[ia]?.getD noL).x) = actsP pots3 (ss.take (ia + 1))) := fun ps h => by rw [h, actsP_snoc his]
     have HSB : Hid (∀ v, pinsA (ss.take (ia + 1)) v = (pinsA (ss.take ia) v || readsR (rowsL (ss[ia]?.getD noL).x) v)) := fun v => pinsA_snoc ss ia his v
     have hsok : (ss[ia]?.getD noL).ok = true := by
      rw [qA his]
      exact List.all_eq_true.1 HOK.out _ (List.getElem_mem his)
     obtain ⟨s, hs⟩ : ∃ s, s = ss[ia]?.getD noL := ⟨_, rfl⟩
     rw [<- hs] at hc hLG HSA HSB hsok
     obtain ⟨sa, sn, sc, sx⟩ := s
     have hAct : actB sn sx = true := hsok
     obtain ⟨hxl, hLin, hsn⟩ := hLG
     have hc' : wr.cell? ⟨ab, ao + ia, none⟩ = some (.slice sa sn sc) := hc
     have HXL : Hid (sx.length = sn) := hxl
     have HLIN : Hid (LinesG wr sa sx) := hLin
     have lG := jp.lt
     clear hs hc hsok hxl hLin
     have HAC : Hid (actB sn sx = true) := hAct
     clear hAct
     go_wp2_with fail
     refine (srows_any sx HXL.out HLIN.out hsn).mono ?_
     rw [show rowsB sn sx = rowsL sx from by rw [rowsB, HAC.out]; rfl]
     rintro ee w3 ⟨Gr, cr, xs, rfl, j3⟩
     have HFIT : Hid (∀ r ∈ rowsL sx, RowFit r) := rowsL_fit (by rw [HXL.out]; exact (actB_parts HAC.out).1) (actB_parts HAC.out).2 HLIN.out
     have jq3 : JQ wr.heap.size Gr cr G xs (rowsL sx) w3 := JQ.of j3 lG.2
     have p3 := p.below j3.b
     have jp3 := jp.below j3.b
     obtain ⟨R, hR⟩ : ∃ R, R = rowsL sx := ⟨_, rfl⟩
     have HSA' : Hid (∀ ps, ps = actsP pots3 (ss.take ia) -> rowsP ps R = actsP pots3 (ss.take (ia + 1))) := fun ps h => by rw [hR]; exact HSA.out ps h
     have HSB' : Hid (∀ v, pinsA (ss.take (ia + 1)) v = (pinsA (ss.take ia) v || readsR R v)) := fun v => by rw [hR]; exact HSB.out v
     have q1 : R.length <= 128 := by rw [hR]; exact goW_128 (by omega)
     rw [<- hR] at jq3 HFIT ⊢
     obtain ⟨n0, hn0⟩ : ∃ n0, n0 = wr.heap.size := ⟨_, rfl⟩
     rw [<- hn0] at jq3
     obtain ⟨PS, hPS⟩ : ∃ PS, PS = actsP pots3 (ss.take ia) := ⟨_, rfl⟩
     obtain ⟨PB, hPB⟩ : ∃ PB, PB = pinsA (ss.take ia) := ⟨_, rfl⟩
     obtain ⟨pinK, hpin⟩ : ∃ pinK : Nat -> Nat -> Bool, pinK = fun k v => PB v || readsR (R.take k) v := ⟨_, rfl⟩
     have HPK : Hid (pinK = fun k v => PB v || readsR (R.take k) v) := hpin
     have p4 : OwnB w3 Gp (pinK 0) := p3.ext (fun v _ => by rw [hpin, hPB]; simp [readsR])
     have HX0 : Hid (ts.map IV.x = rowsP PS (R.take 0)) := by show _ = _; rw [HX.out, hPS]; rfl
     have HSA2 : Hid (rowsP PS R = actsP pots3 (ss.take (ia + 1))) := HSA'.out PS hPS
     have HSB2 : Hid (∀ v, pinsA (ss.take (ia + 1)) v = pinK R.length v) := fun v => by rw [HSB'.out v, hpin, hPB]; dsimp only; rw [qC (qF _)]
     clear j3 hR HSA HSB HSA' HSB' hn0 hPS hPB hpin p p3 jp HX HLIN HXL HAC hc'
     go_wp2_with fail
     go_loopw [4, 5, 9, 10, 11] (fun out pins i _ _ wr => ∃ (k G cG nt Gp cp : Nat) (ts : List IV), k <= R.length /\ i = .int .i64 k /\ out = .slice (some ⟨G, 0, none⟩) nt cG /\ pins = .slice (some ⟨Gp, 0, none⟩) 3 cp /\ ts.length = nt /\ nt <= 3 + 128000 * ia + 1000 * k /\ JP w G cG ts wr /\ ts.map IV.x = rowsP PS (R.take k) /\ OwnB wr Gp (pinK k) /\ w.heap.size <= Gp /\ Gp ≠ G /\ JQ n0 Gr cr G xs R wr) (fun _ _ i _ _ _ => R.length - (intOf i).toNat)
     case atStart => exact ⟨0, G, cG, nt, Gp, cp, ts, by omega, rfl, rfl, rfl, HL.out, by omega, jp3, HX0.out, p4, lGp, pne, jq3⟩
     case round =>
      clear jp3 p4 pne HX0 HL jq3 hnt lGp lG
      obtain ⟨k, Go, cGo, nt, G, cG, ts, hk, rfl, rfl, rfl, hl, hnt, jp, hx, o, lGp, pne, j⟩ := hrel
      have HL : Hid (ts.length = nt) := hl
      have HX : Hid (ts.map IV.x = rowsP PS (R.take k)) := hx
      have hb := jp.b
      clear hl hx
      by_cases hlt3 : k < R.length
      ·have hlt3' : (k : Int) < R.length := by omega
       obtain ⟨ga, gc, aa, ac, ta, tc, x0, x1, x2, x3, f0, f1, f2⟩ := j.r k hlt3
       have HSP : Hid (∀ v, pinK (k + 1) v = readsF (readsF (pinK k) (R[k]?.getD noR).adds) (R[k]?.getD noR).tells v) := fun v => by
        rw [HPK.out]
        show (PB v || readsR (R.take (k + 1)) v) = _
        rw [readsR_snoc R k hlt3 v]
        simp [readsF, Bool.or_assoc]
       have HSG : Hid (∀ ps, ps = rowsP PS (R.take k) -> guardsP ps (R[k]?.getD noR).guards = rowsP PS (R.take (k + 1))) := fun ps h => by rw [h, rowsP_snoc hlt3]
       have hfit : RowFit (R[k]?.getD noR) := HFIT.out _ (by rw [qA hlt3]; exact List.getElem_mem hlt3)
       have HRK : Hid (∀ W, JQ n0 Gr cr Go xs R W -> True) := fun _ _ => trivial
       obtain ⟨q, hq⟩ : ∃ q, q = R[k]?.getD noR := ⟨_, rfl⟩
       have HQ : Hid (q = R[k]?.getD noR) := hq
       rw [<- hq] at x0 x1 x2 x3 f0 f1 f2 HSP HSG hfit
       have HA : Hid _ := hfit.a
       have HTt : Hid _ := hfit.t
       have HGf : Hid _ := hfit.g
       have la := hfit.la
       have lt := hfit.lt
       have lgq := hfit.lg
       have sl := j.o.1
       have n1 := (own_cell j.o (k * 4 + 1) (by omega)).trans x1
       have n2 := (own_cell j.o (k * 4 + 2) (by omega)).trans x2
       have lGr := j.lt
       have FA := f1.at
       have FT := f2.at
       have KP : Hid (∀ W, Below wr.heap.size wr W -> (W.cell? ⟨Gr, k * 4 + 1, none⟩ = some (.slice aa q.adds.length ac) /\ W.cell? ⟨Gr, k * 4 + 2, none⟩ = some (.slice ta q.tells.length tc))) := fun W hW => ⟨(hW.cell (p := ⟨Gr, k * 4 + 1, none⟩) lGr.2).trans n1, (hW.cell (p := ⟨Gr, k * 4 + 2, none⟩) lGr.2).trans n2⟩
       have e0 : Below wr.heap.size wr wr.drew := (Below.refl _ _).drew
       have hSS := And.intro (KP.out _ e0) (True.intro)
       have lGo := jp.lt
       clear hfit x0 x1 x2 x3 f0 f1 f2 hq
       go_upto_region 14 with fail
       refine wp_region_ends (fun w' => w'.cell? ⟨Gr, k * 4 + 1, none⟩ = some (.slice aa q.adds.length ac) /\ w'.cell? ⟨Gr, k * 4 + 2, none⟩ = some (.slice ta q.tells.length tc)) (fun _ => True) 13 (by kernel_rfl) ?_
       refine tkl 0 rfl hSS ?_
       refine tkl 1 rfl hSS ?_
       refine tkl 2 rfl hSS ?_
       refine tkl 3 rfl hSS ?_
       refine tkl 4 rfl hSS ?_
       refine tkl 5 rfl hSS ?_
       refine tkl 7 rfl hSS ?_
       refine tkl 8 rfl hSS ?_
       refine tkl 9 rfl hSS ?_
       refine tkl 10 rfl hSS ?_
       refine tkl 11 rfl hSS ?_
       clear hSS
       refine wo1 6 rfl fun K hK => ?_
       go_simp
       refine (sreads_any q.adds (o.bools.below e0) rfl (FA.keep e0) HA.out (by omega)).mono ?_
       rintro ee w4 ⟨G4, c4, rfl, bd4, l4, o4⟩
       have b4 := below_of_drew bd4
       have l4x : wr.heap.size <= G4 := l4
       clear bd4 l4
       (try dsimp only)
       refine kk0 hK (KP.out _ b4) ?_
       refine wo1 12 rfl fun K hK => ?_
       go_simp
       refine (sreads_any q.tells o4.bools rfl (FT.keep b4) HTt.out (by omega)).mono ?_
       rintro ee w5 ⟨G5, c5, rfl, bd5, l5, o5⟩
       have b5 := btq b4 bd5
       have s4 := b4.size
       have sb := hb.size
       have O5 : Hid (OwnB w5 G5 (pinK (k + 1))) := o5.ext (fun v _ => (HSP.out v).symm)
       have J5 := j.below b5
       have P5 := jp.below b5
       have B5 := btq hb b5
       clear bd5 o4 o5 o j jp
       (try dsimp only)
       refine kk0 hK (KP.out _ b5) ?_
       refine wo1 13 rfl fun K hK => ?_
       go_simp
       refine kk0 hK (KP.out _ b5) ?_
       refine wod ?_ _
       clear KP b4 b5 FA FT n1 n2
       have pne5 : G5 ≠ Go := by omega
       have lG5 : w.heap.size <= G5 := by omega
       obtain ⟨PG, hPG⟩ : ∃ PG, PG = rowsP PS (R.take k) := ⟨_, rfl⟩
       have HSG2 : Hid (guardsP PG q.guards = rowsP PS (R.take (k + 1))) := HSG.out PG hPG
       have HXG : Hid (ts.map IV.x = guardsP PG (q.guards.take 0)) := by show _ = _; rw [HX.out, hPG]; rfl
       obtain ⟨NG, hNG⟩ : ∃ NG, NG = q.guards.length := ⟨_, rfl⟩
       have HNG : Hid (NG = q.guards.length) := hNG
       rw [<- hNG] at lgq
       clear hPG HSG HX HSP hNG hb lGp pne sl lGr lGo e0
       go_wp2_with fail
       go_loopw [4, 10, 11] (fun out i _ wr => ∃ (g G cG nt : Nat) (ts : List IV), g <= NG /\ i = .int .i64 g /\ out = .slice (some ⟨G, 0, none⟩) nt cG /\ ts.length = nt /\ nt <= 3 + 128000 * ia + 1000 * k + g /\ JP w G cG ts wr /\ ts.map IV.x = guardsP PG (q.guards.take g) /\ OwnB wr G5 (pinK (k + 1)) /\ G5 ≠ G /\ JQ n0 Gr cr G xs R wr) (fun _ i _ _ => NG - (intOf i).toNat)
       case atStart => exact ⟨0, Go, cGo, nt, ts, by omega, rfl, rfl, HL.out, by omega, P5, HXG.out, O5.out, pne5, J5⟩
       case round =>
        clear O5 P5 J5 HXG HL pne5 hnt B5 l5 s4 sb
        obtain ⟨g, G, cG, nt, ts, hg, rfl, rfl, hl, hnt, jp, hx, o, pne, j⟩ := hrel
        have HL : Hid (ts.length = nt) := hl
        have HX : Hid (ts.map IV.x = guardsP PG (q.guards.take g)) := hx
        clear hl hx
        obtain ⟨ga, gc, aa, ac, ta, tc, x0, x1, x2, x3, f0, f1, f2⟩ := j.r k hlt3
        rw [<- HQ.out] at x0 f0
        have sl := j.o.1
        have n0' := (own_cell j.o (k * 4) (by omega)).trans x0
        rw [<- HNG.out] at n0'
        have lGr := j.lt
        have lG := jp.lt
        by_cases hlt4 : g < NG
        ·have hlt4' : (g : Int) < NG := by omega
         have hgl : g < q.guards.length := by rw [<- HNG.out]; exact hlt4
         have HSX : Hid (guardsP PG (q.guards.take (g + 1)) = addP (guardsP PG (q.guards.take g)) (partL (q.guards[g]?.getD ([], [], 0)).1)) := guardsP_snoc PG q.guards g hgl
         have hl3 : (partL (q.guards[g]?.getD ([], [], 0)).1).length = 3 := partL_len3 (HGf.out g hgl)
         obtain ⟨fb, fo, rfl, a', c', ca, cc, c0, c1, c2, iC, iD⟩ := f0.at g hgl
         generalize (q.guards[g]?.getD ([], [], 0)).1 = C at *
         generalize (q.guards[g]?.getD ([], [], 0)).2.2 = kz at *
         have HPL : Hid ((partL C).length = 3) := hl3
         clear f0 f1 f2 x0 x1 x2 x3 iD hl3
         go_wp2_with fail
         refine (spart_new 3 2 C iC (by omega)).mono ?_
         rintro ee w6 ⟨pa, pc, rfl, b6, i6, l6⟩
         have jp6 := jp.below b6
         have o6 := o.below b6
         have j6 := j.below b6
         have HL6 : Hid (∀ b o, pa = some ⟨b, o, none⟩ -> b ≠ G) := fun b o e => by have := (l6 b o e).1; omega
         clear jp o j b6 iC c0 c1 c2 n0' l6 lG lGr
         go_wp2_with fail
         refine (shas_any nt cG ts 3 (partL C) HL.out jp6.g (by omega) i6 (by omega)).mono ?_
         rintro ee w7 ⟨rfl, b7⟩
         have jp7 := jp6.below b7
         have o7 := o6.below b7
         have j7 := j6.below b7
         have i7 := i6.below b7
         obtain ⟨hv, hhv⟩ : ∃ hv, hv = hasI ts (partL C) := ⟨_, rfl⟩
         have HV : Hid (hv = hasFrom (partL C) 0 (guardsP PG (q.guards.take g))) := by show _ = _; rw [hhv, hasI, HX.out]
         rw [<- hhv]
         clear jp6 o6 j6 i6 b7 hhv
         by_cases hneg : hv < 0
         ·go_wp2_with fail
          refine (szero_any).mono ?_
          rintro ee w8 ⟨B1, B2, rfl, b8, y1, y12, y2, k1, k2⟩
          have hfl : ∀ W, (Instr.field 151 (formV (some ⟨B1, 0, none⟩) 3 3 (some ⟨B2, 0, none⟩) 2 2 0) 0).run Tryz.prog W = .ok (.slice (some ⟨B1, 0, none⟩) 3 3) W := fun W => field_C _ _ _ _ _ _ _ W
          have jp8 := jp7.below b8
          have o8 := o7.below b8
          have j8 := j7.below b8
          have i8 := i7.below b8
          clear jp7 o7 j7 i7 b8 y1 y12 y2 k2
          go_wp2_with fail
          refine (l4same_any 3 3 (partL C) [0, 0, 0] i8 (k1.ints' rfl) (by omega) (by omega)).mono ?_
          rintro ee w9 ⟨rfl, b9⟩
          have jp9 := jp8.below b9
          have o9 := o8.below b9
          have j9 := j8.below b9
          have i9 := i8.below b9
          clear jp8 o8 j8 i8 b9 k1 hfl
          cases hz : eqB (partL C) [0, 0, 0]
          ·have HNZ : Hid (partL C ≠ [0, 0, 0]) := fun e => by rw [e] at hz; simp [eqB] at hz
           have jo := jp9.o
           rw [HL.out] at jo
           have js := jp9.b.size
           have lo9 := o9.lt
           clear hz
           go_wp2_with (at_builtin; go_must (refine wpList_append_lies _ rfl (.tmp 84) (.tmp 86) 75 rfl w.heap.size 23 i0 _ 1 24 Tryz.underlying75 hi hz0 hz1 hz2 rfl (by decide) _ _ _ rfl (jo.alloc _) ⟨w9.heap.size, 0, none⟩ 1 1 [.slice pa 3 pc] rfl rfl (news1 w9) oneSl (by omega) (by unfold maxLen; omega) (by omega) (by rw [World.size_alloc]; omega) _ rfl ?_); intro gg cp2 w10 hown hgrow hat hlt1)
           have hat' : gg = G \/ w9.heap.size < gg := by
            rcases hat with h | h
            ·have h' : some G = some gg := h
             simp only [Option.some.injEq] at h'
             exact Or.inl h'.symm
            ·rw [World.size_alloc] at h
             exact Or.inr (by omega)
           have jp10 := jp9.app (s := ⟨pa, 3, pc, partL C⟩) HL.out rfl i9 HL6.out hown hgrow (by omega)
           have o10 := o9.grown hgrow pne
           have j10 := j9.grown hgrow hat'
           have HXa : Hid ((ts ++ [(⟨pa, 3, pc, partL C⟩ : IV)]).map IV.x = guardsP PG (q.guards.take (g + 1))) := by
            show _ = _
            rw [List.map_append, HX.out, HSX.out, addP_new (by rw [<- HV.out]; exact hneg) HNZ.out]; rfl
           have HLa : Hid ((ts ++ [(⟨pa, 3, pc, partL C⟩ : IV)]).length = nt + 1) := by show _ = _; rw [qB, HL.out]; rfl
           have pne10 : G5 ≠ gg := by omega
           clear hown hgrow hat jo jp9 o9 j9 i9 HL6 HNZ
           go_wp2
           go_roundw
           case rel => exact ⟨g + 1, gg, cp2, nt + 1, _, by omega, by go_num, rfl, HLa.out, by omega, jp10, HXa.out, o10, pne10, j10⟩
           case measure => simp [intOf]; omega
          ·have HXa : Hid (ts.map IV.x = guardsP PG (q.guards.take (g + 1))) := by
            show _ = _
            rw [HX.out, HSX.out, addP_zero (by simpa [eqB] using hz)]
           clear hz HX
           go_wp2
           go_roundw
           case rel => exact ⟨g + 1, G, cG, nt, ts, by omega, by go_num, rfl, HL.out, by omega, jp9, HXa.out, o9, pne, j9⟩
           case measure => simp [intOf]; omega
         ·have HXa : Hid (ts.map IV.x = guardsP PG (q.guards.take (g + 1))) := by
           show _ = _
           rw [HX.out, HSX.out, addP_has (by rw [<- HV.out]; exact hneg)]
          clear HX
          go_wp2
          go_roundw
          case rel => exact ⟨g + 1, G, cG, nt, ts, by omega, by go_num, rfl, HL.out, by omega, jp7, HXa.out, o7, pne, j7⟩
          case measure => simp [intOf]; omega
        ·obtain rfl : g = NG := by omega
         have HXe : Hid (ts.map IV.x = rowsP PS (R.take (k + 1))) := by
          show _ = _
          rw [HX.out, qC (by rw [<- HNG.out]; exact qF _), HSG2.out]
         clear f0 f1 f2 x0 x1 x2 x3 HX
         go_wp2
         go_roundw
         case rel => exact ⟨k + 1, G, cG, nt, G5, c5, ts, by omega, by go_num, rfl, rfl, HL.out, by omega, jp, HXe.out, o, lG5, pne, j⟩
         case measure => simp [intOf]; omega
      ·obtain rfl : k = R.length := by omega
       have HXe : Hid (ts.map IV.x = actsP pots3 (ss.take (ia + 1))) := by
        show _ = _
        rw [HX.out, qC (qF _), HSA2.out]
       have oe : OwnB wr G (pinsA (ss.take (ia + 1))) := o.ext (fun v _ => (HSB2.out v).symm)
       clear o HX
       go_wp2
       go_roundw
       case rel =>
        refine ⟨_, _, _, _, _, _, _, _, _, _, _, _, _, _, _, _, _, _, _, _, _, _, _, _, _, _, _, _, _, _, _, _, _, _, _, _, _, _, _, _, _, _, _, _, _, _, _, _, _, _, _, _, _, _, _, _, _, _, _, _, _, _, _, _, _, _, _, _, _, _, _, ?_, rfl⟩
        exact ⟨ia + 1, Go, cGo, nt, G, cG, ts, by omega, by go_num, rfl, rfl, HL.out, by omega, jp, HXe.out, oe, lGp, pne⟩
       case measure => simp [intOf]; omega
    ·obtain rfl : ia = N := by omega
     have hall : ss.take ia = ss := qC (by rw [HN.out]; exact qF _)
     have HXe : Hid (ts.map IV.x = catP ss) := by show _ = _; rw [HX.out, hall]; rfl
     have oe : OwnB wr Gp (pinsA ss) := by rw [hall] at p; exact p
     clear hall p HX
     go_wp2
     go_ret2
     exact ⟨G, cG, ts, nt, Gp, cp, rfl, HL.out, jp, HXe.out, by omega, oe, lGp⟩
def BA (W : World) (a : Option Addr) (n : Nat) (f : Nat -> Bool) : Prop := ∀ j, j < n -> ∃ b off, a = some ⟨b, off, none⟩ /\ W.cell? ⟨b, off + j, none⟩ = some (.bool (f j))
theorem Bools.ba (h : Bools W a f) : BA W a 3 f := fun j hj => by
 obtain ⟨b, off, e, hc⟩ := h
 exact ⟨b, off, e, hc j hj⟩
theorem OwnBB.ba (h : OwnBB W G f) : BA W (some ⟨G, 0, Option.none⟩) 3 f := fun j hj => ⟨G, 0, rfl, by rw [Nat.zero_add]; exact (h.at hj).1⟩
theorem BA.below (h : BA W a n f) (b : Below W.heap.size W W') : BA W' a n f := fun j hj => by
 obtain ⟨b0, off, e, hc⟩ := h j hj
 exact ⟨b0, off, e, (b.cell (p := ⟨b0, off + j, Option.none⟩) (block_lt hc)).trans hc⟩
theorem catB_parts (h : catB N ss = true) : N <= 4 /\ ss.all L2V.ok = true := by
 simp only [catB, Bool.and_eq_true] at h
 have := inB_iff.1 h.1
 exact ⟨by omega, h.2⟩
theorem icatpins_any (ad : Option Addr) (N cap : Nat) (ss : List L2V) (w : World) (hN : ss.length = N) (hF : LSG w ad ss) (hN1 : N <= 1048576) :
  Calls Tryz.prog 237 #[.slice ad N cap] w fun e w' => Below w.heap.size w w' /\ ((catB N ss = false /\ e = .returned (.slice none 0 0)) \/ (catB N ss = true /\ ∃ G cG, e = .returned (.slice (some ⟨G, 0, none⟩) 3 cG) /\ w.heap.size <= G /\ OwnBB w' G (pinsA ss))) := by
 have HN : Hid (ss.length = N) := hN
 have HF : Hid (LSG w ad ss) := hF
 clear hN
 obtain ⟨u, hu⟩ : ∃ u, catB N ss = u := ⟨_, rfl⟩
 have HU : Hid (catB N ss = u) := hu
 go_enter Tryz.func237, Tryz.ntmps237
 go_wp2_with fail
 refine (icat_any _ _ _ ss HN.out hF hN1).mono ?_
 rintro e w1 ⟨rfl, b1⟩
 rw [hu]
 clear hu hF
 cases u with
 | false =>
  go_wp2
  go_ret
  exact ⟨b1, .inl ⟨HU.out, rfl⟩⟩
 | true =>
  obtain ⟨i0, hi, hz0, hz1, hz2⟩ := info_parts Tryz.infoBool
  obtain ⟨w2, hrun, o2, g2⟩ := run_make_full (P := Tryz.prog) (w := w1) w1.heap.size 76 4 i0 (.bool false) 1 Tryz.underlying76 hi hz0 hz1 .i64 .i64 3 (by rw [hz2]; omega) (by unfold maxLen; omega) (qF _)
  have hrun' : (Instr.makeSlice 76 (.int .i64 3) (.int .i64 3)).run Tryz.prog w1 = .ok (.slice (some ⟨w1.heap.size, 0, none⟩) 3 3) w2 := hrun
  have b2 : Below w1.heap.size w1 w2 := (Below.refl _ _).grown g2 (qF _) (by simp)
  have O2 : OwnBB w2 w1.heap.size (pinsA (ss.take 0)) := by
   rcases o2.2 with ⟨e, _⟩ | ⟨g, cp, cur, hv, hg, hh, hl, hc, hs, ht⟩
   ·cases e
   ·cases hv
    have hl3 : cur.toList.length = 3 := by rw [Array.length_toList]; omega
    rw [qC (by omega)] at ht
    have : cur = #[.bool false, .bool false, .bool false] := by
     apply Array.toList_inj.1
     rw [ht]; simpa [Value.cells] using toList_madeCells_one (.bool false) 3
    rw [this] at hh
    exact hh
  have B2 := btq b1 b2
  have lG0 := b1.size
  have N4 := (catB_parts HU.out).1
  have HALL : Hid (ss.all L2V.ok = true) := (catB_parts HU.out).2
  obtain ⟨G, hG⟩ : ∃ G, G = w1.heap.size := ⟨_, rfl⟩
  rw [<- hG] at O2 lG0 hrun'
  clear hrun o2 g2 b1 b2 hG
  go_wp2_with fail
  go_loopw [5, 6, 7, 14] (fun _ _ _ i wr => ∃ k : Nat, k <= N /\ i = .int .i64 k /\ Below w.heap.size w wr /\ OwnBB wr G (pinsA (ss.take k))) (fun _ _ _ i _ => N - (intOf i).toNat)
  case atStart => exact ⟨0, qG _, rfl, B2, O2⟩
  case round =>
   clear B2 O2 hrun'
   obtain ⟨k, hk, rfl, hb, o⟩ := hrel
   by_cases hlt : k < N
   ·have hlt' : (k : Int) < N := by omega
    have his : k < ss.length := by rw [HN.out]; exact hlt
    obtain ⟨ab, ao, rfl, hc, hLG⟩ := (HF.out.below hb) k his
    have HSB : Hid (∀ v, pinsA (ss.take (k + 1)) v = (pinsA (ss.take k) v || readsR (rowsL (ss[k]?.getD noL).x) v)) := fun v => pinsA_snoc ss k his v
    have hsok : (ss[k]?.getD noL).ok = true := by
     rw [qA his]
     exact List.all_eq_true.1 HALL.out _ (List.getElem_mem his)
    obtain ⟨s, hs⟩ : ∃ s, s = ss[k]?.getD noL := ⟨_, rfl⟩
    rw [<- hs] at hc hLG HSB hsok
    obtain ⟨sa, sn, sc, sx⟩ := s
    have hAct : actB sn sx = true := hsok
    obtain ⟨hxl, hLin, hsn⟩ := hLG
    have hc' : wr.cell? ⟨ab, ao + k, none⟩ = some (.slice sa sn sc) := hc
    have HXL : Hid (sx.length = sn) := hxl
    have HLIN : Hid (LinesG wr sa sx) := hLin
    have HAC : Hid (actB sn sx = true) := hAct
    clear hs hc hsok hxl hLin hAct
    go_wp2_with fail
    refine (icatreads_any sx HXL.out HLIN.out hsn).mono ?_
    rintro ee w3 ⟨b3, h⟩
    obtain ⟨G3, c3, rfl, lG3, o3⟩ : ∃ G3 c3, ee = .returned (.slice (some ⟨G3, 0, none⟩) 3 c3) /\ wr.heap.size <= G3 /\ OwnBB w3 G3 (readsR (rowsL sx)) := by
     rcases h with ⟨h, _⟩ | ⟨_, G3, c3, h1, h2, h3⟩
     ·rw [HAC.out] at h; cases h
     ·exact ⟨G3, c3, h1, h2, h3⟩
    have lo : G < wr.heap.size := Cel.lt o
    have hb3 := btq hb b3
    have oo : OwnBB w3 G (fun v => if v < 0 then pinsA (ss.take (k + 1)) v else pinsA (ss.take k) v) := (o.below b3).ext (fun v hv => by simp)
    obtain ⟨rd, hrd⟩ : ∃ rd, rd = readsR (rowsL sx) := ⟨_, rfl⟩
    have HSB' : Hid (∀ v, pinsA (ss.take (k + 1)) v = (pinsA (ss.take k) v || rd v)) := fun v => by rw [hrd]; exact HSB.out v
    rw [<- hrd] at o3
    have ne3 : G ≠ G3 := by omega
    clear h o b3 hb HXL HLIN HAC HSB hrd hc'
    go_wp2_with fail
    go_loopw [6, 7, 21] (fun _ _ i wr => ∃ u : Nat, u <= 3 /\ i = .int .i64 u /\ Below w.heap.size w wr /\ OwnBB wr G3 rd /\ OwnBB wr G (fun v => if v < u then pinsA (ss.take (k + 1)) v else pinsA (ss.take k) v)) (fun _ _ i _ => 3 - (intOf i).toNat)
    case atStart => exact ⟨0, by omega, rfl, hb3, o3, oo⟩
    case round =>
     clear hb3 o3 oo
     obtain ⟨u, hu, rfl, hb, o3, o⟩ := hrel
     by_cases hu3 : u < 3
     ·have hu' : (u : Int) < 3 := by omega
      have r0 := (o3.at hu3).1
      have g0 : wr.cell? ⟨G, u, none⟩ = some (.bool (pinsA (ss.take k) u)) := by
       have := (o.at hu3).1
       simpa using this
      have fz := (o.at hu3).2
      cases hold : pinsA (ss.take k) u
      ·rw [hold] at g0
       have O2 : Hid (OwnBB (wr.setCell ⟨G, u, none⟩ (.bool (rd u))) G (fun v => if v < u + 1 then pinsA (ss.take (k + 1)) v else pinsA (ss.take k) v)) := (o.set hu3 (rd u)).ext (fun v hv => by
        by_cases e : v = u
        ·subst e; simp only [if_true, Nat.lt_succ_self]; rw [HSB'.out, hold]; simp
        ·simp only [e, if_false]
         by_cases e2 : v < u
         ·rw [if_pos e2, if_pos (by omega)]
         ·rw [if_neg e2, if_neg (by omega)])
       have B2 := hb.setCell (p := ⟨G, u, none⟩) (by simpa using lG0) (.bool (rd u))
       have o32 : OwnBB (wr.setCell ⟨G, u, none⟩ (.bool (rd u))) G3 rd := Cel.setOther o3 (by omega) _ _
       clear o o3 hold
       go_wp2
       go_roundw
       case rel => exact ⟨u + 1, by omega, by go_num, B2, o32, O2.out⟩
       case measure => simp [intOf]; omega
      ·rw [hold] at g0
       have O2 : Hid (OwnBB (wr.setCell ⟨G, u, none⟩ (.bool true)) G (fun v => if v < u + 1 then pinsA (ss.take (k + 1)) v else pinsA (ss.take k) v)) := (o.set hu3 true).ext (fun v hv => by
        by_cases e : v = u
        ·subst e; simp only [if_true, Nat.lt_succ_self]; rw [HSB'.out, hold]; simp
        ·simp only [e, if_false]
         by_cases e2 : v < u
         ·rw [if_pos e2, if_pos (by omega)]
         ·rw [if_neg e2, if_neg (by omega)])
       have B2 := hb.setCell (p := ⟨G, u, none⟩) (by simpa using lG0) (.bool true)
       have o32 : OwnBB (wr.setCell ⟨G, u, none⟩ (.bool true)) G3 rd := Cel.setOther o3 (by omega) _ _
       clear o o3 hold
       go_wp2
       go_roundw
       case rel => exact ⟨u + 1, by omega, by go_num, B2, o32, O2.out⟩
       case measure => simp [intOf]; omega
     ·obtain rfl : u = 3 := by omega
      have O3 : Hid (OwnBB wr G (pinsA (ss.take (k + 1)))) := o.ext (fun v hv => by simp only [hv, if_true])
      clear o o3
      go_wp2
      go_roundw
      case rel => exact ⟨k + 1, by omega, by go_num, hb, O3.out⟩
      case measure => simp [intOf]; omega
   ·obtain rfl : k = N := by omega
    have O3 : OwnBB wr G (pinsA ss) := by
     have : ss.take k = ss := qC (by rw [HN.out]; exact qF _)
     rw [this] at o; exact o
    go_wp2
    go_ret
    exact ⟨hb, .inr ⟨HU.out, G, 3, rfl, lG0, O3⟩⟩
attribute [local go_sem] Oper.semAt_some
section
variable {F : Fence} {n : Nat} {P : Program} {ops : Array Oper} {Q : Exit -> Act -> World -> Prop} {md : Region.Mode} {S : World -> Prop}
theorem wpAnyS_two {i j : Nat} {oi oj : Oper} {fuel : Nat} {listed : Array Bool} {a : Act} (hr : Region.ready md ops listed = [i, j]) (hi : ops[i]? = some oi) (hj : ops[j]? = some oj)
  (h1 : ∀ K' : Act -> World -> Prop, Shut (∀ a w, S w -> wpAnyS F n P md ops Q S fuel (listed.setIfInBounds i true) a w -> K' a w) -> if Region.wanted oi (yielded ops a.tmps) = true then Oper.wpIn F n P oi a w K' Q else (∀ f, oi.about P w a.eval = some f -> F.fn f) /\ K' (a.put oi.dst undef) w)
  (h2 : ∀ K' : Act -> World -> Prop, Shut (∀ a w, S w -> wpAnyS F n P md ops Q S fuel (listed.setIfInBounds j true) a w -> K' a w) -> if Region.wanted oj (yielded ops a.tmps) = true then Oper.wpIn F n P oj a w K' Q else (∀ f, oj.about P w a.eval = some f -> F.fn f) /\ K' (a.put oj.dst undef) w) : wpAnyS F n P md ops Q S (fuel + 1) listed a w := by
 refine ⟨fun h0 => (by rw [hr] at h0; cases h0), fun z hz => ?_⟩
 rw [hr] at hz
 rcases List.mem_cons.1 hz with rfl | hz
 ·exact wpOpIn_step hi (fun K' hK => h1 K' (fun a w hS hW => hK a w ⟨hS, hW⟩))
 ·rcases List.mem_cons.1 hz with rfl | hz
  ·exact wpOpIn_step hj (fun K' hK => h2 K' (fun a w hS hW => hK a w ⟨hS, hW⟩))
  ·cases hz
end
def Mk (Ds : List Nat) : List Deferred := Ds.map fun D => { target := .collected D, args := #[] }
theorem leaves_marks {F : Fence} {P : Program} {fn : Func} {tmps : Array Value} {R : Ending -> World -> Prop} (hres : ∀ W', (results fn tmps).run P W' = .ok v W') : ∀ (Ds : List Nat) (W : World), (∀ D ∈ Ds, W.heap[D]? = some (.deferred (some []))) -> Ds.Nodup ->
  (∀ W', Touch (fun k => k ∈ Ds) W W' -> R (.returned v) W') -> LeavesInM F n P fn tmps R (Mk Ds) .returning W
 | [], W, _, _, hR => ⟨v, hres W, hR W (Touch.refl _ _)⟩
 | D :: Ds, W, hb, hn, hR => by
  refine ⟨by simp, .inl ⟨D, _, rfl, run_takeDeferred (hb D (by simp)), ?_⟩⟩
  obtain ⟨h1, h2⟩ := List.nodup_cons.1 hn
  refine leaves_marks hres Ds _ (fun D' hD' => ?_) h2 (fun W' t => hR W' ?_)
  ·rw [World.putObj_heap_other (fun e => h1 (by rw [<- e]; exact hD'))]
   exact hb D' (by simp [hD'])
  ·refine Touch.trans (b := W.putObj D _) ⟨rfl, rfl, rfl, by simp [World.putObj], fun k hk hk2 => World.putObj_heap_other (fun e => hk2 (by simp [e]))⟩ (t.mono (fun k hk => by simp [hk]))
structure MkOk (n0 : Nat) (Ds : List Nat) (W : World) : Prop where
 b : ∀ D ∈ Ds, W.heap[D]? = some (.deferred (some []))
 n : Ds.Nodup
 l : ∀ D ∈ Ds, n0 <= D
theorem MkOk.nil (n0 : Nat) (W : World) : MkOk n0 [] W := ⟨fun _ h => by simp at h, List.nodup_nil, fun _ h => by simp at h⟩
theorem MkOk.below (h : MkOk n0 Ds W) (b : Below W.heap.size W W') : MkOk n0 Ds W' := ⟨fun D hD => (b.block D (lt_of_block (h.b D hD))).trans (h.b D hD), h.n, h.l⟩
theorem MkOk.touch (h : MkOk n0 Ds W) (t : Touch S W W') (hS : ∀ k, S k -> ∀ o, W.heap[k]? ≠ some (.deferred o)) : MkOk n0 Ds W' := ⟨fun D hD => (t.block D (lt_of_block (h.b D hD)) (fun hs => hS D hs _ (h.b D hD))).trans (h.b D hD), h.n, h.l⟩
theorem MkOk.loop {l : Nat} {r : Loop} {o : Obj} (h : MkOk n0 Ds W) (hl : W.heap[l]? = some (.loop r)) : MkOk n0 Ds (W.putObj l o) := ⟨fun D hD => by
  have hne : D ≠ l := fun e => by
   have := h.b D hD
   rw [e, hl] at this
   cases this
  rw [World.putObj_heap_other hne]; exact h.b D hD, h.n, h.l⟩
theorem OwnM.loop {l : Nat} {D : DataW Unit} {r : Loop} {o : Obj} (h : OwnM X B n D) (hl : X.heap[l]? = some (.loop r)) : OwnM (X.putObj l o) B n D := by
 obtain ⟨es, clock, hb, q⟩ := h
 have hne : B ≠ l := fun e => by
  rw [e, hl] at hb
  cases hb
 exact ⟨es, clock, by rw [World.putObj_heap_other hne]; exact hb, q⟩
theorem OwnM.obj {D : DataW Unit} (h : OwnM X B n D) : ∃ es clock, X.heap[B]? = some (.map es clock) := by
 obtain ⟨es, clock, hb, _⟩ := h
 exact ⟨es, clock, hb⟩
theorem OwnM.kpR {Y : World} {D : DataW Unit} (h : OwnM X B n D) (t : Touch (fun k => k = B) X Y) : KpR X Y := t.mono (fun k e => by
 subst e
 obtain ⟨es, clock, hb⟩ := h.obj
 intro cs ty fr he
 rw [hb] at he
 cases he)
theorem addP_len (ps : List (List Int)) {p : List Int} : ps.length <= (addP ps p).length := by
 unfold addP
 split
 ·exact qF _
 ·simp
theorem guardsP_len {fs : List Frm} : ∀ ps, ps.length <= (guardsP ps fs).length := by
 induction fs with
 | nil => intro ps; exact qF _
 | cons f fs ih => intro ps; exact Nat.le_trans (addP_len ps) (ih _)
theorem rowsP_len : ∀ ps, ps.length <= (rowsP ps rs).length := by
 induction rs with
 | nil => intro ps; exact qF _
 | cons r rs ih => intro ps; exact Nat.le_trans (guardsP_len ps) (ih _)
theorem actsP_len (ss : List L2V) : ∀ ps, ps.length <= (actsP ps ss).length := by
 induction ss with
 | nil => intro ps; exact qF _
 | cons s ss ih => intro ps; exact Nat.le_trans (rowsP_len ps) (ih _)
theorem catP_pos (ss : List L2V) : 3 <= (catP ss).length := actsP_len ss pots3
structure JO (w : World) (v : Value) (ts : List IV) (bs : Nat -> Nat) (W : World) : Prop where
 b : Below w.heap.size w W
 o : W.ownsRow w.heap.size 23 1 v ts.length (ts.map IV.v)
 k : ∀ j, j < ts.length -> (ts[j]?.getD noI).n = 3 /\ OwnX W (ts[j]?.getD noI).a (bs j) 3 (ts[j]?.getD noI).x /\ w.heap.size <= bs j /\ some (bs j) ≠ v.ownBlock
 d : ∀ i j, i < j -> j < ts.length -> bs i < bs j
theorem JO.nil (w W : World) (hb : Below w.heap.size w W) (bs : Nat -> Nat) : JO w (.slice none 0 0) [] bs W := ⟨hb, World.ownsRow_nil W _ _ _, fun j hj => by simp at hj, fun i j _ hj => by simp at hj⟩
theorem JO.below (j : JO w v ts bs W) (h : Below W.heap.size W W') : JO w v ts bs W' :=
 ⟨j.b.trans (h.mono j.b.size), by
  refine ⟨j.o.1, ?_⟩
  rcases j.o.2 with h2 | ⟨g, cap, cur, hv, hg, hh, r⟩
  ·exact Or.inl h2
  ·exact Or.inr ⟨g, cap, cur, hv, hg, by rw [h.block g (lt_of_block hh)]; exact hh, r⟩, fun i hi => by obtain ⟨a, b, c, d⟩ := j.k i hi; exact ⟨a, b.below h, c, d⟩, j.d⟩
theorem JO.blk (j : JO w v ts bs W) {g : Nat} (h : v.ownBlock = some g) : w.heap.size <= g /\ ∃ cur, W.heap[g]? = some (.cells cur 23 (0, 0)) := by
 rcases j.o.2 with ⟨h', _⟩ | ⟨g', cap, cur, hv, hg, hh, r⟩
 ·rw [h'] at h; simp [Value.ownBlock] at h
 ·rw [hv] at h
  simp only [Value.ownBlock, Option.some.injEq] at h
  subst h
  exact ⟨hg, cur, hh⟩
theorem JO.past (j : JO w v ts bs W) (t : Touch S W W') (hS : ∀ k, S k -> w.heap.size <= k /\ ∀ cs ty fr, W.heap[k]? ≠ some (.cells cs ty fr)) : JO w v ts bs W' := by
 refine ⟨j.b.trans (t.below j.b.size (fun k hk => (hS k hk).1)), ?_, fun i hi => ?_, j.d⟩
 ·refine ⟨j.o.1, ?_⟩
  rcases j.o.2 with h2 | ⟨g, cap, cur, hv, hg, hh, r⟩
  ·exact Or.inl h2
  ·exact Or.inr ⟨g, cap, cur, hv, hg, by rw [t.block g (lt_of_block hh) (fun h => (hS g h).2 _ _ _ hh)]; exact hh, r⟩
 ·obtain ⟨a, b, c, d⟩ := j.k i hi
  refine ⟨a, b.touch t (fun _ h => ?_), c, d⟩
  rcases b.2 with h0 | ⟨_, cur, hc, _⟩
  ·omega
  ·exact (hS _ h).2 _ _ _ hc
theorem JO.app {v' : Value} {s : IV} {A : Nat} {o : Obj} (j : JO w v ts bs W) (hk : ts.length = k) (hs : s.n = 3) (hA : OwnX W s.a A 3 s.x) (hlo : w.heap.size <= A) (hnew : ∀ i, i < k -> bs i < A) (hne : some A ≠ v.ownBlock)
  (hown : W'.ownsRow w.heap.size 23 1 v' (k + 1) (ts.map IV.v ++ [s.v])) (hg : (W.alloc o).grownBy W' v.ownBlock) (hat : v'.ownBlock = v.ownBlock \/ v'.ownBlock = some (W.alloc o).heap.size) : JO w v' (ts ++ [s]) (fun i => if i < k then bs i else A) W' := by
 subst hk
 have B1 : Below W.heap.size W (W.alloc o) := bal
 have ja := j.below B1
 have hlA := hA.lt (by omega)
 have key : ∀ (a : Option Addr) (X : Nat) (x : List Int), OwnX W a X 3 x -> some X ≠ v.ownBlock -> OwnX W' a X 3 x /\ some X ≠ v'.ownBlock := fun a X x h1 h2 => by
  have hl := h1.lt (by omega)
  refine ⟨?_, fun e => ?_⟩
  ·have h3 := h1.below B1
   rcases h3.2 with h0 | ⟨e1, cur, hc, hv⟩
   ·omega
   ·exact ⟨h3.1, .inr ⟨e1, cur, hc.grew hg (fun e => h2 e.symm), hv⟩⟩
  ·rcases hat with h | h
   ·exact h2 (e.trans h)
   ·rw [h, World.size_alloc] at e
    simp only [Option.some.injEq] at e
    omega
 refine ⟨ja.b.grown hg ja.b.size (fun z hz => (j.blk hz).1), by rw [qB, List.map_append]; exact hown, fun i hi => ?_, fun i i' h hi' => ?_⟩
 ·by_cases h : i < ts.length
  ·rw [List.getElem?_append_left h]
   obtain ⟨a, b, c, d⟩ := j.k i h
   simp only [h, if_true]
   obtain ⟨q1, q2⟩ := key _ _ _ b d
   exact ⟨a, q1, c, q2⟩
  ·rw [qB, qH] at hi
   obtain rfl : i = ts.length := by omega
   rw [List.getElem?_append_right (qF _), Nat.sub_self]
   simp only [Nat.lt_irrefl, if_false]
   obtain ⟨q1, q2⟩ := key _ _ _ hA hne
   exact ⟨hs, q1, hlo, q2⟩
 ·rw [qB, qH] at hi'
  have h1 : i < ts.length := by omega
  simp only [h1, if_true]
  by_cases h2 : i' < ts.length
  ·simp only [h2, if_true]; exact j.d i i' h h2
  ·simp only [h2, if_false]; exact hnew i h1
theorem MkOk.grown {o : Obj} (h : MkOk n0 Ds W) (j : JO w v ts bs W) (hg : (W.alloc o).grownBy W' v.ownBlock) : MkOk n0 Ds W' := by
 have h1 := h.below ((Below.refl _ _).alloc (qF _) o)
 refine ⟨fun D hD => ?_, h.n, h.l⟩
 rw [hg.block D (lt_of_block (h1.b D hD)) (fun e => ?_)]
 ·exact h1.b D hD
 ·obtain ⟨_, cur, hh⟩ := j.blk e.symm
  rw [h.b D hD] at hh
  cases hh
theorem Cel.grownKT {o : Obj} {L : Nat} {cur : List Value} (h : Cel W L cur KT) (j : JO w v ts bs W) (hg : (W.alloc o).grownBy W' v.ownBlock) : Cel W' L cur KT := by
 refine (h.alloc o).grew hg (fun e => ?_)
 obtain ⟨_, c2, hh⟩ := j.blk e
 unfold Cel at h
 rw [h] at hh
 simp only [Option.some.injEq, Obj.cells.injEq] at hh
 exact absurd hh.2.1 (by decide)
theorem pots3_guards : guardsP [] way0.pots = pots3 := by decide +kernel
theorem pot_fit : ∀ k, k < 3 -> fitX 10000000 (way0.pots[k]?.getD ([], [], 0)) := fun k hk => (WayOk.start.pf k hk).mono (by have := wb_six (n := 0) (by omega); simp [wb] at *)
theorem icatforms_in (ad : Option Addr) (N cap : Nat) (ss : List L2V) (w : World) (n : Nat) (hN : ss.length = N) (hF : LSG w ad ss) (hN1 : N <= 1048576) :
  CallsIn Fence.wide n Tryz.prog 235 #[.slice ad N cap] w fun e w' => Below w.heap.size w w' /\ ((catB N ss = false /\ e = .returned (.slice none 0 0)) \/ (catB N ss = true /\ ∃ G cG ts bs, e = .returned (.slice (some ⟨G, 0, none⟩) (catP ss).length cG) /\ ts.map IV.x = catP ss /\ JO w (.slice (some ⟨G, 0, none⟩) (catP ss).length cG) ts bs w')) := by
 have hdd : ∀ k : Nat, (Fence.wide.depth.isSome = true -> 1 <= k) := fun k h => by simp [Fence.wide] at h
 have HN : Hid (ss.length = N) := hN
 have HF : Hid (LSG w ad ss) := hF
 have hmm := @run_makeMap Tryz.prog
 refine callsIn_of_wp_marks Tryz.func235 rfl trivial ?_ rfl
 simp only [Tryz.ntmps235, List.size_toArray, qD, qE, Nat.reduceAdd, Nat.reduceSub, Array.replicate_succ, Array.replicate_zero, List.push_toArray, List.append_toArray, List.nil_append, List.cons_append]
 gi_wp2_with fail
 refine ⟨trivial, hdd _, (callsIn_wide.2 (icat_any ad N cap ss hN hF hN1)).mono ?_⟩
 rintro e w1 ⟨rfl, b1⟩
 obtain ⟨u, hu⟩ : ∃ u, catB N ss = u := ⟨_, rfl⟩
 rw [hu]
 cases u with
 | false =>
  gi_wp2
  exact ⟨_, results_tmp rfl _ _ _, b1, Or.inl ⟨hu, rfl⟩⟩
 | true =>
  have N4 := (catB_parts hu).1
  have HALL : Hid (ss.all L2V.ok = true) := (catB_parts hu).2
  have HU : Hid (catB N ss = true) := hu
  clear hu hN hF
  gi_wp2_with fail
  have m0 : OwnM ((w1.alloc (.map #[] 0)).alloc (.cells #[.map (some w1.heap.size)] 336)) w1.heap.size 0 (.map []) := (World.ownsMap_made w1 Tryz.prog KT (plainElem Tryz.prog ET)).alloc _
  have p0 : Cel ((w1.alloc (.map #[] 0)).alloc (.cells #[.map (some w1.heap.size)] 336)) (w1.heap.size + 1) [.map (some w1.heap.size)] 336 := by
   have := Cel.new (w1.alloc (.map #[] 0)) [.map (some w1.heap.size)] 336
   rw [World.size_alloc] at this; exact this
  have b2 : Below w1.heap.size w1 ((w1.alloc (.map #[] 0)).alloc (.cells #[.map (some w1.heap.size)] 336)) := (bal).alloc (by simp) _
  obtain ⟨Z, hZ⟩ : ∃ Z, Z = (w1.alloc (.map #[] 0)).alloc (.cells #[.map (some w1.heap.size)] 336) := ⟨_, rfl⟩
  rw [<- hZ] at m0 p0 b2 ⊢
  have lB0 := b1.size
  obtain ⟨B, hB⟩ : ∃ B, B = w1.heap.size := ⟨_, rfl⟩
  rw [<- hB] at m0 p0 ⊢
  have hBw : w.heap.size <= B := by omega
  have B2 := btq b1 b2
  clear hZ hmm hB b2 b1
  have KP : Hid (∀ V, Touch (fun k => k = B) Z V -> V.cell? ⟨B + 1, 0, none⟩ = some (.map (some B))) := fun V t => (p0.touch t (fun h => by have : B + 1 = B := h; omega)).cell 0
  have e0 : Below Z.heap.size Z Z.drew := (Below.refl _ _).drew
  have hSS := KP.out _ (Touch.of e0)
  refine wpIn_region_S (fun w' => w'.cell? ⟨B + 1, 0, none⟩ = some (.map (some B))) (by kernel_rfl) ?_
  refine wpAnyS_two (i := 0) (j := 1) (by kernel_rfl) rfl rfl (fun K hK => ?_) (fun K hK => ?_)
  ·go_simp
   refine hK.out _ _ hSS ?_
   refine wpAnyS_one (i := 1) (by kernel_rfl) rfl (fun K hK => ?_)
   go_simp
   refine ⟨trivial, hdd _, (callsIn_wide.2 (ipots_any)).mono ?_⟩
   rintro e w2 ⟨v, xs, rfl, jv⟩
   obtain ⟨pa, pcap, rfl, FP⟩ := jv.slice rfl
   have b3 : Below Z.heap.size Z w2 := btq e0 jv.b
   have m2 := m0.below b3
   (try dsimp only)
   refine hK.out _ _ (KP.out _ (Touch.of b3)) ?_
   clear hK K jv
   refine wpAnyS_one (i := 2) (by kernel_rfl) rfl (fun K hK => ?_)
   go_simp
   refine ⟨trivial, hdd _, (callsIn_wide.2 (iput_any B 0 (.map []) [] pa 3 pcap way0.pots _ m2 MapIs.empty (by omega) rfl FP pot_fit (by omega))).mono ?_⟩
   rintro e w3 ⟨⟨v3, rfl⟩, t3, D3, m3, d3⟩
   rw [pots3_guards] at d3
   have p3 : Cel w3 (B + 1) [.map (some B)] 336 := (p0.below b3).touch t3 (fun h => by have : B + 1 = B := h; omega)
   have B3 : Below w.heap.size w w3 := (btq B2 b3).trans (t3.below (B := w.heap.size) (Nat.le_trans B2.size b3.size) (fun k hk => by have : k = B := hk; omega))
   have s3 := t3.size
   (try dsimp only)
   refine hK.out _ _ (p3.cell 0) ?_
   refine wpAnyS_done (by kernel_rfl) ?_ _
   have lp3 := p3.lt
   clear KP m0 p0 m2 FP t3 b3 e0 B2 lB0
   gi_wp2_with fail
   refine wpIn_loop (fun a' w' => ∃ (u5 u6 u20 u21 u22 u23 u24 u25 u26 u27 u28 u29 u30 : Value) (k : Nat) (Ds : List Nat) (D : DataW Unit) (m : Nat), k <= N /\ OwnM w' B m D /\ m <= 3 + 128000 * k /\ MapIs D (actsP pots3 (ss.take k)) /\ Cel w' (B + 1) [.map (some B)] 336 /\ Below w.heap.size w w' /\ MkOk w.heap.size Ds w' /\ a' = { tmps := #[.slice ad N cap, undef, .slice none 0 0, .pointer (some ⟨B + 1, 0, none⟩), undef, u5, u6, undef, undef, undef, .slice ad N cap, .bool true, .bool false, .map (some B), .map (some B), .slice pa 3 pcap, v3, .slice ad N cap, .int .i64 N, .int .i64 (k : Int), u20, u21, u22, u23, u24, u25, u26, u27, u28, u29, u30, undef, undef, undef, undef, undef, undef, undef, undef, undef, undef, undef, undef, undef, undef], defers := Mk Ds }) (fun a' _ => N - (intOf (a'.tmps.getD 19 undef)).toNat) ⟨undef, undef, undef, undef, undef, undef, undef, undef, undef, undef, undef, undef, undef, 0, [], D3, 3, by omega, m3, by omega, d3, p3, B3, MkOk.nil _ _, rfl⟩ ?_
   rintro a0 wr ⟨u5, u6, u20, u21, u22, u23, u24, u25, u26, u27, u28, u29, u30, k, Ds, D, m, hk, hm, hmb, hD, hp, hb, hmk, rfl⟩
   clear m3 d3 p3 B3 lp3 s3
   have HD : Hid (MapIs D (actsP pots3 (ss.take k))) := hD
   have HMK : Hid (MkOk w.heap.size Ds wr) := hmk
   have lp := hp.lt
   clear hD hmk
   by_cases hlt : k < N
   ·have hlt' : (k : Int) < N := by omega
    have his : k < ss.length := by rw [HN.out]; exact hlt
    obtain ⟨ab, ao, rfl, hc, hLG⟩ := (HF.out.below hb) k his
    have HSA : Hid (∀ ps, ps = actsP pots3 (ss.take k) -> rowsP ps (rowsL (ss[k]?.getD noL).x) = actsP pots3 (ss.take (k + 1))) := fun ps h => by rw [h, actsP_snoc his]
    have hsok : (ss[k]?.getD noL).ok = true := by
     rw [qA his]
     exact List.all_eq_true.1 HALL.out _ (List.getElem_mem his)
    obtain ⟨s, hs⟩ : ∃ s, s = ss[k]?.getD noL := ⟨_, rfl⟩
    rw [<- hs] at hc hLG HSA hsok
    obtain ⟨sa, sn, sc, sx⟩ := s
    have hAct : actB sn sx = true := hsok
    obtain ⟨hxl, hLin, hsn⟩ := hLG
    have hc' : wr.cell? ⟨ab, ao + k, none⟩ = some (.slice sa sn sc) := hc
    have HLIN : Hid (LinesG wr sa sx) := hLin
    clear hs hc hsok hLin
    obtain ⟨PS, hPS⟩ : ∃ PS, PS = actsP pots3 (ss.take k) := ⟨_, rfl⟩
    have HSA2 : Hid (rowsP PS (rowsL sx) = actsP pots3 (ss.take (k + 1))) := HSA.out PS hPS
    have HD' : Hid (MapIs D (rowsP PS [])) := by show MapIs _ _; rw [hPS]; exact HD.out
    clear HSA HD hPS
    gi_wp2_with fail
    refine ⟨trivial, hdd _, (callsIn_wide.2 (ithrough_any sa sn sc wr)).mono ?_⟩
    rintro e w4 ⟨Bc, rfl, b4, cB⟩
    have m4 := OwnM.below hm b4
    have p4 := hp.below b4
    have mk4 := HMK.out.below b4
    have s4 := b4.size
    have B4 : Below w.heap.size w w4 := btq hb b4
    have F4 := HLIN.out.below b4
    have sB := B4.size
    clear hm hp hb HMK hc'
    gi_wp2_with fail
    refine wpIn_rows (α := Value × RowM) (gf := 273) (lb := #[.pointer (some ⟨Bc, 0, none⟩)]) rfl (enters_of Tryz.func273 (by kernel_rfl) rfl) (encs := fun x => #[x.1]) (fun _ => rfl)
     (fun pre x X => pre.length < 128 /\ RowFit x.2 /\ RowX X w4.heap.size x.1 x.2) KpR (fun xs => xs.map Prod.snd = rowsL sx)
     (fun pre X => ∃ (D : DataW Unit) (m : Nat), OwnM X B m D /\ m <= 3 + 128000 * k + 1000 * pre.length /\ MapIs D (rowsP PS (pre.map Prod.snd)) /\ Cel X (B + 1) [.map (some B)] 336 /\ Below w.heap.size w X /\ MkOk w.heap.size Ds X)
     (fun pre X Y h b => by
      obtain ⟨D, m, h1, h2, h3, h4, h5, h6⟩ := h
      exact ⟨D, m, OwnM.below h1 b, h2, h3, h4.below b, btq h5 b, h6.below b⟩)
     (fun pre X l r r' h hl lt => by
      obtain ⟨D, m, h1, h2, h3, h4, h5, h6⟩ := h
      exact ⟨D, m, OwnM.loop h1 hl, h2, h3, h4.loop hl, below_loop h5 (by omega), h6.loop hl⟩) KpR.loop (fun X Y Z => KpR.trans) ⟨D, m, m4, by simp; omega, HD'.out, p4, B4, mk4⟩ ?seq ?round ?done
    case seq =>
     intro l J W hJ hb2 hJ0 hY
     have ee0 : (#[.func (.yield l) #[] #[]] ++ #[.pointer (some ⟨Bc, 0, none⟩)] : Array Value) = #[.func (.yield l) #[] #[], .pointer (some ⟨Bc, 0, none⟩)] := rfl
     rw [ee0]
     refine (through_any l w4.heap.size (fun rs X => ∃ xs : List (Value × RowM), xs.map Prod.snd = rs /\ J xs X) (fun rs X Y h b => ?_) (fun mm rs v r X h fit rx hlen => ?_) Bc sa sn sc sx W (n - 1) hxl (F4.below hb2) hsn hAct ((cB.below hb2).cell 0) hb2.size ⟨[], rfl, hJ0⟩).mono ?_
     ·obtain ⟨xs, e, j⟩ := h
      exact ⟨xs, e, hJ _ _ _ j b⟩
     ·obtain ⟨xs, e, j⟩ := h
      obtain ⟨fn, tmps, assign, body, hy, hR⟩ := hY mm xs (v, r) X j ⟨by rw [<- e, qI] at hlen; exact hlen, fit, rx⟩
      refine ⟨fn, tmps, assign, body, hy, hR.mono ?_⟩
      rintro e' Y ⟨a, b, c⟩
      exact ⟨a, ⟨xs ++ [(v, r)], by simp [e], b⟩, c⟩
     ·rintro e Y ⟨h1, ⟨xs, e1, j⟩, _⟩
      exact ⟨h1, xs, e1, j⟩
    case round =>
     rintro mm l pre ⟨v, rm⟩ X r ⟨D1, m1, hO, hm1, hD1, hC, hB, hMk⟩ ⟨hlen, fit, rx⟩ hl hlt2
     dsimp only at fit rx
     obtain ⟨ga, gc, aa, ac, ta, tc, rfl, f0, f1, f2⟩ := rx
     dsimp only
     gi_wp2_with fail
     have bx : Below X.heap.size X (X.alloc (.cells #[.slice ga rm.guards.length gc, .slice aa rm.adds.length ac, .slice ta rm.tells.length tc, .bool rm.stop] 159)) := bal
     have cx := Cel.new X [.slice ga rm.guards.length gc, .slice aa rm.adds.length ac, .slice ta rm.tells.length tc, .bool rm.stop] 159
     have hl1 := (bx.block l (lt_of_block hl)).trans hl
     refine ⟨keeps_below bx, KpR.of bx, ?_⟩
     have O1 : OwnM _ _ _ _ := OwnM.loop (o := .loop { r with state := .busy }) (OwnM.below hO bx) hl1
     have C1 := Cel.loop (r' := { r with state := .busy }) (hC.below bx) hl1
     have X1 := Cel.loop (r' := { r with state := .busy }) cx hl1
     have MK1 := MkOk.loop (o := .loop { r with state := .busy }) (hMk.below bx) hl1
     have k1 : KpR X _ := (KpR.of bx).trans (KpR.loop _ l r { r with state := .busy } hl1)
     have B1 := below_loop (r' := { r with state := .busy }) (btq hB bx) (l := l) (by omega)
     obtain ⟨Y, hY⟩ : ∃ Y, Y = (X.alloc (.cells #[.slice ga rm.guards.length gc, .slice aa rm.adds.length ac, .slice ta rm.tells.length tc, .bool rm.stop] 159)).putObj l (.loop { r with state := .busy }) := ⟨_, rfl⟩
     rw [<- hY] at O1 C1 X1 k1 B1 MK1 ⊢
     clear hY
     have FG := f0.at.keepR k1
     have hc1 := C1.cell 0
     have hx1 := X1.cell 0
     have lB1 : B < w4.heap.size := m4.lt
     have lgg := fit.lg
     clear cx bx hl1 hO hC hB f0 f1 f2
     gi_wp2_with fail
     refine ⟨trivial, hdd _, CallsIn.mono (CallsIn.inRound l (callsIn_wide.2 (iput_any B m1 D1 _ ga rm.guards.length gc rm.guards Y O1 hD1 (by omega) rfl FG fit.g (by omega)))) ?_⟩
     rintro e Y1 ⟨⟨v1, rfl⟩, t1, D2, m2, d2⟩
     have C2 := cel_past C1 t1 (by omega)
     have MK2 := MK1.touch t1 (fun q hq o ho => by
      have : q = B := hq
      subst this
      obtain ⟨es, clock, hb⟩ := O1.obj
      rw [hb] at ho
      cases ho)
     clear hc1 hx1
     gi_wp2_with fail
     refine ⟨keeps_touch t1 (by omega), OwnM.kpR O1 t1, D2, _, m2, ?_, ?_, C2, below_touch B1 t1 (by omega), MK2⟩
     ·rw [qB, qH]; omega
     ·rw [List.map_append]
      have e2 : rowsP PS (pre.map Prod.snd ++ [rm]) = guardsP (rowsP PS (pre.map Prod.snd)) rm.guards := by simp [rowsP, List.foldl_append]
      exact e2 ▸ d2
    case done =>
     rintro DD xs W hDD hS ⟨D1, m1, hO, hm1, hD1, hC, hB, hMk⟩ hK
     rw [hS] at hD1
     have hxl2 : xs.length <= 128 := by
      have := congrArg List.length hS
      rw [qI] at this
      rw [this]; exact goW_128 (by omega)
     have MK3 : MkOk w.heap.size (DD :: Ds) W := by
      refine ⟨fun D' hD' => ?_, List.nodup_cons.2 ⟨fun hin => ?_, hMk.n⟩, fun D' hD' => ?_⟩
      ·rcases List.mem_cons.1 hD' with rfl | h
       ·exact hK
       ·exact hMk.b D' h
      ·have := lt_of_block (mk4.b DD hin)
       omega
      ·rcases List.mem_cons.1 hD' with rfl | h
       ·omega
       ·exact hMk.l D' h
     have HD1 : Hid (MapIs D1 (actsP pots3 (ss.take (k + 1)))) := by show MapIs _ _; rw [<- HSA2.out]; exact hD1
     clear hD1 hMk hK
     gi_wp2
     refine ⟨⟨_, _, _, _, _, _, _, _, _, _, _, _, _, k + 1, DD :: Ds, D1, m1, by omega, hO, by omega, HD1.out, hC, hB, MK3, rfl⟩, ?_⟩
     simp [intOf]; omega
   ·obtain rfl : k = N := by omega
    have hall : ss.take k = ss := qC (by rw [HN.out]; exact qF _)
    obtain ⟨ps, hps⟩ : ∃ ps, ps = catP ss := ⟨_, rfl⟩
    have HPS : Hid (ps = catP ss) := hps
    have HDP : Hid (MapIs D ps) := by show MapIs _ _; rw [hps, catP, <- hall]; rw [hall]; have := HD.out; rw [hall] at this; exact this
    have hlen : ps.length <= 600000 := by
     have h1 := HDP.out.sz
     have h2 := hm.size_le
     omega
    clear HD hall hps
    have hpc := hp.cell 0
    gi_wp2_with fail
    refine ⟨trivial, hdd _, (callsIn_wide.2 (iorder_any B m D ps wr hm HDP.out (by omega))).mono ?_⟩
    rintro e w5 ⟨L, cur, rfl, b5, lL, c5, hKA⟩
    have HKA : Hid (∀ j, j < ps.length -> KeyAt cur j (ps[j]?.getD [])) := hKA
    have HWF : Hid (∀ j, j < ps.length -> (ps[j]?.getD []).length = 3) := fun j hj => (HDP.out.wf _ (by rw [qA hj]; exact List.getElem_mem hj)).1
    have mk5 := HMK.out.below b5
    have B5 := btq hb b5
    have lL0 : w.heap.size <= L := Nat.le_trans hb.size lL
    obtain ⟨M, hM⟩ : ∃ M, M = ps.length := ⟨_, rfl⟩
    have HM : Hid (M = ps.length) := hM
    rw [<- hM] at hlen ⊢
    have j5 : JO w (.slice none 0 0) [] (fun _ => 0) w5 := JO.nil w w5 B5 _
    clear hKA hM hm hp hb HMK b5 HDP hpc
    gi_wp2_with fail
    gi_loopw [7, 9, 34] (fun v _ i wr => ∃ (j : Nat) (ts : List IV) (bs : Nat -> Nat), j <= M /\ i = .int .i64 j /\ ts.length = j /\ JO w v ts bs wr /\ ts.map IV.x = ps.take j /\ Cel wr L cur KT /\ MkOk w.heap.size Ds wr) (fun _ _ i _ => M - (intOf i).toNat)
    case atStart => exact ⟨0, [], fun _ => 0, qG _, rfl, rfl, j5, rfl, c5, mk5⟩
    case round =>
     clear j5 c5 mk5 B5 lL
     obtain ⟨j, ts, bs, hj, rfl, htl, jo, hx, hc, hmk⟩ := hrel
     have HTL : Hid (ts.length = j) := htl
     have HX : Hid (ts.map IV.x = ps.take j) := hx
     have HMK : Hid (MkOk w.heap.size Ds wr) := hmk
     clear htl hx hmk
     by_cases hlt2 : j < M
     ·have hlt2' : (j : Int) < M := by omega
      have hjp : j < ps.length := by have := HM.out; omega
      obtain ⟨k0, k1, k2⟩ := HKA.out j hjp
      have c0 := (hc.cell _).trans k0
      have c1 := (hc.cell _).trans k1
      have c2 := (hc.cell _).trans k2
      have h3 := HWF.out j hjp
      have HXS : Hid (ps.take (j + 1) = ps.take j ++ [ps[j]?.getD []]) := by
       show _ = _
       rw [List.take_succ_eq_append_getElem hjp, qA hjp]; rfl
      obtain ⟨p, hp⟩ : ∃ p, p = ps[j]?.getD [] := ⟨_, rfl⟩
      rw [<- hp] at c0 c1 c2 h3 HXS
      have HP3 : Hid (p = [p[0]?.getD 0, p[1]?.getD 0, p[2]?.getD 0]) := three_eq h3
      have Hlen3 : Hid (p.length = 3) := h3
      generalize hx0 : p[0]?.getD 0 = x0 at *
      generalize hx1 : p[1]?.getD 0 = x1 at *
      generalize hx2 : p[2]?.getD 0 = x2 at *
      have bx : Below wr.heap.size wr (wr.alloc (.cells #[.int .i64 x0, .int .i64 x1, .int .i64 x2] KT)) := bal
      have cx := Cel.new wr [.int .i64 x0, .int .i64 x1, .int .i64 x2] KT
      have ix : Ints (wr.alloc (.cells #[.int .i64 x0, .int .i64 x1, .int .i64 x2] KT)) (some ⟨wr.heap.size, 0, none⟩) 3 p := by
       rw [HP3.out]
       refine ⟨rfl, fun i hi => ⟨wr.heap.size, 0, rfl, ?_⟩⟩
       rw [Nat.zero_add, cx.cell i]
       match i, hi with
       | 0, _ => rfl
       | 1, _ => rfl
       | 2, _ => rfl
      clear hx0 hx1 hx2 hp h3 k0 k1 k2
      gi_wp2_with fail
      refine ⟨trivial, hdd _, (callsIn_wide.2 (clone_any 3 3 p _ ix (by omega) (by omega))).mono ?_⟩
      rintro e w6 ⟨v6, rfl, jA⟩
      obtain ⟨aA, cA, A, rfl, oA, gA⟩ := jA.ownx Hlen3.out
      have lA := gA (by omega)
      rw [World.size_alloc] at lA
      have b6 : Below wr.heap.size wr w6 := bx.trans (jA.b.mono (by rw [World.size_alloc]; omega))
      have jo6 := jo.below b6
      have hc6 := hc.below b6
      have mk6 := HMK.out.below b6
      have s6 := b6.size
      have sw := jo.b.size
      have HBS : Hid (∀ i, i < j -> bs i < A) := fun i hi => by
       obtain ⟨_, h1, _, _⟩ := jo.k i (by rw [HTL.out]; exact hi)
       have := h1.lt (by omega)
       omega
      have HNE : Hid (some A ≠ u7.ownBlock) := fun e => by
       obtain ⟨_, cc, hh⟩ := jo.blk e.symm
       have := lt_of_block hh
       omega
      have jow := jo6.o
      rw [HTL.out] at jow
      clear jo hc HMK jA gA b6 bx cx ix c0 c1 c2
      obtain ⟨i0, hi0, hz0, hz1, hz2⟩ := info_parts Tryz.infoI
      gi_wp2_with (gi_at_builtin; go_must (refine wpListIn_append_own_at _ rfl (.tmp 38) (.tmp 41) 75 rfl w.heap.size 23 i0 _ 1 24 Tryz.underlying75 hi0 hz0 hz1 hz2 rfl (by decide) _ _ _ rfl (jow.alloc _) ⟨w6.heap.size, 0, none⟩ 1 1 [.slice aA 3 cA] rfl rfl (news1 w6) oneSl (by unfold maxLen; omega) (by omega) (by rw [World.size_alloc]; omega) ?_); intro v7 w7 hown hgrow hnil hat)
      have jo7 := jo6.app (s := ⟨aA, 3, cA, p⟩) HTL.out rfl oA (by omega) HBS.out HNE.out hown hgrow hat
      have hc7 := hc6.grownKT jo6 hgrow
      have mk7 := mk6.grown jo6 hgrow
      have HX7 : Hid ((ts ++ [(⟨aA, 3, cA, p⟩ : IV)]).map IV.x = ps.take (j + 1)) := by
       show _ = _
       rw [List.map_append, HX.out, HXS.out]; rfl
      have HT7 : Hid ((ts ++ [(⟨aA, 3, cA, p⟩ : IV)]).length = j + 1) := by show _ = _; rw [qB, HTL.out]; rfl
      clear hown hgrow hnil hat jow jo6 hc6 mk6 oA HBS HNE
      gi_wp2
      go_roundw
      case rel => exact ⟨j + 1, _, _, by omega, by go_num, HT7.out, jo7, HX7.out, hc7, mk7⟩
      case measure => simp [intOf]; omega
     ·obtain rfl : j = M := by omega
      have HXE : Hid (ts.map IV.x = catP ss) := by
       show _ = _
       rw [HX.out, qC (by have := HM.out; omega), HPS.out]
      have HLE : Hid (ts.length = (catP ss).length) := by
       show _ = _
       rw [<- HXE.out, qI]
      gi_wp2
      refine leaves_marks (v := u7) (fun W' => by simp [results, Tryz.results235, go_sem]) Ds _ HMK.out.b HMK.out.n (fun W' t => ?_)
      have jo' := jo.past t (fun q hq => ⟨HMK.out.l q hq, fun cs ty fr h => by rw [HMK.out.b q hq] at h; cases h⟩)
      have hpos := catP_pos ss
      have hle := HLE.out
      rcases jo'.o.2 with ⟨_, h0⟩ | ⟨g, cap', cur', hv, _, _⟩
      ·omega
      ·rw [hle] at hv
       subst hv
       exact ⟨jo'.b, .inr ⟨HU.out, g, cap', ts, bs, rfl, HXE.out, jo'⟩⟩
  ·go_simp
   refine ⟨trivial, hdd _, (callsIn_wide.2 (ipots_any)).mono ?_⟩
   rintro e w2 ⟨v, xs, rfl, jv⟩
   obtain ⟨pa, pcap, rfl, FP⟩ := jv.slice rfl
   have b3 : Below Z.heap.size Z w2 := btq e0 jv.b
   have m2 := m0.below b3
   (try dsimp only)
   refine hK.out _ _ (KP.out _ (Touch.of b3)) ?_
   clear hK K jv
   have hS2 := KP.out _ (Touch.of b3)
   refine wpAnyS_one (i := 0) (by kernel_rfl) rfl (fun K hK => ?_)
   go_simp
   refine hK.out _ _ hS2 ?_
   refine wpAnyS_one (i := 2) (by kernel_rfl) rfl (fun K hK => ?_)
   go_simp
   refine ⟨trivial, hdd _, (callsIn_wide.2 (iput_any B 0 (.map []) [] pa 3 pcap way0.pots _ m2 MapIs.empty (by omega) rfl FP pot_fit (by omega))).mono ?_⟩
   rintro e w3 ⟨⟨v3, rfl⟩, t3, D3, m3, d3⟩
   rw [pots3_guards] at d3
   have p3 : Cel w3 (B + 1) [.map (some B)] 336 := (p0.below b3).touch t3 (fun h => by have : B + 1 = B := h; omega)
   have B3 : Below w.heap.size w w3 := (btq B2 b3).trans (t3.below (B := w.heap.size) (Nat.le_trans B2.size b3.size) (fun k hk => by have : k = B := hk; omega))
   have s3 := t3.size
   (try dsimp only)
   refine hK.out _ _ (p3.cell 0) ?_
   refine wpAnyS_done (by kernel_rfl) ?_ _
   have lp3 := p3.lt
   clear KP m0 p0 m2 FP t3 b3 e0 B2 lB0
   gi_wp2_with fail
   refine wpIn_loop (fun a' w' => ∃ (u5 u6 u20 u21 u22 u23 u24 u25 u26 u27 u28 u29 u30 : Value) (k : Nat) (Ds : List Nat) (D : DataW Unit) (m : Nat), k <= N /\ OwnM w' B m D /\ m <= 3 + 128000 * k /\ MapIs D (actsP pots3 (ss.take k)) /\ Cel w' (B + 1) [.map (some B)] 336 /\ Below w.heap.size w w' /\ MkOk w.heap.size Ds w' /\ a' = { tmps := #[.slice ad N cap, undef, .slice none 0 0, .pointer (some ⟨B + 1, 0, none⟩), undef, u5, u6, undef, undef, undef, .slice ad N cap, .bool true, .bool false, .map (some B), .map (some B), .slice pa 3 pcap, v3, .slice ad N cap, .int .i64 N, .int .i64 (k : Int), u20, u21, u22, u23, u24, u25, u26, u27, u28, u29, u30, undef, undef, undef, undef, undef, undef, undef, undef, undef, undef, undef, undef, undef, undef], defers := Mk Ds }) (fun a' _ => N - (intOf (a'.tmps.getD 19 undef)).toNat) ⟨undef, undef, undef, undef, undef, undef, undef, undef, undef, undef, undef, undef, undef, 0, [], D3, 3, by omega, m3, by omega, d3, p3, B3, MkOk.nil _ _, rfl⟩ ?_
   rintro a0 wr ⟨u5, u6, u20, u21, u22, u23, u24, u25, u26, u27, u28, u29, u30, k, Ds, D, m, hk, hm, hmb, hD, hp, hb, hmk, rfl⟩
   clear m3 d3 p3 B3 lp3 s3
   have HD : Hid (MapIs D (actsP pots3 (ss.take k))) := hD
   have HMK : Hid (MkOk w.heap.size Ds wr) := hmk
   have lp := hp.lt
   clear hD hmk
   by_cases hlt : k < N
   ·have hlt' : (k : Int) < N := by omega
    have his : k < ss.length := by rw [HN.out]; exact hlt
    obtain ⟨ab, ao, rfl, hc, hLG⟩ := (HF.out.below hb) k his
    have HSA : Hid (∀ ps, ps = actsP pots3 (ss.take k) -> rowsP ps (rowsL (ss[k]?.getD noL).x) = actsP pots3 (ss.take (k + 1))) := fun ps h => by rw [h, actsP_snoc his]
    have hsok : (ss[k]?.getD noL).ok = true := by
     rw [qA his]
     exact List.all_eq_true.1 HALL.out _ (List.getElem_mem his)
    obtain ⟨s, hs⟩ : ∃ s, s = ss[k]?.getD noL := ⟨_, rfl⟩
    rw [<- hs] at hc hLG HSA hsok
    obtain ⟨sa, sn, sc, sx⟩ := s
    have hAct : actB sn sx = true := hsok
    obtain ⟨hxl, hLin, hsn⟩ := hLG
    have hc' : wr.cell? ⟨ab, ao + k, none⟩ = some (.slice sa sn sc) := hc
    have HLIN : Hid (LinesG wr sa sx) := hLin
    clear hs hc hsok hLin
    obtain ⟨PS, hPS⟩ : ∃ PS, PS = actsP pots3 (ss.take k) := ⟨_, rfl⟩
    have HSA2 : Hid (rowsP PS (rowsL sx) = actsP pots3 (ss.take (k + 1))) := HSA.out PS hPS
    have HD' : Hid (MapIs D (rowsP PS [])) := by show MapIs _ _; rw [hPS]; exact HD.out
    clear HSA HD hPS
    gi_wp2_with fail
    refine ⟨trivial, hdd _, (callsIn_wide.2 (ithrough_any sa sn sc wr)).mono ?_⟩
    rintro e w4 ⟨Bc, rfl, b4, cB⟩
    have m4 := OwnM.below hm b4
    have p4 := hp.below b4
    have mk4 := HMK.out.below b4
    have s4 := b4.size
    have B4 : Below w.heap.size w w4 := btq hb b4
    have F4 := HLIN.out.below b4
    have sB := B4.size
    clear hm hp hb HMK hc'
    gi_wp2_with fail
    refine wpIn_rows (α := Value × RowM) (gf := 273) (lb := #[.pointer (some ⟨Bc, 0, none⟩)]) rfl (enters_of Tryz.func273 (by kernel_rfl) rfl) (encs := fun x => #[x.1]) (fun _ => rfl)
     (fun pre x X => pre.length < 128 /\ RowFit x.2 /\ RowX X w4.heap.size x.1 x.2) KpR (fun xs => xs.map Prod.snd = rowsL sx)
     (fun pre X => ∃ (D : DataW Unit) (m : Nat), OwnM X B m D /\ m <= 3 + 128000 * k + 1000 * pre.length /\ MapIs D (rowsP PS (pre.map Prod.snd)) /\ Cel X (B + 1) [.map (some B)] 336 /\ Below w.heap.size w X /\ MkOk w.heap.size Ds X)
     (fun pre X Y h b => by
      obtain ⟨D, m, h1, h2, h3, h4, h5, h6⟩ := h
      exact ⟨D, m, OwnM.below h1 b, h2, h3, h4.below b, btq h5 b, h6.below b⟩)
     (fun pre X l r r' h hl lt => by
      obtain ⟨D, m, h1, h2, h3, h4, h5, h6⟩ := h
      exact ⟨D, m, OwnM.loop h1 hl, h2, h3, h4.loop hl, below_loop h5 (by omega), h6.loop hl⟩) KpR.loop (fun X Y Z => KpR.trans) ⟨D, m, m4, by simp; omega, HD'.out, p4, B4, mk4⟩ ?seq ?round ?done
    case seq =>
     intro l J W hJ hb2 hJ0 hY
     have ee0 : (#[.func (.yield l) #[] #[]] ++ #[.pointer (some ⟨Bc, 0, none⟩)] : Array Value) = #[.func (.yield l) #[] #[], .pointer (some ⟨Bc, 0, none⟩)] := rfl
     rw [ee0]
     refine (through_any l w4.heap.size (fun rs X => ∃ xs : List (Value × RowM), xs.map Prod.snd = rs /\ J xs X) (fun rs X Y h b => ?_) (fun mm rs v r X h fit rx hlen => ?_) Bc sa sn sc sx W (n - 1) hxl (F4.below hb2) hsn hAct ((cB.below hb2).cell 0) hb2.size ⟨[], rfl, hJ0⟩).mono ?_
     ·obtain ⟨xs, e, j⟩ := h
      exact ⟨xs, e, hJ _ _ _ j b⟩
     ·obtain ⟨xs, e, j⟩ := h
      obtain ⟨fn, tmps, assign, body, hy, hR⟩ := hY mm xs (v, r) X j ⟨by rw [<- e, qI] at hlen; exact hlen, fit, rx⟩
      refine ⟨fn, tmps, assign, body, hy, hR.mono ?_⟩
      rintro e' Y ⟨a, b, c⟩
      exact ⟨a, ⟨xs ++ [(v, r)], by simp [e], b⟩, c⟩
     ·rintro e Y ⟨h1, ⟨xs, e1, j⟩, _⟩
      exact ⟨h1, xs, e1, j⟩
    case round =>
     rintro mm l pre ⟨v, rm⟩ X r ⟨D1, m1, hO, hm1, hD1, hC, hB, hMk⟩ ⟨hlen, fit, rx⟩ hl hlt2
     dsimp only at fit rx
     obtain ⟨ga, gc, aa, ac, ta, tc, rfl, f0, f1, f2⟩ := rx
     dsimp only
     gi_wp2_with fail
     have bx : Below X.heap.size X (X.alloc (.cells #[.slice ga rm.guards.length gc, .slice aa rm.adds.length ac, .slice ta rm.tells.length tc, .bool rm.stop] 159)) := bal
     have cx := Cel.new X [.slice ga rm.guards.length gc, .slice aa rm.adds.length ac, .slice ta rm.tells.length tc, .bool rm.stop] 159
     have hl1 := (bx.block l (lt_of_block hl)).trans hl
     refine ⟨keeps_below bx, KpR.of bx, ?_⟩
     have O1 : OwnM _ _ _ _ := OwnM.loop (o := .loop { r with state := .busy }) (OwnM.below hO bx) hl1
     have C1 := Cel.loop (r' := { r with state := .busy }) (hC.below bx) hl1
     have X1 := Cel.loop (r' := { r with state := .busy }) cx hl1
     have MK1 := MkOk.loop (o := .loop { r with state := .busy }) (hMk.below bx) hl1
     have k1 : KpR X _ := (KpR.of bx).trans (KpR.loop _ l r { r with state := .busy } hl1)
     have B1 := below_loop (r' := { r with state := .busy }) (btq hB bx) (l := l) (by omega)
     obtain ⟨Y, hY⟩ : ∃ Y, Y = (X.alloc (.cells #[.slice ga rm.guards.length gc, .slice aa rm.adds.length ac, .slice ta rm.tells.length tc, .bool rm.stop] 159)).putObj l (.loop { r with state := .busy }) := ⟨_, rfl⟩
     rw [<- hY] at O1 C1 X1 k1 B1 MK1 ⊢
     clear hY
     have FG := f0.at.keepR k1
     have hc1 := C1.cell 0
     have hx1 := X1.cell 0
     have lB1 : B < w4.heap.size := m4.lt
     have lgg := fit.lg
     clear cx bx hl1 hO hC hB f0 f1 f2
     gi_wp2_with fail
     refine ⟨trivial, hdd _, CallsIn.mono (CallsIn.inRound l (callsIn_wide.2 (iput_any B m1 D1 _ ga rm.guards.length gc rm.guards Y O1 hD1 (by omega) rfl FG fit.g (by omega)))) ?_⟩
     rintro e Y1 ⟨⟨v1, rfl⟩, t1, D2, m2, d2⟩
     have C2 := cel_past C1 t1 (by omega)
     have MK2 := MK1.touch t1 (fun q hq o ho => by
      have : q = B := hq
      subst this
      obtain ⟨es, clock, hb⟩ := O1.obj
      rw [hb] at ho
      cases ho)
     clear hc1 hx1
     gi_wp2_with fail
     refine ⟨keeps_touch t1 (by omega), OwnM.kpR O1 t1, D2, _, m2, ?_, ?_, C2, below_touch B1 t1 (by omega), MK2⟩
     ·rw [qB, qH]; omega
     ·rw [List.map_append]
      have e2 : rowsP PS (pre.map Prod.snd ++ [rm]) = guardsP (rowsP PS (pre.map Prod.snd)) rm.guards := by simp [rowsP, List.foldl_append]
      exact e2 ▸ d2
    case done =>
     rintro DD xs W hDD hS ⟨D1, m1, hO, hm1, hD1, hC, hB, hMk⟩ hK
     rw [hS] at hD1
     have hxl2 : xs.length <= 128 := by
      have := congrArg List.length hS
      rw [qI] at this
      rw [this]; exact goW_128 (by omega)
     have MK3 : MkOk w.heap.size (DD :: Ds) W := by
      refine ⟨fun D' hD' => ?_, List.nodup_cons.2 ⟨fun hin => ?_, hMk.n⟩, fun D' hD' => ?_⟩
      ·rcases List.mem_cons.1 hD' with rfl | h
       ·exact hK
       ·exact hMk.b D' h
      ·have := lt_of_block (mk4.b DD hin)
       omega
      ·rcases List.mem_cons.1 hD' with rfl | h
       ·omega
       ·exact hMk.l D' h
     have HD1 : Hid (MapIs D1 (actsP pots3 (ss.take (k + 1)))) := by show MapIs _ _; rw [<- HSA2.out]; exact hD1
     clear hD1 hMk hK
     gi_wp2
     refine ⟨⟨_, _, _, _, _, _, _, _, _, _, _, _, _, k + 1, DD :: Ds, D1, m1, by omega, hO, by omega, HD1.out, hC, hB, MK3, rfl⟩, ?_⟩
     simp [intOf]; omega
   ·obtain rfl : k = N := by omega
    have hall : ss.take k = ss := qC (by rw [HN.out]; exact qF _)
    obtain ⟨ps, hps⟩ : ∃ ps, ps = catP ss := ⟨_, rfl⟩
    have HPS : Hid (ps = catP ss) := hps
    have HDP : Hid (MapIs D ps) := by show MapIs _ _; rw [hps, catP, <- hall]; rw [hall]; have := HD.out; rw [hall] at this; exact this
    have hlen : ps.length <= 600000 := by
     have h1 := HDP.out.sz
     have h2 := hm.size_le
     omega
    clear HD hall hps
    have hpc := hp.cell 0
    gi_wp2_with fail
    refine ⟨trivial, hdd _, (callsIn_wide.2 (iorder_any B m D ps wr hm HDP.out (by omega))).mono ?_⟩
    rintro e w5 ⟨L, cur, rfl, b5, lL, c5, hKA⟩
    have HKA : Hid (∀ j, j < ps.length -> KeyAt cur j (ps[j]?.getD [])) := hKA
    have HWF : Hid (∀ j, j < ps.length -> (ps[j]?.getD []).length = 3) := fun j hj => (HDP.out.wf _ (by rw [qA hj]; exact List.getElem_mem hj)).1
    have mk5 := HMK.out.below b5
    have B5 := btq hb b5
    have lL0 : w.heap.size <= L := Nat.le_trans hb.size lL
    obtain ⟨M, hM⟩ : ∃ M, M = ps.length := ⟨_, rfl⟩
    have HM : Hid (M = ps.length) := hM
    rw [<- hM] at hlen ⊢
    have j5 : JO w (.slice none 0 0) [] (fun _ => 0) w5 := JO.nil w w5 B5 _
    clear hKA hM hm hp hb HMK b5 HDP hpc
    gi_wp2_with fail
    gi_loopw [7, 9, 34] (fun v _ i wr => ∃ (j : Nat) (ts : List IV) (bs : Nat -> Nat), j <= M /\ i = .int .i64 j /\ ts.length = j /\ JO w v ts bs wr /\ ts.map IV.x = ps.take j /\ Cel wr L cur KT /\ MkOk w.heap.size Ds wr) (fun _ _ i _ => M - (intOf i).toNat)
    case atStart => exact ⟨0, [], fun _ => 0, qG _, rfl, rfl, j5, rfl, c5, mk5⟩
    case round =>
     clear j5 c5 mk5 B5 lL
     obtain ⟨j, ts, bs, hj, rfl, htl, jo, hx, hc, hmk⟩ := hrel
     have HTL : Hid (ts.length = j) := htl
     have HX : Hid (ts.map IV.x = ps.take j) := hx
     have HMK : Hid (MkOk w.heap.size Ds wr) := hmk
     clear htl hx hmk
     by_cases hlt2 : j < M
     ·have hlt2' : (j : Int) < M := by omega
      have hjp : j < ps.length := by have := HM.out; omega
      obtain ⟨k0, k1, k2⟩ := HKA.out j hjp
      have c0 := (hc.cell _).trans k0
      have c1 := (hc.cell _).trans k1
      have c2 := (hc.cell _).trans k2
      have h3 := HWF.out j hjp
      have HXS : Hid (ps.take (j + 1) = ps.take j ++ [ps[j]?.getD []]) := by
       show _ = _
       rw [List.take_succ_eq_append_getElem hjp, qA hjp]; rfl
      obtain ⟨p, hp⟩ : ∃ p, p = ps[j]?.getD [] := ⟨_, rfl⟩
      rw [<- hp] at c0 c1 c2 h3 HXS
      have HP3 : Hid (p = [p[0]?.getD 0, p[1]?.getD 0, p[2]?.getD 0]) := three_eq h3
      have Hlen3 : Hid (p.length = 3) := h3
      generalize hx0 : p[0]?.getD 0 = x0 at *
      generalize hx1 : p[1]?.getD 0 = x1 at *
      generalize hx2 : p[2]?.getD 0 = x2 at *
      have bx : Below wr.heap.size wr (wr.alloc (.cells #[.int .i64 x0, .int .i64 x1, .int .i64 x2] KT)) := bal
      have cx := Cel.new wr [.int .i64 x0, .int .i64 x1, .int .i64 x2] KT
      have ix : Ints (wr.alloc (.cells #[.int .i64 x0, .int .i64 x1, .int .i64 x2] KT)) (some ⟨wr.heap.size, 0, none⟩) 3 p := by
       rw [HP3.out]
       refine ⟨rfl, fun i hi => ⟨wr.heap.size, 0, rfl, ?_⟩⟩
       rw [Nat.zero_add, cx.cell i]
       match i, hi with
       | 0, _ => rfl
       | 1, _ => rfl
       | 2, _ => rfl
      clear hx0 hx1 hx2 hp h3 k0 k1 k2
      gi_wp2_with fail
      refine ⟨trivial, hdd _, (callsIn_wide.2 (clone_any 3 3 p _ ix (by omega) (by omega))).mono ?_⟩
      rintro e w6 ⟨v6, rfl, jA⟩
      obtain ⟨aA, cA, A, rfl, oA, gA⟩ := jA.ownx Hlen3.out
      have lA := gA (by omega)
      rw [World.size_alloc] at lA
      have b6 : Below wr.heap.size wr w6 := bx.trans (jA.b.mono (by rw [World.size_alloc]; omega))
      have jo6 := jo.below b6
      have hc6 := hc.below b6
      have mk6 := HMK.out.below b6
      have s6 := b6.size
      have sw := jo.b.size
      have HBS : Hid (∀ i, i < j -> bs i < A) := fun i hi => by
       obtain ⟨_, h1, _, _⟩ := jo.k i (by rw [HTL.out]; exact hi)
       have := h1.lt (by omega)
       omega
      have HNE : Hid (some A ≠ u7.ownBlock) := fun e => by
       obtain ⟨_, cc, hh⟩ := jo.blk e.symm
       have := lt_of_block hh
       omega
      have jow := jo6.o
      rw [HTL.out] at jow
      clear jo hc HMK jA gA b6 bx cx ix c0 c1 c2
      obtain ⟨i0, hi0, hz0, hz1, hz2⟩ := info_parts Tryz.infoI
      gi_wp2_with (gi_at_builtin; go_must (refine wpListIn_append_own_at _ rfl (.tmp 38) (.tmp 41) 75 rfl w.heap.size 23 i0 _ 1 24 Tryz.underlying75 hi0 hz0 hz1 hz2 rfl (by decide) _ _ _ rfl (jow.alloc _) ⟨w6.heap.size, 0, none⟩ 1 1 [.slice aA 3 cA] rfl rfl (news1 w6) oneSl (by unfold maxLen; omega) (by omega) (by rw [World.size_alloc]; omega) ?_); intro v7 w7 hown hgrow hnil hat)
      have jo7 := jo6.app (s := ⟨aA, 3, cA, p⟩) HTL.out rfl oA (by omega) HBS.out HNE.out hown hgrow hat
      have hc7 := hc6.grownKT jo6 hgrow
      have mk7 := mk6.grown jo6 hgrow
      have HX7 : Hid ((ts ++ [(⟨aA, 3, cA, p⟩ : IV)]).map IV.x = ps.take (j + 1)) := by
       show _ = _
       rw [List.map_append, HX.out, HXS.out]; rfl
      have HT7 : Hid ((ts ++ [(⟨aA, 3, cA, p⟩ : IV)]).length = j + 1) := by show _ = _; rw [qB, HTL.out]; rfl
      clear hown hgrow hnil hat jow jo6 hc6 mk6 oA HBS HNE
      gi_wp2
      go_roundw
      case rel => exact ⟨j + 1, _, _, by omega, by go_num, HT7.out, jo7, HX7.out, hc7, mk7⟩
      case measure => simp [intOf]; omega
     ·obtain rfl : j = M := by omega
      have HXE : Hid (ts.map IV.x = catP ss) := by
       show _ = _
       rw [HX.out, qC (by have := HM.out; omega), HPS.out]
      have HLE : Hid (ts.length = (catP ss).length) := by
       show _ = _
       rw [<- HXE.out, qI]
      gi_wp2
      refine leaves_marks (v := u7) (fun W' => by simp [results, Tryz.results235, go_sem]) Ds _ HMK.out.b HMK.out.n (fun W' t => ?_)
      have jo' := jo.past t (fun q hq => ⟨HMK.out.l q hq, fun cs ty fr h => by rw [HMK.out.b q hq] at h; cases h⟩)
      have hpos := catP_pos ss
      have hle := HLE.out
      rcases jo'.o.2 with ⟨_, h0⟩ | ⟨g, cap', cur', hv, _, _⟩
      ·omega
      ·rw [hle] at hv
       subst hv
       exact ⟨jo'.b, .inr ⟨HU.out, g, cap', ts, bs, rfl, HXE.out, jo'⟩⟩
theorem icatforms_any (ad : Option Addr) (N cap : Nat) (ss : List L2V) (w : World) (hN : ss.length = N) (hF : LSG w ad ss) (hN1 : N <= 1048576) :
  Calls Tryz.prog 235 #[.slice ad N cap] w fun e w' => Below w.heap.size w w' /\ ((catB N ss = false /\ e = .returned (.slice none 0 0)) \/ (catB N ss = true /\ ∃ G cG ts bs, e = .returned (.slice (some ⟨G, 0, none⟩) (catP ss).length cG) /\ ts.map IV.x = catP ss /\ JO w (.slice (some ⟨G, 0, none⟩) (catP ss).length cG) ts bs w')) :=
 callsIn_wide.1 (icatforms_in ad N cap ss w 0 hN hF hN1)
structure SL (W : World) (a : Option Addr) (G n : Nat) (ts : List IV) (bs : Nat -> Nat) (f : Nat -> List Int) : Prop where
 c : ∀ j, j < n -> a = some ⟨G, 0, none⟩ /\ W.cell? ⟨G, j, none⟩ = some (.slice (ts[j]?.getD noI).a 3 (ts[j]?.getD noI).cap) /\ OwnX W (ts[j]?.getD noI).a (bs j) 3 (f j) /\ bs j ≠ G
 d : ∀ i j, i < j -> j < n -> bs i < bs j
theorem SL.touch {f : Nat -> List Int} (h : SL W a G n ts bs f) (t : Touch S W W') (hG : 0 < n -> ¬ S G) (hb : ∀ j, j < n -> ¬ S (bs j)) : SL W' a G n ts bs f :=
 ⟨fun j hj => by
  obtain ⟨h1, h2, h3, h4⟩ := h.c j hj
  refine ⟨h1, ?_, h3.touch t (fun _ => hb j hj), h4⟩
  rw [World.cell?_of_block (t.block G (block_lt h2) (hG (by omega)))]; exact h2, h.d⟩
theorem SL.ext {f g : Nat -> List Int} (h : SL W a G n ts bs f) (e : ∀ j, j < n -> f j = g j) : SL W a G n ts bs g := ⟨fun j hj => by rw [<- e j hj]; exact h.c j hj, h.d⟩
theorem SL.none (W : World) (a : Option Addr) (G : Nat) (ts : List IV) (bs : Nat -> Nat) (f : Nat -> List Int) : SL W a G 0 ts bs f := ⟨fun j hj => by omega, fun i j _ hj => by omega⟩
theorem JO.sl {cG : Nat} (j : JO w (.slice (some ⟨G, 0, Option.none⟩) n cG) ts bs W) (hn : ts.length = n) : SL W (some ⟨G, 0, Option.none⟩) G n ts bs (fun i => (ts[i]?.getD noI).x) := by
 subst hn
 refine ⟨fun i hi => ?_, j.d⟩
 obtain ⟨a, b, c, d⟩ := j.k i hi
 refine ⟨rfl, ?_, b, fun e => d (by rw [e]; rfl)⟩
 rw [own_cell j.o i (by omega), List.getElem?_map, qA hi]
 rw [qA hi] at a
 simp only [Option.getD_some] at a
 simp [IV.v, a]
theorem SL.isg (h : SL W a G n ts bs (fun i => (ts[i]?.getD noI).x)) (hn : ts.length = n) (h3 : ∀ i, i < n -> (ts[i]?.getD noI).n = 3) : ISG W a ts := fun i hi => by
 obtain ⟨h1, h2, hx, _⟩ := h.c i (by omega)
 refine ⟨G, 0, h1, ?_, ?_, by rw [h3 i (by omega)]; omega⟩
 ·rw [Nat.zero_add, h2, IV.v, h3 i (by omega)]
 ·rw [h3 i (by omega)]; exact hx.ints
theorem goW_copies {gs : List LV} (hl : gs.length = ls.length) (h : copiesL ls gs) (f : Nat) : ∀ (i : Nat) (y : Way), goW gs f i y = goW ls f i y := by
 induction f with
 | zero => intro i y; rfl
 | succ f ih =>
  intro i y
  rw [goW, goW, hl]
  by_cases hi : i < ls.length
  ·obtain ⟨a1, a2, a3, a4, a5, a6, _⟩ := h i (by omega)
   have e : intoX (gs[i]?.getD noLV).f y.pots = intoX (ls[i]?.getD noLV).f y.pots := by rw [intoX, intoX, a4, a5, a6]
   rw [if_pos hi, if_pos hi, a1, a2, a3, e, ih, ih, ih, ih]
  ·rw [if_neg hi, if_neg hi]
theorem rowsL_copies {gs : List LV} (hl : gs.length = ls.length) (h : copiesL ls gs) : rowsL gs = rowsL ls := goW_copies hl h 7 0 way0
def lenB (v : Bool) : Nat := if v then 3 else 0
theorem rows_map {ts : List L2V} (hl : ts.length = ss.length) (h : copiesL2S ss ts) : ts.map (fun s => rowsL s.x) = ss.map (fun s => rowsL s.x) := by
 apply List.ext_getElem?
 intro i
 by_cases hi : i < ts.length
 ·obtain ⟨e1, e2, e3⟩ := h i hi
  have := rowsL_copies e2 e3
  rw [qA hi, qA (by omega)] at this
  simp only [Option.getD_some] at this
  rw [List.getElem?_map, List.getElem?_map, qA hi, qA (by omega)]
  simp [this]
 ·rw [List.getElem?_eq_none (by simp; omega), List.getElem?_eq_none (by simp; omega)]
theorem pins_copies {ts : List L2V} (hl : ts.length = ss.length) (h : copiesL2S ss ts) : pinsA ts = pinsA ss := by
 funext v
 have e : ∀ xs : List L2V, pinsA xs v = (xs.map (fun s => rowsL s.x)).any (fun r => readsR r v) := fun xs => by simp [pinsA, List.any_map, Function.comp_def]
 rw [e, e, rows_map hl h]
theorem catP_copies {ts : List L2V} (hl : ts.length = ss.length) (h : copiesL2S ss ts) : catP ts = catP ss := by
 have e : ∀ xs : List L2V, catP xs = (xs.map (fun s => rowsL s.x)).foldl rowsP pots3 := fun xs => by rw [catP, actsP, List.foldl_map]
 rw [e, e, rows_map hl h]
theorem icatpins_at (v : Bool) (R : Nat -> Bool) {ad : Option Addr} {N cap : Nat} (gs : List L2V) {w : World} (hN : gs.length = N) (hF : LSG w ad gs) (hN1 : N <= 1048576) (hv : catB N gs = v) (hR : pinsA gs = R) :
  Calls Tryz.prog 237 #[.slice ad N cap] w fun e w' => ∃ a cp, e = .returned (.slice a (lenB v) cp) /\ Below w.heap.size w w' /\ (v = false \/ (v = true /\ ∃ G, a = some ⟨G, 0, none⟩ /\ w.heap.size <= G /\ OwnBB w' G R)) := by
 refine (icatpins_any ad N cap gs w hN hF hN1).mono ?_
 rintro e w' ⟨b, ⟨h, rfl⟩ | ⟨h, G, cG, rfl, hG, o⟩⟩
 ·rw [hv] at h; subst h
  exact ⟨_, 0, rfl, b, Or.inl rfl⟩
 ·rw [hv] at h; subst h; subst hR
  exact ⟨_, cG, rfl, b, Or.inr ⟨rfl, G, rfl, hG, o⟩⟩
def catT (v : Bool) (ps : List (List Int)) : List (List Int) := if v then ps else []
def tF (T : List (List Int)) (i : Nat) : List Int := T[i]?.getD []
theorem map_at (h : ts.map IV.x = T) {i : Nat} (hi : i < T.length) : (ts[i]?.getD noI).x = tF T i := by
 subst h
 rw [qI] at hi
 rw [tF, List.getElem?_map, qA hi]; rfl
theorem map_len (h : ts.map IV.x = T) : ts.length = T.length := by rw [<- h, qI]
def UF (W : World) (a : Option Addr) (lo : Nat) (T : List (List Int)) (f : Nat -> List Int) : Prop := ∃ G ts bs, SL W a G T.length ts bs f /\ ts.map IV.x = T /\ (∀ i, i < T.length -> (ts[i]?.getD noI).n = 3) /\ (0 < T.length -> lo <= G) /\ ∀ j, j < T.length -> lo <= bs j
theorem UF.isg {lo : Nat} (h : UF W a lo T (tF T)) : ∃ ts, ISG W a ts /\ ts.map IV.x = T := by
 obtain ⟨G, ts, bs, s, r1, r2, _⟩ := h
 exact ⟨ts, (s.ext (fun j hj => (map_at r1 hj).symm)).isg (map_len r1) r2, r1⟩
theorem icatforms_at (T : List (List Int)) {ad : Option Addr} {N cap : Nat} (gs : List L2V) {w : World} (hN : gs.length = N) (hF : LSG w ad gs) (hN1 : N <= 1048576) (hT : catT (catB N gs) (catP gs) = T) :
  Calls Tryz.prog 235 #[.slice ad N cap] w fun e w' => ∃ a cp, e = .returned (.slice a T.length cp) /\ Below w.heap.size w w' /\ UF w' a w.heap.size T (tF T) := by
 refine (icatforms_any ad N cap gs w hN hF hN1).mono ?_
 rintro e w' ⟨b, ⟨h, rfl⟩ | ⟨h, G, cG, ts, bs, rfl, hx, jo⟩⟩
 ·rw [h, catT] at hT
  simp only [Bool.false_eq_true, if_false] at hT
  subst hT
  exact ⟨_, 0, rfl, b, 0, [], fun _ => 0, SL.none _ _ _ _ _ _, rfl, fun i hi => by simp at hi, fun h => by simp at h, fun j hj => by simp at hj⟩
 ·rw [h, catT] at hT
  simp only [if_true] at hT
  rw [hT] at hx jo ⊢
  have hl := map_len hx
  have s := jo.sl hl
  refine ⟨_, cG, rfl, b, G, ts, bs, s.ext (fun j hj => map_at hx hj), hx, fun i hi => (jo.k i (by omega)).1, fun _ => (jo.blk (g := G) rfl).1, fun j hj => (jo.k j (by omega)).2.2.1⟩
def stillTo (R : Nat -> Bool) (E : List Int) (k : Nat) : Bool := (List.range k).all fun v => !(R v && decide (E[v]?.getD 0 ≠ 0))
def stillB (R : Nat -> Bool) (E : List Int) : Bool := stillTo R E 3
theorem still_succ (R : Nat -> Bool) (E : List Int) (k : Nat) : stillTo R E (k + 1) = (stillTo R E k && !(R k && decide (E[k]?.getD 0 ≠ 0))) := by
 rw [stillTo, List.range_succ, List.all_append]; simp [stillTo]
theorem still_no {R : Nat -> Bool} (h : k < 3) (h1 : R k = true) (h2 : E[k]?.getD 0 ≠ 0) : stillB R E = false := by
 rw [stillB, stillTo, List.all_eq_false]
 exact ⟨k, by simpa using h, by simp [h1, h2]⟩
theorem still_go {R : Nat -> Bool} (h : stillTo R E k = true) (h1 : R k = false \/ E[k]?.getD 0 = 0) : stillTo R E (k + 1) = true := by
 rw [still_succ, h]
 rcases h1 with h1 | h1 <;> simp [h1]
theorem sstill_any {c : Option Addr} {cap' : Nat} (R : Nat -> Bool) (E : List Int) {w : World} (hR : BA w a 3 R) (hE : Ints w c 3 E) :
  Calls Tryz.prog 185 #[.slice a 3 cap, .slice c 3 cap'] w fun e w' => e = .returned (.bool (stillB R E)) /\ w' = w := by
 go_enter Tryz.func185, Tryz.ntmps185
 go_wp2_with fail
 go_loop [5] (fun i => ∃ k : Nat, k <= 3 /\ i = .int .i64 k /\ stillTo R E k = true) (fun i => 3 - (intOf i).toNat)
 case atStart => exact ⟨0, qG _, rfl, rfl⟩
 case round =>
  obtain ⟨k, hk, rfl, hall⟩ := hrel
  have HA : Hid _ := hall
  clear hall
  by_cases hlt : k < 3
  ·obtain ⟨b, off, rfl, hc⟩ := hR k hlt
   obtain ⟨b', off', rfl, hcell'⟩ := hE.pos (by omega)
   have hd := hcell' k hlt
   clear hcell'
   have hlt' : (k : Int) < 3 := by omega
   cases h1 : R k
   ·rw [h1] at hc
    go_wp2
    go_round
    case rel => exact ⟨k + 1, by omega, by go_num, still_go HA.out (Or.inl h1)⟩
    case measure => simp [intOf]; omega
   ·rw [h1] at hc
    cases h2 : (E[k]?.getD 0 != 0)
    ·have h2' : E[k]?.getD 0 = 0 := by simpa using h2
     have H2 : Hid _ := h2'
     clear h2'
     go_wp2
     go_round
     case rel => exact ⟨k + 1, by omega, by go_num, still_go HA.out (Or.inr H2.out)⟩
     case measure => simp [intOf]; omega
    ·have H2 : Hid (E[k]?.getD 0 ≠ 0) := by show _ ≠ _; simpa using h2
     go_wp2
     go_ret
     exact ⟨ret_bool (by rw [still_no hlt h1 H2.out]), rfl⟩
  ·obtain rfl : k = 3 := by omega
   go_wp2
   go_ret
   exact ⟨ret_bool (by rw [stillB, HA.out]), rfl⟩
theorem ipinned_any {c : Option Addr} {cap' : Nat} (R : Nat -> Bool) (E : List Int) {w : World} (hR : BA w a 3 R) (hE : Ints w c 3 E) :
  Calls Tryz.prog 236 #[.slice a 3 cap, .slice c 3 cap'] w fun e w' => e = .returned (.bool (!stillB R E)) /\ w' = w := by
 go_enter Tryz.func236, Tryz.ntmps236
 go_wp2_with fail
 go_loop [5, 6, 9] (fun _ _ i => ∃ k : Nat, k <= 3 /\ i = .int .i64 k /\ stillTo R E k = true) (fun _ _ i => 3 - (intOf i).toNat)
 case atStart => exact ⟨0, qG _, rfl, rfl⟩
 case round =>
  obtain ⟨k, hk, rfl, hall⟩ := hrel
  have HA : Hid _ := hall
  clear hall
  by_cases hlt : k < 3
  ·obtain ⟨b, off, rfl, hc⟩ := hR k hlt
   obtain ⟨b', off', rfl, hcell'⟩ := hE.pos (by omega)
   have hd := hcell' k hlt
   clear hcell'
   have hlt' : (k : Int) < 3 := by omega
   cases h1 : R k
   ·rw [h1] at hc
    go_wp2
    go_round
    case rel => exact ⟨k + 1, by omega, by go_num, still_go HA.out (Or.inl h1)⟩
    case measure => simp [intOf]; omega
   ·rw [h1] at hc
    cases h2 : (E[k]?.getD 0 != 0)
    ·have h2' : E[k]?.getD 0 = 0 := by simpa using h2
     have H2 : Hid _ := h2'
     clear h2'
     go_wp2
     go_round
     case rel => exact ⟨k + 1, by omega, by go_num, still_go HA.out (Or.inr H2.out)⟩
     case measure => simp [intOf]; omega
    ·have H2 : Hid (E[k]?.getD 0 ≠ 0) := by show _ ≠ _; simpa using h2
     go_wp2
     go_ret
     exact ⟨ret_bool (by rw [still_no hlt h1 H2.out]; rfl), rfl⟩
  ·obtain rfl : k = 3 := by omega
   go_wp2
   go_ret
   exact ⟨ret_bool (by rw [stillB, HA.out]; rfl), rfl⟩
def keepT (n m : Nat) (C D : List Int) (T : List (List Int)) (s : Int) (k : Nat) (E : List Int) : Bool := keepB n m C D (T.map fun x => ⟨none, x.length, 0, x⟩) s k E
theorem keep_of (h : ISG w a ts) (hT : ts.map IV.x = T) {n m : Nat} {C D : List Int} {s : Int} {k : Nat} {E : List Int} : keepB n m C D ts s k E = keepT n m C D T s k E := by
 have hl := map_len hT
 refine keepB_copy (by simp [hl]) (fun i hi => ?_)
 obtain ⟨b, off, -, -, hI, -⟩ := h i hi
 have e := map_at hT (i := i) (by omega)
 have e2 : ((T.map fun x => (⟨none, x.length, 0, x⟩ : IV))[i]?.getD noI) = ⟨none, (tF T i).length, 0, tF T i⟩ := by
  rw [List.getElem?_map, tF, qA (by omega)]; rfl
 rw [e2]
 exact ⟨by show _ = _; rw [<- hI.1, e], e⟩
theorem keepT_elim {m : Nat} {C D : List Int} {s : Int} (h : keepT n m C D T s k E = true) : okN 3 10000 n C = true /\ inB s 0 ((m : Int) - 1) = true /\ k = 3 := by
 have hv : viewB n m C D (T.map fun x => ⟨none, x.length, 0, x⟩) s k E = true := by
  simp only [keepT, keepB, Bool.and_eq_true] at h
  exact h.1
 have e := viewB_elim hv
 simp only [viewB, trtB, Bool.and_eq_true] at hv
 exact ⟨hv.1.1, hv.2.2.1, e.2.2.2.2.2.2.2.1⟩
theorem goW_guards (f : Nat) : ∀ (i : Nat) (y : Way) (r : RowM), r ∈ goW ls f i y -> r.guards.length <= y.guards.length + f := by
 induction f with
 | zero =>
  intro i y r h
  simp only [goW, List.mem_singleton] at h
  subst h
  simp [endW]
 | succ f ih =>
  intro i y r h
  rw [goW] at h
  by_cases hi : i < ls.length
  ·rw [if_pos hi] at h
   by_cases h1 : (ls[i]?.getD noLV).kind = 1
   ·rw [if_pos h1, List.mem_append] at h
    rcases h with h | h
    ·have := ih _ _ _ h
     simp only [Way.guard, qB, qD, qE] at this
     omega
    ·have := ih _ _ _ h
     simp only [Way.guard, qB, qD, qE] at this
     omega
   ·rw [if_neg h1] at h
    by_cases h2 : (ls[i]?.getD noLV).kind = 2
    ·rw [if_pos h2] at h
     have := ih _ _ _ h
     simp only [Way.add] at this
     omega
    ·rw [if_neg h2] at h
     by_cases h3 : (ls[i]?.getD noLV).kind = 3
     ·rw [if_pos h3] at h
      have := ih _ _ _ h
      simp only [Way.tell] at this
      omega
     ·rw [if_neg h3, List.mem_singleton] at h
      subst h
      simp only [stopW]
      omega
  ·rw [if_neg hi, List.mem_singleton] at h
   subst h
   simp only [endW]
   omega
theorem addP_most (ps : List (List Int)) (p : List Int) : (addP ps p).length <= ps.length + 1 := by
 unfold addP
 split
 ·omega
 ·simp
theorem guardsP_most (fs : List Frm) : ∀ ps : List (List Int), (guardsP ps fs).length <= ps.length + fs.length := by
 induction fs with
 | nil => intro ps; simp [guardsP]
 | cons f fs ih =>
  intro ps
  have h1 := ih (addP ps (partL f.1))
  have h2 := addP_most ps (partL f.1)
  have e : guardsP ps (f :: fs) = guardsP (addP ps (partL f.1)) fs := rfl
  rw [e, qD]
  omega
theorem rowsP_most (rs : List RowM) (M : Nat) : ∀ ps : List (List Int), (∀ r ∈ rs, r.guards.length <= M) -> (rowsP ps rs).length <= ps.length + rs.length * M := by
 induction rs with
 | nil => intro ps _; simp [rowsP]
 | cons r rs ih =>
  intro ps h
  have h1 := ih (guardsP ps r.guards) (fun x hx => h x (List.mem_cons_of_mem _ hx))
  have h2 := guardsP_most r.guards ps
  have h3 := h r List.mem_cons_self
  have e : rowsP ps (r :: rs) = rowsP (guardsP ps r.guards) rs := rfl
  rw [e, qD, Nat.succ_mul]
  omega
theorem actsP_most (ss : List L2V) : ∀ ps : List (List Int), (actsP ps ss).length <= ps.length + ss.length * 896 := by
 induction ss with
 | nil => intro ps; simp [actsP]
 | cons s ss ih =>
  intro ps
  have h1 := ih (rowsP ps (rowsL s.x))
  have h2 := rowsP_most (rowsL s.x) 7 ps (fun r hr => by have := goW_guards 7 0 way0 r hr; simpa [way0] using this)
  have h3 : (rowsL s.x).length <= 128 := goW_128 (by omega)
  have h4 : (rowsL s.x).length * 7 <= 128 * 7 := Nat.mul_le_mul_right _ h3
  have e : actsP ps (s :: ss) = actsP (rowsP ps (rowsL s.x)) ss := rfl
  rw [e, qD]
  omega
theorem catP_len (h : ss.length <= 4) : (catP ss).length <= 600000 := by
 have h1 := actsP_most ss pots3
 have h2 : pots3.length = 3 := rfl
 show (actsP pots3 ss).length <= 600000
 omega
theorem one_ints (w : World) (x : Int) (t : TypeId) : Ints (w.alloc (.cells #[.int .i64 x] t)) (some ⟨w.heap.size, 0, none⟩) 1 [x] :=
 ⟨rfl, fun i hi => ⟨w.heap.size, 0, rfl, by
  obtain rfl : i = 0 := by omega
  simp [go_sem]⟩⟩
theorem PlAt.drewP {ga : Option Addr} {G : List Int} {sa : Option Addr} {S : List Int} (h : PlAt w ad N ss ga gn G sa sn S) : PlAt w.drew ad N ss ga gn G sa sn S := h.below (Below.refl _ _).drew
theorem bet_one (x lo hi : Int) : betB lo hi [x] = inB x lo hi := by simp [betB]
theorem pln_same {G : List Int} {S : List Int} : (betB 1 4 [cl] && (catB N ss && (allB 1000 S && trtB sn gn S G))) = plnB cl N ss gn G sn S := by
 rw [plnB, bet_one]
 by_cases h : (sn : Int) = 3
 ·rw [okN_is h]
 ·rw [trtB, okN_not h, okN_not h]
  simp
theorem splnok_any (ss : List L2V) {ga : Option Addr} {gn gc : Nat} (G : List Int) {sa : Option Addr} {sn sc : Nat} (S : List Int) {w : World} (h : PlAt w ad N ss ga gn G sa sn S) :
  Calls Tryz.prog 41 #[plV cl ad N cap ga gn gc sa sn sc] w fun e w' => e = .returned (.bool (plnB cl N ss gn G sn S)) /\ Below w.heap.size w w' := by
 have n0 := BP.new w [.int .i64 cl, .slice ad N cap, .slice ga gn gc, .slice sa sn sc] 41
 obtain ⟨x1, hx1⟩ : ∃ x, x = inB cl 1 4 := ⟨_, rfl⟩
 obtain ⟨x2, hx2⟩ : ∃ x, x = catB N ss := ⟨_, rfl⟩
 obtain ⟨x3, hx3⟩ : ∃ x, x = okN 3 1000 sn S := ⟨_, rfl⟩
 obtain ⟨x4, hx4⟩ : ∃ x, x = trtB sn gn S G := ⟨_, rfl⟩
 have HB : Hid (plnB cl N ss gn G sn S = (x1 && (x2 && (x3 && x4)))) := by show _ = _; rw [plnB, hx1, hx2, hx3, hx4]
 have H1 : Hid _ := hx1
 have H2 : Hid _ := hx2
 have H3 : Hid _ := hx3
 have H4 : Hid _ := hx4
 clear hx1 hx2 hx3 hx4
 go_enter Tryz.func41, Tryz.ntmps41
 go_wp2_with fail
 refine (in_any).mono ?_
 rintro e w1 ⟨rfl, rfl⟩
 rw [<- H1.out]
 cases x1
 ·go_wp2
  go_ret
  exact ⟨ret_bool (by rw [HB.out]; rfl), n0.b⟩
 go_wp2_with fail
 refine (scat_any ss h.ha (h.alloc _).a h.za).mono ?_
 rintro e w1 ⟨rfl, b1⟩
 rw [<- H2.out]
 have n1 := n0.below b1
 obtain ⟨c0, c1, c2, c3⟩ := n1.p.quadP
 clear b1 n0
 cases x2
 ·go_wp2
  go_ret
  exact ⟨ret_bool (by rw [HB.out]; rfl), n1.b⟩
 go_wp2_with fail
 refine (all_any S (h.below n1.b).s h.zs (by omega) (by omega)).mono ?_
 rintro e w2 ⟨rfl, rfl⟩
 rw [<- H3.out]
 cases x3
 ·go_wp2
  go_ret
  exact ⟨ret_bool (by rw [HB.out]; rfl), n1.b⟩
 go_wp2_with fail
 refine (strt_any S G (h.below n1.b).s (h.below n1.b).g h.zs h.zg).mono ?_
 rintro e w2 ⟨rfl, b2⟩
 rw [<- H4.out]
 have n2 := n1.below b2
 go_wp2
 go_ret
 exact ⟨ret_bool (by rw [HB.out]; rfl), n2.b⟩
theorem iplnok_any (ss : List L2V) {ga : Option Addr} {gn gc : Nat} (G : List Int) {sa : Option Addr} {sn sc : Nat} (S : List Int) {w : World} (h : PlAt w ad N ss ga gn G sa sn S) :
  Calls Tryz.prog 48 #[plV cl ad N cap ga gn gc sa sn sc] w fun e w' => e = .returned (.bool (plnB cl N ss gn G sn S)) /\ Below w.heap.size w w' := by
 have n0 := (BP.new w [.int .i64 cl, .slice ad N cap, .slice ga gn gc, .slice sa sn sc] 41).alloc (.cells #[.int .i64 cl] 3)
 obtain ⟨x1, hx1⟩ : ∃ x, x = betB 1 4 [cl] := ⟨_, rfl⟩
 obtain ⟨x2, hx2⟩ : ∃ x, x = catB N ss := ⟨_, rfl⟩
 obtain ⟨x3, hx3⟩ : ∃ x, x = allB 1000 S := ⟨_, rfl⟩
 obtain ⟨x4, hx4⟩ : ∃ x, x = trtB sn gn S G := ⟨_, rfl⟩
 have HB : Hid (plnB cl N ss gn G sn S = (x1 && (x2 && (x3 && x4)))) := by show _ = _; rw [<- pln_same, hx1, hx2, hx3, hx4]
 have H1 : Hid _ := hx1
 have H2 : Hid _ := hx2
 have H3 : Hid _ := hx3
 have H4 : Hid _ := hx4
 clear hx1 hx2 hx3 hx4
 go_enter Tryz.func48, Tryz.ntmps48
 go_wp2_with fail
 refine (between_any [cl] _ _ (by have := one_ints (w.alloc (.cells #[.int .i64 cl, .slice ad N cap, .slice ga gn gc, .slice sa sn sc] 41)) cl 3; rw [World.size_alloc] at this; exact this) (by omega)).mono ?_
 rintro e w1 ⟨rfl, rfl⟩
 rw [<- H1.out]
 cases x1
 ·go_wp2
  go_ret
  exact ⟨ret_bool (by rw [HB.out]; rfl), n0.b⟩
 go_wp2_with fail
 refine (icat_any _ _ _ ss h.ha ((h.alloc _).alloc _).a h.za).mono ?_
 rintro e w1 ⟨rfl, b1⟩
 rw [<- H2.out]
 have n1 := n0.below b1
 obtain ⟨c0, c1, c2, c3⟩ := n1.p.quadP
 clear b1 n0
 cases x2
 ·go_wp2
  go_ret
  exact ⟨ret_bool (by rw [HB.out]; rfl), n1.b⟩
 go_wp2_with fail
 refine (within_any _ _ _ S (h.below n1.b).s h.zs (by omega) (by omega)).mono ?_
 rintro e w2 ⟨rfl, rfl⟩
 rw [<- H3.out]
 cases x3
 ·go_wp2
  go_ret
  exact ⟨ret_bool (by rw [HB.out]; rfl), n1.b⟩
 go_wp2_with fail
 refine (itrt_any S G (h.below n1.b).s (h.below n1.b).g h.zs h.zg).mono ?_
 rintro e w2 ⟨rfl, b2⟩
 rw [<- H4.out]
 have n2 := n1.below b2
 go_wp2
 go_ret
 exact ⟨ret_bool (by rw [HB.out]; rfl), n2.b⟩
theorem pln_parts {G : List Int} {S : List Int} (h : plnB cl N ss gn G sn S = true) : (1 <= cl /\ cl <= 4) /\ (1 <= gn /\ gn <= 3) := by
 simp only [plnB, trtB, Bool.and_eq_true] at h
 have h1 := inB_iff.1 h.1
 have h2 := inB_iff.1 h.2.2.2.2.1
 omega
end Go.Proofs.YtacfoeekmcnpjaaGreatDoor
