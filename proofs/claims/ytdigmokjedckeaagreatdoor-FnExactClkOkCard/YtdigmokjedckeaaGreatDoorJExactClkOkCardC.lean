/-
  Lemmas that the claim's last text rests on: Both, BoolS, CatPW, CatFI, IntSM, CatL, Plan, CatPL, CatFL, StillW, PlanW, ResP, DonE.
-/
import Derived.Test.YtdigmokjedckeaaGreatDoorJExactClkOkCardB
import Derived.Deep.AppendLies
import Derived.Maps.OwnIn
import Derived.Test.YtdigmokjedckeaaGreatDoorTrtW
import Derived.Test.YtdigmokjedckeaaGreatDoorKeepsS
import Derived.Test.YtdigmokjedckeaaGreatDoorForms
import Derived.Test.YtdigmokjedckeaaGreatDoorOpen
import Derived.Test.YtdigmokjedckeaaGreatDoorIntSS
namespace Go.Proofs.YtdigmokjedckeaaGreatDoor
open Go.RowKit Go.Deep
set_option linter.unusedVariables false
set_option maxRecDepth 100000

theorem oneSl {a : Option Addr} {n c : Nat} : ∀ u ∈ [Value.slice a n c], u.oneCell' = true := fun u hu => by
 simp at hu; subst hu; rfl
theorem field_C (a : Option Addr) (n ca : Nat) (c : Option Addr) (m cc : Nat) (K : Int) (W : World) : (Instr.field 98 (formV a n ca c m cc K) 0).run Tryz.prog W = .ok (.slice a n ca) W := by kernel_rfl
theorem OwnB.grown {W W' : World} {Gp G : Nat} {f : Nat → Bool} {o : Obj} (h : OwnB W Gp f) (hg : (W.alloc o).grownBy W' (some G)) (hne : Gp ≠ G) : OwnB W' Gp f := by
 obtain ⟨cur, hc, hv⟩ := h
 exact ⟨cur, (hc.alloc o).grew hg (by simpa using fun e => hne e.symm), hv⟩
/-- Rows that were made since n0; they read on whatever becomes of what is older, and of block G. -/
structure JQ (n0 Gr cr G : Nat) (xs : List Value) (rs : List RowM) (W : World) : Prop where
 o : W.ownsRow n0 106 4 (.slice (some ⟨Gr, 0, none⟩) rs.length cr) rs.length xs
 r : RowsOk W (fun k => k < n0 ∨ k = G) xs rs
 ne : Gr ≠ G
theorem JQ.of {w W : World} {Gr cr G : Nat} {xs : List Value} {rs : List RowM} (j : JR w Gr cr xs rs W) (hG : G < w.heap.size) : JQ w.heap.size Gr cr G xs rs W :=
 ⟨j.o, j.r.map (fun _ _ f => f.mono (fun k hk => Or.inl (by omega))), by have := j.lt; omega⟩
theorem JQ.lt {n0 Gr cr G : Nat} {xs : List Value} {rs : List RowM} {W : World} (j : JQ n0 Gr cr G xs rs W) : n0 ≤ Gr ∧ Gr < W.heap.size := by
 rcases j.o.2 with ⟨h, _⟩ | ⟨g, cap', cur, h, hg, hh, _⟩
 ·cases h
 ·simp only [Value.slice.injEq, Option.some.injEq, Addr.mk.injEq, and_true, true_and] at h
  obtain ⟨rfl, _⟩ := h
  exact ⟨hg, lt_of_block hh⟩
theorem JQ.below {n0 Gr cr G : Nat} {xs : List Value} {rs : List RowM} {W W' : World} (j : JQ n0 Gr cr G xs rs W) (b : Below W.heap.size W W') : JQ n0 Gr cr G xs rs W' :=
 ⟨own_below j.o b, j.r.map (fun _ _ f => f.below b), j.ne⟩
theorem JQ.grown {n0 Gr cr G g : Nat} {xs : List Value} {rs : List RowM} {W W' : World} {o : Obj} (j : JQ n0 Gr cr G xs rs W) (hg : (W.alloc o).grownBy W' (some G)) (hat : g = G ∨ W.heap.size < g) : JQ n0 Gr cr g xs rs W' := by
 have A : Below W.heap.size W (W.alloc o) := (Below.refl _ _).alloc (Nat.le_refl _) _
 have ja := j.below A
 have T : Touch (fun y => y = G) (W.alloc o) W' := ⟨hg.os, hg.tape, hg.output, hg.size, fun z hz hn => hg.block z hz (fun e => hn (by simpa using e))⟩
 refine ⟨own_off ja.o (fun z hz hs => ?_) T, ja.r.map (fun _ _ f => f.grown hg (by rw [World.size_alloc]; omega)), ?_⟩
 ·have hz' : some Gr = some z := hz
  simp only [Option.some.injEq] at hz'
  exact j.ne (by omega)
 ·have := j.lt
  have := j.ne
  omega
theorem pots3_take {k : Nat} (h : k < 3) : pots3.take (k + 1) = pots3.take k ++ [([0, 0, 0] : List Int).set k 1] := by
 match k, h with
 | 0, _ => rfl
 | 1, _ => rfl
 | 2, _ => rfl
theorem partL_len3 {f : Frm} {M : Int} (h : fitX M f) : (partL f.1).length = 3 := by
 rw [part_len]; exact h.1

set_option maxHeartbeats 12800000 in
theorem sboth_any (ad : Option Addr) (N cap : Nat) (ss : List L2V) (w : World) (hN : ss.length = N) (hF : LSG w ad ss) (hok : ss.all L2V.ok = true) (hN4 : N ≤ 4) :
  Calls Tryz.prog 26 #[.slice ad N cap] w fun e w' => ∃ G cG ts nt Gp cp, e = .returned (.tuple #[.slice (some ⟨G, 0, none⟩) nt cG, .slice (some ⟨Gp, 0, none⟩) 3 cp]) ∧ ts.length = nt ∧ JP w G cG ts w' ∧ ts.map IV.x = catP ss ∧ nt ≤ 600000 ∧ OwnB w' Gp (pinsA ss) ∧ w.heap.size ≤ Gp := by
 have HN : Hid (ss.length = N) := hN
 have HOK : Hid (ss.all L2V.ok = true) := hok
 have HF : Hid (LSG w ad ss) := hF
 clear hN hok hF
 obtain ⟨i0, hi, hz0, hz1, hz2⟩ := info_parts Tryz.infoI
 have b0 : Below w.heap.size w ((w.alloc (.cells #[] 23)).alloc (.cells #[.bool false, .bool false, .bool false] 4)) := ((Below.refl _ _).alloc (Nat.le_refl _) _).alloc (by simp) _
 have j0 : JP w w.heap.size 0 [] ((w.alloc (.cells #[] 23)).alloc (.cells #[.bool false, .bool false, .bool false] 4)) := (JP.nil w w (Below.refl _ _)).below ((Below.refl _ _).alloc (Nat.le_refl _) _)
 have p0 : OwnB ((w.alloc (.cells #[] 23)).alloc (.cells #[.bool false, .bool false, .bool false] 4)) (w.heap.size + 1) (pinsA (ss.take 0)) := by
  refine ⟨[.bool false, .bool false, .bool false], ?_, fun v hv => ?_⟩
  ·have := Cel.new (w.alloc (.cells #[] 23)) [.bool false, .bool false, .bool false] 4
   rw [World.size_alloc] at this; exact this
  ·match v, hv with
   | 0, _ => simp [pinsA]
   | 1, _ => simp [pinsA]
   | 2, _ => simp [pinsA]
 go_enter Tryz.func26, Tryz.ntmps26
 go_wp2_with fail
 go_loopw [4, 6] (fun out v wr => ∃ (k G cG : Nat) (ts : List IV), k ≤ 3 ∧ v = .int .i64 k ∧ out = .slice (some ⟨G, 0, none⟩) k cG ∧ ts.length = k ∧ JP w G cG ts wr ∧ ts.map IV.x = pots3.take k ∧ OwnB wr (w.heap.size + 1) (pinsA (ss.take 0)) ∧ w.heap.size + 1 ≠ G) (fun _ v _ => 3 - (intOf v).toNat)
 case atStart => exact ⟨0, _, _, [], by omega, rfl, rfl, rfl, j0, rfl, p0, by omega⟩
 case round =>
  clear j0 p0 b0
  obtain ⟨k, G, cG, ts, hk, rfl, rfl, hl, jp, hx, p, pne⟩ := hrel
  have HL : Hid (ts.length = k) := hl
  have HX : Hid (ts.map IV.x = pots3.take k) := hx
  clear hl hx
  by_cases hlt : k < 3
  ·have hlt' : (k : Int) < 3 := by omega
   have HP : Hid (potC (k : Int) = [0, 0, 0].set k 1) := potC_in _ k rfl (by omega)
   have lG := jp.lt
   go_wp2_with fail
   refine (spot_any _ _).mono ?_
   rintro e w1 ⟨a, n, ca, c, m, cc, B1, B2, rfl, hn, hm, b1, o1, o2, g1, g2, ne⟩
   have hn3 : n = 3 := by rw [← hn, HP.out]; simp
   subst hn3
   have I1 : Ints w1 a 3 (potC (k : Int)) := o1.ints' hn
   have Hne : Hid (∀ b o, a = some ⟨b, o, none⟩ → b ≠ G) := fun b o e => by
    rcases o1 with h | ⟨h, _⟩
    ·rw [h] at hn; cases hn
    ·rw [h] at e
     simp only [Option.some.injEq, Addr.mk.injEq, and_true] at e
     have := g1 (by omega)
     omega
   have jp1 := jp.below b1
   have p1 := p.below b1
   have jo := jp1.o
   rw [HL.out] at jo
   have js := jp1.b.size
   have hfl : ∀ W, (Instr.field 98 (formV a 3 ca c m cc 0) 0).run Tryz.prog W = .ok (.slice a 3 ca) W := fun W => field_C a 3 ca c m cc 0 W
   clear jp p b1 o1 o2 hn hm ne g1 g2
   go_wp2_with (at_builtin; go_must (refine wpList_append_lies _ rfl (.tmp 18) (.tmp 22) 61 rfl w.heap.size 23 i0 _ 1 24 Tryz.underlying61 hi hz0 hz1 hz2 rfl (by decide) _ _ _ rfl (jo.alloc _) ⟨w1.heap.size, 0, none⟩ 1 1 [.slice a 3 ca] rfl rfl (news1 w1 _ _) oneSl (by omega) (by unfold maxLen; omega) (by omega) (by rw [World.size_alloc]; omega) _ rfl ?_); intro g cp2 w2 hown hgrow hat hlt1)
   have hat' : g = G ∨ w1.heap.size ≤ g := by
    rcases hat with h | h
    ·have h' : some G = some g := h
     simp only [Option.some.injEq] at h'
     exact Or.inl h'.symm
    ·rw [World.size_alloc] at h
     exact Or.inr (by omega)
   have jp2 := jp1.app (s := ⟨a, 3, ca, potC (k : Int)⟩) HL.out rfl I1 Hne.out hown hgrow hat'
   have lp1 := p1.lt
   have p2 := p1.grown hgrow pne
   have pne2 : w.heap.size + 1 ≠ g := by omega
   have HX2 : Hid ((ts ++ [(⟨a, 3, ca, potC (k : Int)⟩ : IV)]).map IV.x = pots3.take (k + 1)) := by
    show _ = _
    rw [List.map_append, HX.out, pots3_take hlt, ← HP.out]; rfl
   have HL2 : Hid ((ts ++ [(⟨a, 3, ca, potC (k : Int)⟩ : IV)]).length = k + 1) := by show _ = _; rw [List.length_append, HL.out]; rfl
   clear hown hgrow hat jo jp1 p1 I1 Hne
   go_wp2
   go_roundw
   case rel => exact ⟨k + 1, g, cp2, _, by omega, by go_num, rfl, HL2.out, jp2, HX2.out, p2, pne2⟩
   case measure => simp [intOf]; omega
  ·obtain rfl : k = 3 := by omega
   have HX3 : Hid (ts.map IV.x = actsP pots3 (ss.take 0)) := HX.out
   have hb3 := jp.b
   clear HX
   go_wp2_with fail
   go_loopw [4, 5, 7, 8, 9, 10, 11] (fun out pins i _ _ _ _ wr => ∃ (ia G cG nt Gp cp : Nat) (ts : List IV), ia ≤ N ∧ i = .int .i64 ia ∧ out = .slice (some ⟨G, 0, none⟩) nt cG ∧ pins = .slice (some ⟨Gp, 0, none⟩) 3 cp ∧ ts.length = nt ∧ nt ≤ 3 + 128000 * ia ∧ JP w G cG ts wr ∧ ts.map IV.x = actsP pots3 (ss.take ia) ∧ OwnB wr Gp (pinsA (ss.take ia)) ∧ w.heap.size ≤ Gp ∧ Gp ≠ G) (fun _ _ i _ _ _ _ _ => N - (intOf i).toNat)
   case atStart => exact ⟨0, G, cG, 3, w.heap.size + 1, 3, ts, by omega, rfl, rfl, rfl, HL.out, by omega, jp, HX3.out, p, by omega, pne⟩
   case round =>
    clear jp p pne HX3 HL hb3 hlt hk
    obtain ⟨ia, G, cG, nt, Gp, cp, ts, hia, rfl, rfl, rfl, hl, hnt, jp, hx, p, lGp, pne⟩ := hrel
    have HL : Hid (ts.length = nt) := hl
    have HX : Hid (ts.map IV.x = actsP pots3 (ss.take ia)) := hx
    clear hl hx
    by_cases hlt : ia < N
    ·have hlt' : (ia : Int) < N := by omega
     have his : ia < ss.length := by rw [HN.out]; exact hlt
     obtain ⟨ab, ao, rfl, hc, hLG⟩ := (HF.out.below jp.b) ia his
     have HSA : Hid (∀ ps, ps = actsP pots3 (ss.take ia) → rowsP ps (rowsL (ss[ia]?.getD noL).x) = actsP pots3 (ss.take (ia + 1))) := fun ps h => by rw [h, actsP_snoc _ _ _ his]
     have HSB : Hid (∀ v, pinsA (ss.take (ia + 1)) v = (pinsA (ss.take ia) v || readsR (rowsL (ss[ia]?.getD noL).x) v)) := fun v => pinsA_snoc ss ia his v
     have hsok : (ss[ia]?.getD noL).ok = true := by
      rw [List.getElem?_eq_getElem his]
      exact List.all_eq_true.1 HOK.out _ (List.getElem_mem his)
     obtain ⟨s, hs⟩ : ∃ s, s = ss[ia]?.getD noL := ⟨_, rfl⟩
     rw [← hs] at hc hLG HSA HSB hsok
     obtain ⟨sa, sn, sc, sx⟩ := s
     have hAct : actB sn sx = true := hsok
     obtain ⟨hxl, hLin, hsn⟩ := hLG
     have hc' : wr.cell? ⟨ab, ao + ia, none⟩ = some (.slice sa sn sc) := hc
     have HXL : Hid (sx.length = sn) := hxl
     have HLIN : Hid (LinesG wr sa sx) := hLin
     have lG := jp.lt
     clear hs hc hsok hxl hLin
     have HAC : Hid (actB sn sx = true) := hAct
     clear hAct
     go_wp2_with fail
     refine (srows_any _ _ _ sx _ HXL.out HLIN.out hsn).mono ?_
     rw [show rowsB sn sx = rowsL sx from by rw [rowsB, HAC.out]; rfl]
     rintro ee w3 ⟨Gr, cr, xs, rfl, j3⟩
     have HFIT : Hid (∀ r ∈ rowsL sx, RowFit r) := rowsL_fit (by rw [HXL.out]; exact (actB_parts HAC.out).1) (actB_parts HAC.out).2 HLIN.out
     have jq3 : JQ wr.heap.size Gr cr G xs (rowsL sx) w3 := JQ.of j3 lG.2
     have p3 := p.below j3.b
     have jp3 := jp.below j3.b
     obtain ⟨R, hR⟩ : ∃ R, R = rowsL sx := ⟨_, rfl⟩
     have HSA' : Hid (∀ ps, ps = actsP pots3 (ss.take ia) → rowsP ps R = actsP pots3 (ss.take (ia + 1))) := fun ps h => by rw [hR]; exact HSA.out ps h
     have HSB' : Hid (∀ v, pinsA (ss.take (ia + 1)) v = (pinsA (ss.take ia) v || readsR R v)) := fun v => by rw [hR]; exact HSB.out v
     have q1 : R.length ≤ 128 := by rw [hR]; exact goW_128 (by omega)
     rw [← hR] at jq3 HFIT ⊢
     obtain ⟨n0, hn0⟩ : ∃ n0, n0 = wr.heap.size := ⟨_, rfl⟩
     rw [← hn0] at jq3
     obtain ⟨PS, hPS⟩ : ∃ PS, PS = actsP pots3 (ss.take ia) := ⟨_, rfl⟩
     obtain ⟨PB, hPB⟩ : ∃ PB, PB = pinsA (ss.take ia) := ⟨_, rfl⟩
     obtain ⟨pinK, hpin⟩ : ∃ pinK : Nat → Nat → Bool, pinK = fun k v => PB v || readsR (R.take k) v := ⟨_, rfl⟩
     have HPK : Hid (pinK = fun k v => PB v || readsR (R.take k) v) := hpin
     have p4 : OwnB w3 Gp (pinK 0) := p3.ext (fun v _ => by rw [hpin, hPB]; simp [readsR])
     have HX0 : Hid (ts.map IV.x = rowsP PS (R.take 0)) := by show _ = _; rw [HX.out, hPS]; rfl
     have HSA2 : Hid (rowsP PS R = actsP pots3 (ss.take (ia + 1))) := HSA'.out PS hPS
     have HSB2 : Hid (∀ v, pinsA (ss.take (ia + 1)) v = pinK R.length v) := fun v => by rw [HSB'.out v, hpin, hPB]; dsimp only; rw [List.take_of_length_le (Nat.le_refl _)]
     clear j3 hR HSA HSB HSA' HSB' hn0 hPS hPB hpin p p3 jp HX HLIN HXL HAC hc'
     go_wp2_with fail
     go_loopw [4, 5, 9, 10, 11] (fun out pins i _ _ wr => ∃ (k G cG nt Gp cp : Nat) (ts : List IV), k ≤ R.length ∧ i = .int .i64 k ∧ out = .slice (some ⟨G, 0, none⟩) nt cG ∧ pins = .slice (some ⟨Gp, 0, none⟩) 3 cp ∧ ts.length = nt ∧ nt ≤ 3 + 128000 * ia + 1000 * k ∧ JP w G cG ts wr ∧ ts.map IV.x = rowsP PS (R.take k) ∧ OwnB wr Gp (pinK k) ∧ w.heap.size ≤ Gp ∧ Gp ≠ G ∧ JQ n0 Gr cr G xs R wr) (fun _ _ i _ _ _ => R.length - (intOf i).toNat)
     case atStart => exact ⟨0, G, cG, nt, Gp, cp, ts, by omega, rfl, rfl, rfl, HL.out, by omega, jp3, HX0.out, p4, lGp, pne, jq3⟩
     case round =>
      clear jp3 p4 pne HX0 HL jq3 hnt lGp lG
      obtain ⟨k, Go, cGo, nt, G, cG, ts, hk, rfl, rfl, rfl, hl, hnt, jp, hx, o, lGp, pne, j⟩ := hrel
      have HL : Hid (ts.length = nt) := hl
      have HX : Hid (ts.map IV.x = rowsP PS (R.take k)) := hx
      have hb := jp.b
      clear hl hx
      by_cases hlt3 : k < R.length
      ·have hlt3' : (k : Int) < R.length := by omega
       obtain ⟨ga, gc, aa, ac, ta, tc, x0, x1, x2, x3, f0, f1, f2⟩ := j.r k hlt3
       have HSP : Hid (∀ v, pinK (k + 1) v = readsF (readsF (pinK k) (R[k]?.getD noR).adds) (R[k]?.getD noR).tells v) := fun v => by
        rw [HPK.out]
        show (PB v || readsR (R.take (k + 1)) v) = _
        rw [readsR_snoc R k hlt3 v]
        simp [readsF, Bool.or_assoc]
       have HSG : Hid (∀ ps, ps = rowsP PS (R.take k) → guardsP ps (R[k]?.getD noR).guards = rowsP PS (R.take (k + 1))) := fun ps h => by rw [h, rowsP_snoc _ _ _ hlt3]
       have hfit : RowFit (R[k]?.getD noR) := HFIT.out _ (by rw [List.getElem?_eq_getElem hlt3]; exact List.getElem_mem hlt3)
       have HRK : Hid (∀ W, JQ n0 Gr cr Go xs R W → True) := fun _ _ => trivial
       obtain ⟨q, hq⟩ : ∃ q, q = R[k]?.getD noR := ⟨_, rfl⟩
       have HQ : Hid (q = R[k]?.getD noR) := hq
       rw [← hq] at x0 x1 x2 x3 f0 f1 f2 HSP HSG hfit
       have HA : Hid _ := hfit.a
       have HTt : Hid _ := hfit.t
       have HGf : Hid _ := hfit.g
       have la := hfit.la
       have lt := hfit.lt
       have lgq := hfit.lg
       have sl := j.o.1
       have n1 := (own_cell j.o (k * 4 + 1) (by omega)).trans x1
       have n2 := (own_cell j.o (k * 4 + 2) (by omega)).trans x2
       have lGr := j.lt
       have FA := f1.at
       have FT := f2.at
       have KP : Hid (∀ W, Below wr.heap.size wr W → (W.cell? ⟨Gr, k * 4 + 1, none⟩ = some (.slice aa q.adds.length ac) ∧ W.cell? ⟨Gr, k * 4 + 2, none⟩ = some (.slice ta q.tells.length tc))) := fun W hW => ⟨(hW.cell (p := ⟨Gr, k * 4 + 1, none⟩) lGr.2).trans n1, (hW.cell (p := ⟨Gr, k * 4 + 2, none⟩) lGr.2).trans n2⟩
       have e0 : Below wr.heap.size wr wr.drew := (Below.refl _ _).drew
       have hSS := And.intro (KP.out _ e0) (True.intro)
       have lGo := jp.lt
       clear hfit x0 x1 x2 x3 f0 f1 f2 hq
       go_upto_region 14 with fail
       refine wp_region_ends (fun w' => w'.cell? ⟨Gr, k * 4 + 1, none⟩ = some (.slice aa q.adds.length ac) ∧ w'.cell? ⟨Gr, k * 4 + 2, none⟩ = some (.slice ta q.tells.length tc)) (fun _ => True) 13 (by kernel_rfl) ?_
       refine wpAnyE_take0 (i := 0) (v := ?v0) rfl (by kernel_rfl) (by kernel_rfl) (by kernel_rfl) (by decide) (fun _ _ _ h => h) (Or.inl ⟨by rfl, ?hy0⟩) hSS ?_
       case hy0 => (intro wz hSw; (try dsimp only at hSw); go_simp; try (with_reducible rfl))
       refine wpAnyE_take0 (i := 1) (v := ?v1) rfl (by kernel_rfl) (by kernel_rfl) (by kernel_rfl) (by decide) (fun _ _ _ h => h) (Or.inl ⟨by rfl, ?hy1⟩) hSS ?_
       case hy1 => (intro wz hSw; (try dsimp only at hSw); go_simp; try (with_reducible rfl))
       refine wpAnyE_take0 (i := 2) (v := ?v2) rfl (by kernel_rfl) (by kernel_rfl) (by kernel_rfl) (by decide) (fun _ _ _ h => h) (Or.inl ⟨by rfl, ?hy2⟩) hSS ?_
       case hy2 => (intro wz hSw; (try dsimp only at hSw); go_simp; try (with_reducible rfl))
       refine wpAnyE_take0 (i := 3) (v := ?v3) rfl (by kernel_rfl) (by kernel_rfl) (by kernel_rfl) (by decide) (fun _ _ _ h => h) (Or.inl ⟨by rfl, ?hy3⟩) hSS ?_
       case hy3 => (intro wz hSw; (try dsimp only at hSw); go_simp; try (with_reducible rfl))
       refine wpAnyE_take0 (i := 4) (v := ?v4) rfl (by kernel_rfl) (by kernel_rfl) (by kernel_rfl) (by decide) (fun _ _ _ h => h) (Or.inl ⟨by rfl, ?hy4⟩) hSS ?_
       case hy4 => (intro wz hSw; (try dsimp only at hSw); go_simp; try (with_reducible rfl))
       refine wpAnyE_take0 (i := 5) (v := ?v5) rfl (by kernel_rfl) (by kernel_rfl) (by kernel_rfl) (by decide) (fun _ _ _ h => h) (Or.inl ⟨by rfl, ?hy5⟩) hSS ?_
       case hy5 => (intro wz hSw; (try dsimp only at hSw); go_simp; try (with_reducible rfl))
       refine wpAnyE_take0 (i := 7) (v := ?v7) rfl (by kernel_rfl) (by kernel_rfl) (by kernel_rfl) (by decide) (fun _ _ _ h => h) (Or.inl ⟨by rfl, ?hy7⟩) hSS ?_
       case hy7 => (intro wz hSw; (try dsimp only at hSw); go_simp; try (with_reducible rfl))
       refine wpAnyE_take0 (i := 8) (v := ?v8) rfl (by kernel_rfl) (by kernel_rfl) (by kernel_rfl) (by decide) (fun _ _ _ h => h) (Or.inl ⟨by rfl, ?hy8⟩) hSS ?_
       case hy8 => (intro wz hSw; (try dsimp only at hSw); go_simp; try (with_reducible rfl))
       refine wpAnyE_take0 (i := 9) (v := ?v9) rfl (by kernel_rfl) (by kernel_rfl) (by kernel_rfl) (by decide) (fun _ _ _ h => h) (Or.inl ⟨by rfl, ?hy9⟩) hSS ?_
       case hy9 => (intro wz hSw; (try dsimp only at hSw); go_simp; try (with_reducible rfl))
       refine wpAnyE_take0 (i := 10) (v := ?v10) rfl (by kernel_rfl) (by kernel_rfl) (by kernel_rfl) (by decide) (fun _ _ _ h => h) (Or.inl ⟨by rfl, ?hy10⟩) hSS ?_
       case hy10 => (intro wz hSw; (try dsimp only at hSw); go_simp; try (with_reducible rfl))
       refine wpAnyE_take0 (i := 11) (v := ?v11) rfl (by kernel_rfl) (by kernel_rfl) (by kernel_rfl) (by decide) (fun _ _ _ h => h) (Or.inl ⟨by rfl, ?hy11⟩) hSS ?_
       case hy11 => (intro wz hSw; (try dsimp only at hSw); go_simp; try (with_reducible rfl))
       clear hSS
       refine wpAnyE_one (i := 6) (by kernel_rfl) rfl (fun K hK => ?_)
       go_simp
       refine (sreads_any _ _ _ _ _ _ q.adds _ (o.bools.below e0) rfl (FA.keep e0) HA.out (by omega)).mono ?_
       rintro ee w4 ⟨G4, c4, rfl, bd4, l4, o4⟩
       have b4 := below_of_drew bd4
       have l4x : wr.heap.size ≤ G4 := l4
       clear bd4 l4
       (try dsimp only)
       refine hK.out _ _ ⟨KP.out _ b4, fun _ => trivial⟩ ?_
       clear hK K
       refine wpAnyE_one (i := 12) (by kernel_rfl) rfl (fun K hK => ?_)
       go_simp
       refine (sreads_any _ _ _ _ _ _ q.tells _ o4.bools rfl (FT.keep b4) HTt.out (by omega)).mono ?_
       rintro ee w5 ⟨G5, c5, rfl, bd5, l5, o5⟩
       have b5 := b4.trans (bd5.mono b4.size)
       have s4 := b4.size
       have sb := hb.size
       have O5 : Hid (OwnB w5 G5 (pinK (k + 1))) := o5.ext (fun v _ => (HSP.out v).symm)
       have J5 := j.below b5
       have P5 := jp.below b5
       have B5 := hb.trans (b5.mono hb.size)
       clear bd5 o4 o5 o j jp
       (try dsimp only)
       refine hK.out _ _ ⟨KP.out _ b5, fun _ => trivial⟩ ?_
       clear hK K
       refine wpAnyE_one (i := 13) (by kernel_rfl) rfl (fun K hK => ?_)
       go_simp
       refine hK.out _ _ ⟨KP.out _ b5, fun _ => trivial⟩ ?_
       clear hK K
       refine wpAnyE_done (by kernel_rfl) ?_ _
       clear KP b4 b5 FA FT n1 n2
       have pne5 : G5 ≠ Go := by omega
       have lG5 : w.heap.size ≤ G5 := by omega
       obtain ⟨PG, hPG⟩ : ∃ PG, PG = rowsP PS (R.take k) := ⟨_, rfl⟩
       have HSG2 : Hid (guardsP PG q.guards = rowsP PS (R.take (k + 1))) := HSG.out PG hPG
       have HXG : Hid (ts.map IV.x = guardsP PG (q.guards.take 0)) := by show _ = _; rw [HX.out, hPG]; rfl
       obtain ⟨NG, hNG⟩ : ∃ NG, NG = q.guards.length := ⟨_, rfl⟩
       have HNG : Hid (NG = q.guards.length) := hNG
       rw [← hNG] at lgq
       clear hPG HSG HX HSP hNG hb lGp pne sl lGr lGo e0
       go_wp2_with fail
       go_loopw [4, 10, 11] (fun out i _ wr => ∃ (g G cG nt : Nat) (ts : List IV), g ≤ NG ∧ i = .int .i64 g ∧ out = .slice (some ⟨G, 0, none⟩) nt cG ∧ ts.length = nt ∧ nt ≤ 3 + 128000 * ia + 1000 * k + g ∧ JP w G cG ts wr ∧ ts.map IV.x = guardsP PG (q.guards.take g) ∧ OwnB wr G5 (pinK (k + 1)) ∧ G5 ≠ G ∧ JQ n0 Gr cr G xs R wr) (fun _ i _ _ => NG - (intOf i).toNat)
       case atStart => exact ⟨0, Go, cGo, nt, ts, by omega, rfl, rfl, HL.out, by omega, P5, HXG.out, O5.out, pne5, J5⟩
       case round =>
        clear O5 P5 J5 HXG HL pne5 hnt B5 l5 s4 sb
        obtain ⟨g, G, cG, nt, ts, hg, rfl, rfl, hl, hnt, jp, hx, o, pne, j⟩ := hrel
        have HL : Hid (ts.length = nt) := hl
        have HX : Hid (ts.map IV.x = guardsP PG (q.guards.take g)) := hx
        clear hl hx
        obtain ⟨ga, gc, aa, ac, ta, tc, x0, x1, x2, x3, f0, f1, f2⟩ := j.r k hlt3
        rw [← HQ.out] at x0 f0
        have sl := j.o.1
        have n0' := (own_cell j.o (k * 4) (by omega)).trans x0
        rw [← HNG.out] at n0'
        have lGr := j.lt
        have lG := jp.lt
        by_cases hlt4 : g < NG
        ·have hlt4' : (g : Int) < NG := by omega
         have hgl : g < q.guards.length := by rw [← HNG.out]; exact hlt4
         have HSX : Hid (guardsP PG (q.guards.take (g + 1)) = addPb (guardsP PG (q.guards.take g)) (partL (q.guards[g]?.getD ([], [], 0)).1)) := guardsP_snoc PG q.guards g hgl
         have hl3 : (partL (q.guards[g]?.getD ([], [], 0)).1).length = 3 := partL_len3 (HGf.out g hgl)
         obtain ⟨fb, fo, rfl, a', c', ca, cc, c0, c1, c2, iC, iD⟩ := f0.at g hgl
         generalize (q.guards[g]?.getD ([], [], 0)).1 = C at *
         generalize (q.guards[g]?.getD ([], [], 0)).2.2 = kz at *
         have HPL : Hid ((partL C).length = 3) := hl3
         clear f0 f1 f2 x0 x1 x2 x3 iD hl3
         go_wp2_with fail
         refine (spart_new _ 3 _ _ 2 _ _ C _ iC (by omega)).mono ?_
         rintro ee w6 ⟨pa, pc, rfl, b6, i6, l6⟩
         have jp6 := jp.below b6
         have o6 := o.below b6
         have j6 := j.below b6
         have HL6 : Hid (∀ b o, pa = some ⟨b, o, none⟩ → b ≠ G) := fun b o e => by have := (l6 b o e).1; omega
         clear jp o j b6 iC c0 c1 c2 n0' l6 lG lGr
         go_wp2_with fail
         refine (shas_any _ nt cG ts _ 3 _ (partL C) _ HL.out jp6.g (by omega) i6 (by omega)).mono ?_
         rintro ee w7 ⟨rfl, b7⟩
         have jp7 := jp6.below b7
         have o7 := o6.below b7
         have j7 := j6.below b7
         have i7 := i6.below b7
         obtain ⟨hv, hhv⟩ : ∃ hv, hv = hasI ts (partL C) := ⟨_, rfl⟩
         have HV : Hid (hv = hasFrom (partL C) 0 (guardsP PG (q.guards.take g))) := by show _ = _; rw [hhv, hasI, HX.out]
         rw [← hhv]
         clear jp6 o6 j6 i6 b7 hhv
         by_cases hneg : hv < 0
         ·go_wp2_with fail
          refine (szero_any _).mono ?_
          rintro ee w8 ⟨B1, B2, rfl, b8, y1, y12, y2, k1, k2⟩
          have hfl : ∀ W, (Instr.field 98 (formV (some ⟨B1, 0, none⟩) 3 3 (some ⟨B2, 0, none⟩) 2 2 0) 0).run Tryz.prog W = .ok (.slice (some ⟨B1, 0, none⟩) 3 3) W := fun W => field_C _ _ _ _ _ _ _ W
          have jp8 := jp7.below b8
          have o8 := o7.below b8
          have j8 := j7.below b8
          have i8 := i7.below b8
          clear jp7 o7 j7 i7 b8 y1 y12 y2 k2
          go_wp2_with fail
          refine (l4same_any _ _ 3 3 _ _ (partL C) [0, 0, 0] _ i8 (k1.ints' rfl) (by omega) (by omega)).mono ?_
          rintro ee w9 ⟨rfl, b9⟩
          have jp9 := jp8.below b9
          have o9 := o8.below b9
          have j9 := j8.below b9
          have i9 := i8.below b9
          clear jp8 o8 j8 i8 b9 k1 hfl
          cases hz : eqB (partL C) [0, 0, 0]
          ·have HNZ : Hid (partL C ≠ [0, 0, 0]) := fun e => by rw [e] at hz; simp [eqB] at hz
           have jo := jp9.o
           rw [HL.out] at jo
           have js := jp9.b.size
           have lo9 := o9.lt
           clear hz
           go_wp2_with (at_builtin; go_must (refine wpList_append_lies _ rfl (.tmp 84) (.tmp 86) 61 rfl w.heap.size 23 i0 _ 1 24 Tryz.underlying61 hi hz0 hz1 hz2 rfl (by decide) _ _ _ rfl (jo.alloc _) ⟨w9.heap.size, 0, none⟩ 1 1 [.slice pa 3 pc] rfl rfl (news1 w9 _ _) oneSl (by omega) (by unfold maxLen; omega) (by omega) (by rw [World.size_alloc]; omega) _ rfl ?_); intro gg cp2 w10 hown hgrow hat hlt1)
           have hat' : gg = G ∨ w9.heap.size < gg := by
            rcases hat with h | h
            ·have h' : some G = some gg := h
             simp only [Option.some.injEq] at h'
             exact Or.inl h'.symm
            ·rw [World.size_alloc] at h
             exact Or.inr (by omega)
           have jp10 := jp9.app (s := ⟨pa, 3, pc, partL C⟩) HL.out rfl i9 HL6.out hown hgrow (by omega)
           have o10 := o9.grown hgrow pne
           have j10 := j9.grown hgrow hat'
           have HXa : Hid ((ts ++ [(⟨pa, 3, pc, partL C⟩ : IV)]).map IV.x = guardsP PG (q.guards.take (g + 1))) := by
            show _ = _
            rw [List.map_append, HX.out, HSX.out, addP_new (by rw [← HV.out]; exact hneg) HNZ.out]; rfl
           have HLa : Hid ((ts ++ [(⟨pa, 3, pc, partL C⟩ : IV)]).length = nt + 1) := by show _ = _; rw [List.length_append, HL.out]; rfl
           have pne10 : G5 ≠ gg := by omega
           clear hown hgrow hat jo jp9 o9 j9 i9 HL6 HNZ
           go_wp2
           go_roundw
           case rel => exact ⟨g + 1, gg, cp2, nt + 1, _, by omega, by go_num, rfl, HLa.out, by omega, jp10, HXa.out, o10, pne10, j10⟩
           case measure => simp [intOf]; omega
          ·have HXa : Hid (ts.map IV.x = guardsP PG (q.guards.take (g + 1))) := by
            show _ = _
            rw [HX.out, HSX.out, addP_zero (by simpa [eqB] using hz)]
           clear hz HX
           go_wp2
           go_roundw
           case rel => exact ⟨g + 1, G, cG, nt, ts, by omega, by go_num, rfl, HL.out, by omega, jp9, HXa.out, o9, pne, j9⟩
           case measure => simp [intOf]; omega
         ·have HXa : Hid (ts.map IV.x = guardsP PG (q.guards.take (g + 1))) := by
           show _ = _
           rw [HX.out, HSX.out, addP_has (by rw [← HV.out]; exact hneg)]
          clear HX
          go_wp2
          go_roundw
          case rel => exact ⟨g + 1, G, cG, nt, ts, by omega, by go_num, rfl, HL.out, by omega, jp7, HXa.out, o7, pne, j7⟩
          case measure => simp [intOf]; omega
        ·obtain rfl : g = NG := by omega
         have HXe : Hid (ts.map IV.x = rowsP PS (R.take (k + 1))) := by
          show _ = _
          rw [HX.out, List.take_of_length_le (by rw [← HNG.out]; exact Nat.le_refl _), HSG2.out]
         clear f0 f1 f2 x0 x1 x2 x3 HX
         go_wp2
         go_roundw
         case rel => exact ⟨k + 1, G, cG, nt, G5, c5, ts, by omega, by go_num, rfl, rfl, HL.out, by omega, jp, HXe.out, o, lG5, pne, j⟩
         case measure => simp [intOf]; omega
      ·obtain rfl : k = R.length := by omega
       have HXe : Hid (ts.map IV.x = actsP pots3 (ss.take (ia + 1))) := by
        show _ = _
        rw [HX.out, List.take_of_length_le (Nat.le_refl _), HSA2.out]
       have oe : OwnB wr G (pinsA (ss.take (ia + 1))) := o.ext (fun v _ => (HSB2.out v).symm)
       clear o HX
       go_wp2
       go_roundw
       case rel =>
        refine ⟨_, _, _, _, _, _, _, _, _, _, _, _, _, _, _, _, _, _, _, _, _, _, _, _, _, _, _, _, _, _, _, _, _, _, _, _, _, _, _, _, _, _, _, _, _, _, _, _, _, _, _, _, _, _, _, _, _, _, _, _, _, _, _, _, _, _, _, _, _, _, _, ?_, rfl⟩
        exact ⟨ia + 1, Go, cGo, nt, G, cG, ts, by omega, by go_num, rfl, rfl, HL.out, by omega, jp, HXe.out, oe, lGp, pne⟩
       case measure => simp [intOf]; omega
    ·obtain rfl : ia = N := by omega
     have hall : ss.take ia = ss := List.take_of_length_le (by rw [HN.out]; exact Nat.le_refl _)
     have HXe : Hid (ts.map IV.x = catP ss) := by show _ = _; rw [HX.out, hall]; rfl
     have oe : OwnB wr Gp (pinsA ss) := by rw [hall] at p; exact p
     clear hall p HX
     go_wp2
     go_ret2
     exact ⟨G, cG, ts, nt, Gp, cp, rfl, HL.out, jp, HXe.out, by omega, oe, lGp⟩

end Go.Proofs.YtdigmokjedckeaaGreatDoor
namespace Go.Proofs.YtdigmokjedckeaaGreatDoor
open Go.RowKit Go.Deep
set_option linter.unusedVariables false
set_option maxRecDepth 100000

/-- Bools that can be read. -/
def BA (W : World) (a : Option Addr) (n : Nat) (f : Nat → Bool) : Prop := ∀ j, j < n → ∃ b off, a = some ⟨b, off, none⟩ ∧ W.cell? ⟨b, off + j, none⟩ = some (.bool (f j))
theorem Bools.ba {W : World} {a : Option Addr} {f : Nat → Bool} (h : Bools W a f) : BA W a 3 f := fun j hj => by
 obtain ⟨b, off, e, hc⟩ := h
 exact ⟨b, off, e, hc j hj⟩
theorem OwnBB.ba {W : World} {G : Nat} {f : Nat → Bool} (h : OwnBB W G f) : BA W (some ⟨G, 0, Option.none⟩) 3 f := fun j hj => ⟨G, 0, rfl, by rw [Nat.zero_add]; exact (h.at hj).1⟩
theorem BA.below {W W' : World} {a : Option Addr} {n : Nat} {f : Nat → Bool} (h : BA W a n f) (b : Below W.heap.size W W') : BA W' a n f := fun j hj => by
 obtain ⟨b0, off, e, hc⟩ := h j hj
 exact ⟨b0, off, e, (b.cell (p := ⟨b0, off + j, Option.none⟩) (block_lt hc)).trans hc⟩
end Go.Proofs.YtdigmokjedckeaaGreatDoor
namespace Go.Proofs.YtdigmokjedckeaaGreatDoor
open Go.RowKit Go.Deep
set_option linter.unusedVariables false
set_option maxRecDepth 100000

theorem catB_parts {N : Nat} {ss : List L2V} (h : catB N ss = true) : N ≤ 4 ∧ ss.all L2V.ok = true := by
 simp only [catB, Bool.and_eq_true] at h
 have := inB_iff.1 h.1
 exact ⟨by omega, h.2⟩

set_option maxHeartbeats 3200000 in
theorem icatpins_any (ad : Option Addr) (N cap : Nat) (ss : List L2V) (w : World) (hN : ss.length = N) (hF : LSG w ad ss) (hN1 : N ≤ 1048576) :
  Calls Tryz.prog 77 #[.slice ad N cap] w fun e w' => Below w.heap.size w w' ∧ ((catB N ss = false ∧ e = .returned (.slice none 0 0)) ∨ (catB N ss = true ∧ ∃ G cG, e = .returned (.slice (some ⟨G, 0, none⟩) 3 cG) ∧ w.heap.size ≤ G ∧ OwnBB w' G (pinsA ss))) := by
 have HN : Hid (ss.length = N) := hN
 have HF : Hid (LSG w ad ss) := hF
 clear hN
 obtain ⟨u, hu⟩ : ∃ u, catB N ss = u := ⟨_, rfl⟩
 have HU : Hid (catB N ss = u) := hu
 go_enter Tryz.func77, Tryz.ntmps77
 go_wp2_with fail
 refine (icat_any _ _ _ ss _ HN.out hF hN1).mono ?_
 rintro e w1 ⟨rfl, b1⟩
 rw [hu]
 clear hu hF
 cases u with
 | false =>
  go_wp2
  go_ret
  exact ⟨b1, .inl ⟨HU.out, rfl⟩⟩
 | true =>
  obtain ⟨i0, hi, hz0, hz1, hz2⟩ := info_parts Tryz.infoBool
  obtain ⟨w2, hrun, o2, g2⟩ := run_make_full (P := Tryz.prog) (w := w1) w1.heap.size 62 4 i0 (.bool false) 1 Tryz.underlying62 hi hz0 hz1 .i64 .i64 3 (by rw [hz2]; omega) (by unfold maxLen; omega) (Nat.le_refl _)
  have hrun' : (Instr.makeSlice 62 (.int .i64 3) (.int .i64 3)).run Tryz.prog w1 = .ok (.slice (some ⟨w1.heap.size, 0, none⟩) 3 3) w2 := hrun
  have b2 : Below w1.heap.size w1 w2 := (Below.refl _ _).grown g2 (Nat.le_refl _) (by simp)
  have O2 : OwnBB w2 w1.heap.size (pinsA (ss.take 0)) := by
   rcases o2.2 with ⟨e, _⟩ | ⟨g, cp, cur, hv, hg, hh, hl, hc, hs, ht⟩
   ·cases e
   ·cases hv
    have hl3 : cur.toList.length = 3 := by rw [Array.length_toList]; omega
    rw [List.take_of_length_le (by omega)] at ht
    have : cur = #[.bool false, .bool false, .bool false] := by
     apply Array.toList_inj.1
     rw [ht]; simpa [Value.cells] using toList_madeCells_one (.bool false) 3
    rw [this] at hh
    exact hh
  have B2 := b1.trans (b2.mono b1.size)
  have lG0 := b1.size
  have N4 := (catB_parts HU.out).1
  have HALL : Hid (ss.all L2V.ok = true) := (catB_parts HU.out).2
  obtain ⟨G, hG⟩ : ∃ G, G = w1.heap.size := ⟨_, rfl⟩
  rw [← hG] at O2 lG0 hrun'
  clear hrun o2 g2 b1 b2 hG
  go_wp2_with fail
  go_loopw [5, 6, 7, 14] (fun _ _ _ i wr => ∃ k : Nat, k ≤ N ∧ i = .int .i64 k ∧ Below w.heap.size w wr ∧ OwnBB wr G (pinsA (ss.take k))) (fun _ _ _ i _ => N - (intOf i).toNat)
  case atStart => exact ⟨0, Nat.zero_le _, rfl, B2, O2⟩
  case round =>
   clear B2 O2 hrun'
   obtain ⟨k, hk, rfl, hb, o⟩ := hrel
   by_cases hlt : k < N
   ·have hlt' : (k : Int) < N := by omega
    have his : k < ss.length := by rw [HN.out]; exact hlt
    obtain ⟨ab, ao, rfl, hc, hLG⟩ := (HF.out.below hb) k his
    have HSB : Hid (∀ v, pinsA (ss.take (k + 1)) v = (pinsA (ss.take k) v || readsR (rowsL (ss[k]?.getD noL).x) v)) := fun v => pinsA_snoc ss k his v
    have hsok : (ss[k]?.getD noL).ok = true := by
     rw [List.getElem?_eq_getElem his]
     exact List.all_eq_true.1 HALL.out _ (List.getElem_mem his)
    obtain ⟨s, hs⟩ : ∃ s, s = ss[k]?.getD noL := ⟨_, rfl⟩
    rw [← hs] at hc hLG HSB hsok
    obtain ⟨sa, sn, sc, sx⟩ := s
    have hAct : actB sn sx = true := hsok
    obtain ⟨hxl, hLin, hsn⟩ := hLG
    have hc' : wr.cell? ⟨ab, ao + k, none⟩ = some (.slice sa sn sc) := hc
    have HXL : Hid (sx.length = sn) := hxl
    have HLIN : Hid (LinesG wr sa sx) := hLin
    have HAC : Hid (actB sn sx = true) := hAct
    clear hs hc hsok hxl hLin hAct
    go_wp2_with fail
    refine (icatreads_any _ _ _ sx _ HXL.out HLIN.out hsn).mono ?_
    rintro ee w3 ⟨b3, h⟩
    obtain ⟨G3, c3, rfl, lG3, o3⟩ : ∃ G3 c3, ee = .returned (.slice (some ⟨G3, 0, none⟩) 3 c3) ∧ wr.heap.size ≤ G3 ∧ OwnBB w3 G3 (readsR (rowsL sx)) := by
     rcases h with ⟨h, _⟩ | ⟨_, G3, c3, h1, h2, h3⟩
     ·rw [HAC.out] at h; cases h
     ·exact ⟨G3, c3, h1, h2, h3⟩
    have lo : G < wr.heap.size := Cel.lt o
    have hb3 := hb.trans (b3.mono hb.size)
    have oo : OwnBB w3 G (fun v => if v < 0 then pinsA (ss.take (k + 1)) v else pinsA (ss.take k) v) := (o.below b3).ext (fun v hv => by simp)
    obtain ⟨rd, hrd⟩ : ∃ rd, rd = readsR (rowsL sx) := ⟨_, rfl⟩
    have HSB' : Hid (∀ v, pinsA (ss.take (k + 1)) v = (pinsA (ss.take k) v || rd v)) := fun v => by rw [hrd]; exact HSB.out v
    rw [← hrd] at o3
    have ne3 : G ≠ G3 := by omega
    clear h o b3 hb HXL HLIN HAC HSB hrd hc'
    go_wp2_with fail
    go_loopw [6, 7, 21] (fun _ _ i wr => ∃ u : Nat, u ≤ 3 ∧ i = .int .i64 u ∧ Below w.heap.size w wr ∧ OwnBB wr G3 rd ∧ OwnBB wr G (fun v => if v < u then pinsA (ss.take (k + 1)) v else pinsA (ss.take k) v)) (fun _ _ i _ => 3 - (intOf i).toNat)
    case atStart => exact ⟨0, by omega, rfl, hb3, o3, oo⟩
    case round =>
     clear hb3 o3 oo
     obtain ⟨u, hu, rfl, hb, o3, o⟩ := hrel
     by_cases hu3 : u < 3
     ·have hu' : (u : Int) < 3 := by omega
      have r0 := (o3.at hu3).1
      have g0 : wr.cell? ⟨G, u, none⟩ = some (.bool (pinsA (ss.take k) u)) := by
       have := (o.at hu3).1
       simpa using this
      have fz := (o.at hu3).2
      cases hold : pinsA (ss.take k) u
      ·rw [hold] at g0
       have O2 : Hid (OwnBB (wr.setCell ⟨G, u, none⟩ (.bool (rd u))) G (fun v => if v < u + 1 then pinsA (ss.take (k + 1)) v else pinsA (ss.take k) v)) := (o.set hu3 (rd u)).ext (fun v hv => by
        by_cases e : v = u
        ·subst e; simp only [if_true, Nat.lt_succ_self]; rw [HSB'.out, hold]; simp
        ·simp only [e, if_false]
         by_cases e2 : v < u
         ·rw [if_pos e2, if_pos (by omega)]
         ·rw [if_neg e2, if_neg (by omega)])
       have B2 := hb.setCell (p := ⟨G, u, none⟩) (by simpa using lG0) (.bool (rd u))
       have o32 : OwnBB (wr.setCell ⟨G, u, none⟩ (.bool (rd u))) G3 rd := Cel.setOther o3 (by omega) _ _
       clear o o3 hold
       go_wp2
       go_roundw
       case rel => exact ⟨u + 1, by omega, by go_num, B2, o32, O2.out⟩
       case measure => simp [intOf]; omega
      ·rw [hold] at g0
       have O2 : Hid (OwnBB (wr.setCell ⟨G, u, none⟩ (.bool true)) G (fun v => if v < u + 1 then pinsA (ss.take (k + 1)) v else pinsA (ss.take k) v)) := (o.set hu3 true).ext (fun v hv => by
        by_cases e : v = u
        ·subst e; simp only [if_true, Nat.lt_succ_self]; rw [HSB'.out, hold]; simp
        ·simp only [e, if_false]
         by_cases e2 : v < u
         ·rw [if_pos e2, if_pos (by omega)]
         ·rw [if_neg e2, if_neg (by omega)])
       have B2 := hb.setCell (p := ⟨G, u, none⟩) (by simpa using lG0) (.bool true)
       have o32 : OwnBB (wr.setCell ⟨G, u, none⟩ (.bool true)) G3 rd := Cel.setOther o3 (by omega) _ _
       clear o o3 hold
       go_wp2
       go_roundw
       case rel => exact ⟨u + 1, by omega, by go_num, B2, o32, O2.out⟩
       case measure => simp [intOf]; omega
     ·obtain rfl : u = 3 := by omega
      have O3 : Hid (OwnBB wr G (pinsA (ss.take (k + 1)))) := o.ext (fun v hv => by simp only [hv, if_true])
      clear o o3
      go_wp2
      go_roundw
      case rel => exact ⟨k + 1, by omega, by go_num, hb, O3.out⟩
      case measure => simp [intOf]; omega
   ·obtain rfl : k = N := by omega
    have O3 : OwnBB wr G (pinsA ss) := by
     have : ss.take k = ss := List.take_of_length_le (by rw [HN.out]; exact Nat.le_refl _)
     rw [this] at o; exact o
    go_wp2
    go_ret
    exact ⟨hb, .inr ⟨HU.out, G, 3, rfl, lG0, O3⟩⟩

end Go.Proofs.YtdigmokjedckeaaGreatDoor
namespace Go.Proofs.YtdigmokjedckeaaGreatDoor
open Go.RowKit Go.Deep Go.Shelf
set_option linter.unusedVariables false
set_option maxRecDepth 100000
attribute [local go_sem] Oper.semAt_some

section
variable {F : Fence} {n : Nat} {P : Program} {ops : Array Oper} {Q : Exit → Act → World → Prop} {md : Region.Mode} {S : World → Prop}
theorem wpAnyS_two {i j : Nat} {oi oj : Oper} {fuel : Nat} {listed : Array Bool} {a : Act} {w : World} (hr : Region.ready md ops listed = [i, j]) (hi : ops[i]? = some oi) (hj : ops[j]? = some oj)
  (h1 : ∀ K' : Act → World → Prop, Shut (∀ a w, S w → wpAnyS F n P md ops Q S fuel (listed.setIfInBounds i true) a w → K' a w) → if Region.wanted oi (yielded ops a.tmps) = true then Oper.wpIn F n P oi a w K' Q else (∀ f, oi.about P w a.eval = some f → F.fn f) ∧ K' (a.put oi.dst undef) w)
  (h2 : ∀ K' : Act → World → Prop, Shut (∀ a w, S w → wpAnyS F n P md ops Q S fuel (listed.setIfInBounds j true) a w → K' a w) → if Region.wanted oj (yielded ops a.tmps) = true then Oper.wpIn F n P oj a w K' Q else (∀ f, oj.about P w a.eval = some f → F.fn f) ∧ K' (a.put oj.dst undef) w) : wpAnyS F n P md ops Q S (fuel + 1) listed a w := by
 refine ⟨fun h0 => (by rw [hr] at h0; cases h0), fun z hz => ?_⟩
 rw [hr] at hz
 rcases List.mem_cons.1 hz with rfl | hz
 ·exact wpOpIn_step hi (fun K' hK => h1 K' (fun a w hS hW => hK a w ⟨hS, hW⟩))
 ·rcases List.mem_cons.1 hz with rfl | hz
  ·exact wpOpIn_step hj (fun K' hK => h2 K' (fun a w hS hW => hK a w ⟨hS, hW⟩))
  ·cases hz
end
/-- Marks that loops over functions have left. -/
def MkDs (Ds : List Nat) : List Deferred := Ds.map fun D => { target := .collected D, args := #[] }
theorem leaves_marks {F : Fence} {n : Nat} {P : Program} {fn : Func} {tmps : Array Value} {R : Ending → World → Prop} {v : Value} (hres : ∀ W', (results fn tmps).run P W' = .ok v W') : ∀ (Ds : List Nat) (W : World), (∀ D ∈ Ds, W.heap[D]? = some (.deferred (some []))) → Ds.Nodup →
  (∀ W', Touch (fun k => k ∈ Ds) W W' → R (.returned v) W') → LeavesInM F n P fn tmps R (MkDs Ds) .returning W
 | [], W, _, _, hR => ⟨v, hres W, hR W (Touch.refl _ _)⟩
 | D :: Ds, W, hb, hn, hR => by
  refine ⟨by simp, .inl ⟨D, _, rfl, run_takeDeferred (hb D (by simp)), ?_⟩⟩
  obtain ⟨h1, h2⟩ := List.nodup_cons.1 hn
  refine leaves_marks hres Ds _ (fun D' hD' => ?_) h2 (fun W' t => hR W' ?_)
  ·rw [World.putObj_heap_other (fun e => h1 (by rw [← e]; exact hD'))]
   exact hb D' (by simp [hD'])
  ·refine Touch.trans (b := W.putObj D _) ⟨rfl, rfl, rfl, by simp [World.putObj], fun k hk hk2 => World.putObj_heap_other (fun e => hk2 (by simp [e]))⟩ (t.mono (fun k hk => by simp [hk]))
/-- The marks' blocks, all made since. -/
structure MkOk (n0 : Nat) (Ds : List Nat) (W : World) : Prop where
 b : ∀ D ∈ Ds, W.heap[D]? = some (.deferred (some []))
 n : Ds.Nodup
 l : ∀ D ∈ Ds, n0 ≤ D
theorem MkOk.nil (n0 : Nat) (W : World) : MkOk n0 [] W := ⟨fun _ h => by simp at h, List.nodup_nil, fun _ h => by simp at h⟩
theorem MkOk.below {n0 : Nat} {Ds : List Nat} {W W' : World} (h : MkOk n0 Ds W) (b : Below W.heap.size W W') : MkOk n0 Ds W' := ⟨fun D hD => (b.block D (lt_of_block (h.b D hD))).trans (h.b D hD), h.n, h.l⟩
theorem MkOk.touch {S : Nat → Prop} {n0 : Nat} {Ds : List Nat} {W W' : World} (h : MkOk n0 Ds W) (t : Touch S W W') (hS : ∀ k, S k → ∀ o, W.heap[k]? ≠ some (.deferred o)) : MkOk n0 Ds W' := ⟨fun D hD => (t.block D (lt_of_block (h.b D hD)) (fun hs => hS D hs _ (h.b D hD))).trans (h.b D hD), h.n, h.l⟩
theorem MkOk.loop {n0 : Nat} {Ds : List Nat} {W : World} {l : Nat} {r : Loop} {o : Obj} (h : MkOk n0 Ds W) (hl : W.heap[l]? = some (.loop r)) : MkOk n0 Ds (W.putObj l o) := ⟨fun D hD => by
  have hne : D ≠ l := fun e => by
   have := h.b D hD
   rw [e, hl] at this
   cases this
  rw [World.putObj_heap_other hne]; exact h.b D hD, h.n, h.l⟩
theorem OwnM.loop {X : World} {B n l : Nat} {D : DataW Unit} {r : Loop} {o : Obj} (h : OwnM X B n D) (hl : X.heap[l]? = some (.loop r)) : OwnM (X.putObj l o) B n D := by
 obtain ⟨es, clock, hb, q⟩ := h
 have hne : B ≠ l := fun e => by
  rw [e, hl] at hb
  cases hb
 exact ⟨es, clock, by rw [World.putObj_heap_other hne]; exact hb, q⟩
theorem OwnM.obj {X : World} {B n : Nat} {D : DataW Unit} (h : OwnM X B n D) : ∃ es clock, X.heap[B]? = some (.map es clock) := by
 obtain ⟨es, clock, hb, _⟩ := h
 exact ⟨es, clock, hb⟩
theorem OwnM.kpR {X Y : World} {B n : Nat} {D : DataW Unit} (h : OwnM X B n D) (t : Touch (fun k => k = B) X Y) : KpR X Y := t.mono (fun k e => by
 subst e
 obtain ⟨es, clock, hb⟩ := h.obj
 intro cs ty fr he
 rw [hb] at he
 cases he)
theorem addP_len (ps : List (List Int)) (p : List Int) : ps.length ≤ (addPb ps p).length := by
 unfold addPb
 split
 ·exact Nat.le_refl _
 ·simp
theorem guardsP_len (fs : List Frm) : ∀ ps, ps.length ≤ (guardsP ps fs).length := by
 induction fs with
 | nil => intro ps; exact Nat.le_refl _
 | cons f fs ih => intro ps; exact Nat.le_trans (addP_len ps _) (ih _)
theorem rowsP_len (rs : List RowM) : ∀ ps, ps.length ≤ (rowsP ps rs).length := by
 induction rs with
 | nil => intro ps; exact Nat.le_refl _
 | cons r rs ih => intro ps; exact Nat.le_trans (guardsP_len _ ps) (ih _)
theorem actsP_len (ss : List L2V) : ∀ ps, ps.length ≤ (actsP ps ss).length := by
 induction ss with
 | nil => intro ps; exact Nat.le_refl _
 | cons s ss ih => intro ps; exact Nat.le_trans (rowsP_len _ ps) (ih _)
theorem catP_pos (ss : List L2V) : 3 ≤ (catP ss).length := actsP_len ss pots3
/-- A slice of parts, each in a block of its own, all free to be written. -/
structure JO (w : World) (v : Value) (ts : List IV) (bs : Nat → Nat) (W : World) : Prop where
 b : Below w.heap.size w W
 o : W.ownsRow w.heap.size 23 1 v ts.length (ts.map IV.v)
 k : ∀ j, j < ts.length → (ts[j]?.getD noI).n = 3 ∧ OwnX W (ts[j]?.getD noI).a (bs j) 3 (ts[j]?.getD noI).x ∧ w.heap.size ≤ bs j ∧ some (bs j) ≠ v.ownBlock
 d : ∀ i j, i < j → j < ts.length → bs i < bs j
theorem JO.nil (w W : World) (hb : Below w.heap.size w W) (bs : Nat → Nat) : JO w (.slice none 0 0) [] bs W := ⟨hb, World.ownsRow_nil W _ _ _, fun j hj => by simp at hj, fun i j _ hj => by simp at hj⟩
theorem JO.below {w W W' : World} {v : Value} {ts : List IV} {bs : Nat → Nat} (j : JO w v ts bs W) (h : Below W.heap.size W W') : JO w v ts bs W' :=
 ⟨j.b.trans (h.mono j.b.size), by
  refine ⟨j.o.1, ?_⟩
  rcases j.o.2 with h2 | ⟨g, cap, cur, hv, hg, hh, r⟩
  ·exact Or.inl h2
  ·exact Or.inr ⟨g, cap, cur, hv, hg, by rw [h.block g (lt_of_block hh)]; exact hh, r⟩, fun i hi => by obtain ⟨a, b, c, d⟩ := j.k i hi; exact ⟨a, b.below h, c, d⟩, j.d⟩
theorem JO.blk {w W : World} {v : Value} {ts : List IV} {bs : Nat → Nat} (j : JO w v ts bs W) {g : Nat} (h : v.ownBlock = some g) : w.heap.size ≤ g ∧ ∃ cur, W.heap[g]? = some (.cells cur 23 (0, 0)) := by
 rcases j.o.2 with ⟨h', _⟩ | ⟨g', cap, cur, hv, hg, hh, r⟩
 ·rw [h'] at h; simp [Value.ownBlock] at h
 ·rw [hv] at h
  simp only [Value.ownBlock, Option.some.injEq] at h
  subst h
  exact ⟨hg, cur, hh⟩
/-- Blocks that hold no cells may change. -/
theorem JO.past {w W W' : World} {v : Value} {ts : List IV} {bs : Nat → Nat} {S : Nat → Prop} (j : JO w v ts bs W) (t : Touch S W W') (hS : ∀ k, S k → w.heap.size ≤ k ∧ ∀ cs ty fr, W.heap[k]? ≠ some (.cells cs ty fr)) : JO w v ts bs W' := by
 refine ⟨j.b.trans (t.below j.b.size (fun k hk => (hS k hk).1)), ?_, fun i hi => ?_, j.d⟩
 ·refine ⟨j.o.1, ?_⟩
  rcases j.o.2 with h2 | ⟨g, cap, cur, hv, hg, hh, r⟩
  ·exact Or.inl h2
  ·exact Or.inr ⟨g, cap, cur, hv, hg, by rw [t.block g (lt_of_block hh) (fun h => (hS g h).2 _ _ _ hh)]; exact hh, r⟩
 ·obtain ⟨a, b, c, d⟩ := j.k i hi
  refine ⟨a, b.touch t (fun _ h => ?_), c, d⟩
  rcases b.2 with h0 | ⟨_, cur, hc, _⟩
  ·omega
  ·exact (hS _ h).2 _ _ _ hc
theorem JO.app {w W W' : World} {v v' : Value} {ts : List IV} {bs : Nat → Nat} {s : IV} {A k : Nat} {o : Obj} (j : JO w v ts bs W) (hk : ts.length = k) (hs : s.n = 3) (hA : OwnX W s.a A 3 s.x) (hlo : w.heap.size ≤ A) (hnew : ∀ i, i < k → bs i < A) (hne : some A ≠ v.ownBlock)
  (hown : W'.ownsRow w.heap.size 23 1 v' (k + 1) (ts.map IV.v ++ [s.v])) (hg : (W.alloc o).grownBy W' v.ownBlock) (hat : v'.ownBlock = v.ownBlock ∨ v'.ownBlock = some (W.alloc o).heap.size) : JO w v' (ts ++ [s]) (fun i => if i < k then bs i else A) W' := by
 subst hk
 have B1 : Below W.heap.size W (W.alloc o) := (Below.refl _ _).alloc (Nat.le_refl _) _
 have ja := j.below B1
 have hlA := hA.lt (by omega)
 have key : ∀ (a : Option Addr) (X : Nat) (x : List Int), OwnX W a X 3 x → some X ≠ v.ownBlock → OwnX W' a X 3 x ∧ some X ≠ v'.ownBlock := fun a X x h1 h2 => by
  have hl := h1.lt (by omega)
  refine ⟨?_, fun e => ?_⟩
  ·have h3 := h1.below B1
   rcases h3.2 with h0 | ⟨e1, cur, hc, hv⟩
   ·omega
   ·exact ⟨h3.1, .inr ⟨e1, cur, hc.grew hg (fun e => h2 e.symm), hv⟩⟩
  ·rcases hat with h | h
   ·exact h2 (e.trans h)
   ·rw [h, World.size_alloc] at e
    simp only [Option.some.injEq] at e
    omega
 refine ⟨ja.b.grown hg ja.b.size (fun z hz => (j.blk hz).1), by rw [List.length_append, List.map_append]; exact hown, fun i hi => ?_, fun i i' h hi' => ?_⟩
 ·by_cases h : i < ts.length
  ·rw [List.getElem?_append_left h]
   obtain ⟨a, b, c, d⟩ := j.k i h
   simp only [h, if_true]
   obtain ⟨q1, q2⟩ := key _ _ _ b d
   exact ⟨a, q1, c, q2⟩
  ·rw [List.length_append, List.length_singleton] at hi
   obtain rfl : i = ts.length := by omega
   rw [List.getElem?_append_right (Nat.le_refl _), Nat.sub_self]
   simp only [Nat.lt_irrefl, if_false]
   obtain ⟨q1, q2⟩ := key _ _ _ hA hne
   exact ⟨hs, q1, hlo, q2⟩
 ·rw [List.length_append, List.length_singleton] at hi'
  have h1 : i < ts.length := by omega
  simp only [h1, if_true]
  by_cases h2 : i' < ts.length
  ·simp only [h2, if_true]; exact j.d i i' h h2
  ·simp only [h2, if_false]; exact hnew i h1
theorem MkOk.grown {n0 : Nat} {Ds : List Nat} {w W W' : World} {v : Value} {ts : List IV} {bs : Nat → Nat} {o : Obj} (h : MkOk n0 Ds W) (j : JO w v ts bs W) (hg : (W.alloc o).grownBy W' v.ownBlock) : MkOk n0 Ds W' := by
 have h1 := h.below ((Below.refl _ _).alloc (Nat.le_refl _) o)
 refine ⟨fun D hD => ?_, h.n, h.l⟩
 rw [hg.block D (lt_of_block (h1.b D hD)) (fun e => ?_)]
 ·exact h1.b D hD
 ·obtain ⟨_, cur, hh⟩ := j.blk e.symm
  rw [h.b D hD] at hh
  cases hh
theorem Cel.grownKT {w W W' : World} {v : Value} {ts : List IV} {bs : Nat → Nat} {o : Obj} {L : Nat} {cur : List Value} (h : Cel W L cur KT) (j : JO w v ts bs W) (hg : (W.alloc o).grownBy W' v.ownBlock) : Cel W' L cur KT := by
 refine (h.alloc o).grew hg (fun e => ?_)
 obtain ⟨_, c2, hh⟩ := j.blk e
 unfold Cel at h
 rw [h] at hh
 simp only [Option.some.injEq, Obj.cells.injEq] at hh
 exact absurd hh.2.1 (by decide)
theorem pots3_guards : guardsP [] way0.pots = pots3 := by decide +kernel
theorem pot_fit : ∀ k, k < 3 → fitX 10000000 (way0.pots[k]?.getD ([], [], 0)) := fun k hk => (WayOk.start.pf k hk).mono (by have := wb_six (n := 0) (by omega); simp [wb] at *)

set_option maxHeartbeats 6400000 in
theorem icatforms_in (ad : Option Addr) (N cap : Nat) (ss : List L2V) (w : World) (n : Nat) (hN : ss.length = N) (hF : LSG w ad ss) (hN1 : N ≤ 1048576) :
  CallsIn Fence.wide n Tryz.prog 75 #[.slice ad N cap] w fun e w' => Below w.heap.size w w' ∧ ((catB N ss = false ∧ e = .returned (.slice none 0 0)) ∨ (catB N ss = true ∧ ∃ G cG ts bs, e = .returned (.slice (some ⟨G, 0, none⟩) (catP ss).length cG) ∧ ts.map IV.x = catP ss ∧ JO w (.slice (some ⟨G, 0, none⟩) (catP ss).length cG) ts bs w')) := by
 have hdd : ∀ k : Nat, (Fence.wide.depth.isSome = true → 1 ≤ k) := fun k h => by simp [Fence.wide] at h
 have HN : Hid (ss.length = N) := hN
 have HF : Hid (LSG w ad ss) := hF
 have hmm := @run_makeMap Tryz.prog
 refine callsIn_of_wp_marks Tryz.func75 rfl trivial ?_ rfl
 simp only [Tryz.ntmps75, List.size_toArray, List.length_cons, List.length_nil, Nat.reduceAdd, Nat.reduceSub, Array.replicate_succ, Array.replicate_zero, List.push_toArray, List.append_toArray, List.nil_append, List.cons_append]
 gi_wp2_with fail
 refine ⟨trivial, hdd _, (callsIn_wide.2 (icat_any ad N cap ss _ hN hF hN1)).mono ?_⟩
 rintro e w1 ⟨rfl, b1⟩
 obtain ⟨u, hu⟩ : ∃ u, catB N ss = u := ⟨_, rfl⟩
 rw [hu]
 cases u with
 | false =>
  gi_wp2
  exact ⟨_, results_tmp rfl _ _ _, b1, Or.inl ⟨hu, rfl⟩⟩
 | true =>
  have N4 := (catB_parts hu).1
  have HALL : Hid (ss.all L2V.ok = true) := (catB_parts hu).2
  have HU : Hid (catB N ss = true) := hu
  clear hu hN hF
  gi_wp2_with fail
  have m0 : OwnM ((w1.alloc (.map #[] 0)).alloc (.cells #[.map (some w1.heap.size)] 157)) w1.heap.size 0 (.map []) := (World.ownsMap_made w1 Tryz.prog KT (plainElem Tryz.prog ET)).alloc _
  have p0 : Cel ((w1.alloc (.map #[] 0)).alloc (.cells #[.map (some w1.heap.size)] 157)) (w1.heap.size + 1) [.map (some w1.heap.size)] 157 := by
   have := Cel.new (w1.alloc (.map #[] 0)) [.map (some w1.heap.size)] 157
   rw [World.size_alloc] at this; exact this
  have b2 : Below w1.heap.size w1 ((w1.alloc (.map #[] 0)).alloc (.cells #[.map (some w1.heap.size)] 157)) := ((Below.refl _ _).alloc (Nat.le_refl _) _).alloc (by simp) _
  obtain ⟨Z, hZ⟩ : ∃ Z, Z = (w1.alloc (.map #[] 0)).alloc (.cells #[.map (some w1.heap.size)] 157) := ⟨_, rfl⟩
  rw [← hZ] at m0 p0 b2 ⊢
  have lB0 := b1.size
  obtain ⟨B, hB⟩ : ∃ B, B = w1.heap.size := ⟨_, rfl⟩
  rw [← hB] at m0 p0 ⊢
  have hBw : w.heap.size ≤ B := by omega
  have B2 := b1.trans (b2.mono b1.size)
  clear hZ hmm hB b2 b1
  have KP : Hid (∀ V, Touch (fun k => k = B) Z V → V.cell? ⟨B + 1, 0, none⟩ = some (.map (some B))) := fun V t => (p0.touch t (fun h => by have : B + 1 = B := h; omega)).cell 0
  have e0 : Below Z.heap.size Z Z.drew := (Below.refl _ _).drew
  have hSS := KP.out _ (Touch.of e0)
  refine wpIn_region_S (fun w' => w'.cell? ⟨B + 1, 0, none⟩ = some (.map (some B))) (by kernel_rfl) ?_
  refine wpAnyS_two (i := 0) (j := 1) (by kernel_rfl) rfl rfl (fun K hK => ?_) (fun K hK => ?_)
  ·go_simp
   refine hK.out _ _ hSS ?_
   clear hK K
   refine wpAnyS_one (i := 1) (by kernel_rfl) rfl (fun K hK => ?_)
   go_simp
   refine ⟨trivial, hdd _, (callsIn_wide.2 (ipots_any _)).mono ?_⟩
   rintro e w2 ⟨v, xs, rfl, jv⟩
   obtain ⟨pa, pcap, rfl, FP⟩ := jv.slice rfl
   have b3 : Below Z.heap.size Z w2 := e0.trans (jv.b.mono e0.size)
   have m2 := m0.below b3
   (try dsimp only)
   refine hK.out _ _ (KP.out _ (Touch.of b3)) ?_
   clear hK K jv
   refine wpAnyS_one (i := 2) (by kernel_rfl) rfl (fun K hK => ?_)
   go_simp
   refine ⟨trivial, hdd _, (callsIn_wide.2 (iput_any B 0 (.map []) [] pa 3 pcap way0.pots _ m2 MapIs.empty (by omega) rfl FP pot_fit (by omega))).mono ?_⟩
   rintro e w3 ⟨⟨v3, rfl⟩, t3, D3, m3, d3⟩
   rw [pots3_guards] at d3
   have p3 : Cel w3 (B + 1) [.map (some B)] 157 := (p0.below b3).touch t3 (fun h => by have : B + 1 = B := h; omega)
   have B3 : Below w.heap.size w w3 := (B2.trans (b3.mono B2.size)).trans (t3.below (B := w.heap.size) (Nat.le_trans B2.size b3.size) (fun k hk => by have : k = B := hk; omega))
   have s3 := t3.size
   (try dsimp only)
   refine hK.out _ _ (p3.cell 0) ?_
   clear hK K
   refine wpAnyS_done (by kernel_rfl) ?_ _
   have lp3 := p3.lt
   clear KP m0 p0 m2 FP t3 b3 e0 B2 lB0
   gi_wp2_with fail
   refine wpIn_loop (fun a' w' => ∃ (u5 u6 u20 u21 u22 u23 u24 u25 u26 u27 u28 u29 u30 : Value) (k : Nat) (Ds : List Nat) (D : DataW Unit) (m : Nat), k ≤ N ∧ OwnM w' B m D ∧ m ≤ 3 + 128000 * k ∧ MapIs D (actsP pots3 (ss.take k)) ∧ Cel w' (B + 1) [.map (some B)] 157 ∧ Below w.heap.size w w' ∧ MkOk w.heap.size Ds w' ∧ a' = { tmps := #[.slice ad N cap, undef, .slice none 0 0, .pointer (some ⟨B + 1, 0, none⟩), undef, u5, u6, undef, undef, undef, .slice ad N cap, .bool true, .bool false, .map (some B), .map (some B), .slice pa 3 pcap, v3, .slice ad N cap, .int .i64 N, .int .i64 (k : Int), u20, u21, u22, u23, u24, u25, u26, u27, u28, u29, u30, undef, undef, undef, undef, undef, undef, undef, undef, undef, undef, undef, undef, undef, undef], defers := MkDs Ds }) (fun a' _ => N - (intOf (a'.tmps.getD 19 undef)).toNat) ⟨undef, undef, undef, undef, undef, undef, undef, undef, undef, undef, undef, undef, undef, 0, [], D3, 3, by omega, m3, by omega, d3, p3, B3, MkOk.nil _ _, rfl⟩ ?_
   rintro a0 wr ⟨u5, u6, u20, u21, u22, u23, u24, u25, u26, u27, u28, u29, u30, k, Ds, D, m, hk, hm, hmb, hD, hp, hb, hmk, rfl⟩
   clear m3 d3 p3 B3 lp3 s3
   have HD : Hid (MapIs D (actsP pots3 (ss.take k))) := hD
   have HMK : Hid (MkOk w.heap.size Ds wr) := hmk
   have lp := hp.lt
   clear hD hmk
   by_cases hlt : k < N
   ·have hlt' : (k : Int) < N := by omega
    have his : k < ss.length := by rw [HN.out]; exact hlt
    obtain ⟨ab, ao, rfl, hc, hLG⟩ := (HF.out.below hb) k his
    have HSA : Hid (∀ ps, ps = actsP pots3 (ss.take k) → rowsP ps (rowsL (ss[k]?.getD noL).x) = actsP pots3 (ss.take (k + 1))) := fun ps h => by rw [h, actsP_snoc _ _ _ his]
    have hsok : (ss[k]?.getD noL).ok = true := by
     rw [List.getElem?_eq_getElem his]
     exact List.all_eq_true.1 HALL.out _ (List.getElem_mem his)
    obtain ⟨s, hs⟩ : ∃ s, s = ss[k]?.getD noL := ⟨_, rfl⟩
    rw [← hs] at hc hLG HSA hsok
    obtain ⟨sa, sn, sc, sx⟩ := s
    have hAct : actB sn sx = true := hsok
    obtain ⟨hxl, hLin, hsn⟩ := hLG
    have hc' : wr.cell? ⟨ab, ao + k, none⟩ = some (.slice sa sn sc) := hc
    have HLIN : Hid (LinesG wr sa sx) := hLin
    clear hs hc hsok hLin
    obtain ⟨PS, hPS⟩ : ∃ PS, PS = actsP pots3 (ss.take k) := ⟨_, rfl⟩
    have HSA2 : Hid (rowsP PS (rowsL sx) = actsP pots3 (ss.take (k + 1))) := HSA.out PS hPS
    have HD' : Hid (MapIs D (rowsP PS [])) := by show MapIs _ _; rw [hPS]; exact HD.out
    clear HSA HD hPS
    gi_wp2_with fail
    refine ⟨trivial, hdd _, (callsIn_wide.2 (ithrough_any sa sn sc wr)).mono ?_⟩
    rintro e w4 ⟨Bc, rfl, b4, cB⟩
    have m4 := OwnM.below hm b4
    have p4 := hp.below b4
    have mk4 := HMK.out.below b4
    have s4 := b4.size
    have B4 : Below w.heap.size w w4 := hb.trans (b4.mono hb.size)
    have F4 := HLIN.out.below b4
    have sB := B4.size
    clear hm hp hb HMK hc'
    gi_wp2_with fail
    refine wpIn_rows (α := Value × RowM) (gf := 136) (lb := #[.pointer (some ⟨Bc, 0, none⟩)]) rfl (enters_of Tryz.func136 (by kernel_rfl) rfl) (encs := fun x => #[x.1]) (fun _ => rfl)
     (fun pre x X => pre.length < 128 ∧ RowFit x.2 ∧ RowX X w4.heap.size x.1 x.2) KpR (fun xs => xs.map Prod.snd = rowsL sx)
     (fun pre X => ∃ (D : DataW Unit) (m : Nat), OwnM X B m D ∧ m ≤ 3 + 128000 * k + 1000 * pre.length ∧ MapIs D (rowsP PS (pre.map Prod.snd)) ∧ Cel X (B + 1) [.map (some B)] 157 ∧ Below w.heap.size w X ∧ MkOk w.heap.size Ds X)
     (fun pre X Y h b => by
      obtain ⟨D, m, h1, h2, h3, h4, h5, h6⟩ := h
      exact ⟨D, m, OwnM.below h1 b, h2, h3, h4.below b, h5.trans (b.mono h5.size), h6.below b⟩)
     (fun pre X l r r' h hl lt => by
      obtain ⟨D, m, h1, h2, h3, h4, h5, h6⟩ := h
      exact ⟨D, m, OwnM.loop h1 hl, h2, h3, h4.loop hl, below_loop h5 (by omega), h6.loop hl⟩) KpR.loop (fun X Y Z => KpR.trans) ⟨D, m, m4, by simp; omega, HD'.out, p4, B4, mk4⟩ ?seq ?round ?done
    case seq =>
     intro l J W hJ hb2 hJ0 hY
     have ee0 : (#[.func (.yield l) #[] #[]] ++ #[.pointer (some ⟨Bc, 0, none⟩)] : Array Value) = #[.func (.yield l) #[] #[], .pointer (some ⟨Bc, 0, none⟩)] := rfl
     rw [ee0]
     refine (through_any l w4.heap.size (fun rs X => ∃ xs : List (Value × RowM), xs.map Prod.snd = rs ∧ J xs X) (fun rs X Y h b => ?_) (fun mm rs v r X h fit rx hlen => ?_) Bc sa sn sc sx W (n - 1) hxl (F4.below hb2) hsn hAct ((cB.below hb2).cell 0) hb2.size ⟨[], rfl, hJ0⟩).mono ?_
     ·obtain ⟨xs, e, j⟩ := h
      exact ⟨xs, e, hJ _ _ _ j b⟩
     ·obtain ⟨xs, e, j⟩ := h
      obtain ⟨fn, tmps, assign, body, hy, hR⟩ := hY mm xs (v, r) X j ⟨by rw [← e, List.length_map] at hlen; exact hlen, fit, rx⟩
      refine ⟨fn, tmps, assign, body, hy, hR.mono ?_⟩
      rintro e' Y ⟨a, b, c⟩
      exact ⟨a, ⟨xs ++ [(v, r)], by simp [e], b⟩, c⟩
     ·rintro e Y ⟨h1, ⟨xs, e1, j⟩, _⟩
      exact ⟨h1, xs, e1, j⟩
    case round =>
     rintro mm l pre ⟨v, rm⟩ X r ⟨D1, m1, hO, hm1, hD1, hC, hB, hMk⟩ ⟨hlen, fit, rx⟩ hl hlt2
     dsimp only at fit rx
     obtain ⟨ga, gc, aa, ac, ta, tc, rfl, f0, f1, f2⟩ := rx
     dsimp only
     gi_wp2_with fail
     have bx : Below X.heap.size X (X.alloc (.cells #[.slice ga rm.guards.length gc, .slice aa rm.adds.length ac, .slice ta rm.tells.length tc, .bool rm.stop] 106)) := (Below.refl _ _).alloc (Nat.le_refl _) _
     have cx := Cel.new X [.slice ga rm.guards.length gc, .slice aa rm.adds.length ac, .slice ta rm.tells.length tc, .bool rm.stop] 106
     have hl1 := (bx.block l (lt_of_block hl)).trans hl
     refine ⟨keeps_below bx, KpR.of bx, ?_⟩
     have O1 : OwnM _ _ _ _ := OwnM.loop (o := .loop { r with state := .busy }) (OwnM.below hO bx) hl1
     have C1 := Cel.loop (r' := { r with state := .busy }) (hC.below bx) hl1
     have X1 := Cel.loop (r' := { r with state := .busy }) cx hl1
     have MK1 := MkOk.loop (o := .loop { r with state := .busy }) (hMk.below bx) hl1
     have k1 : KpR X _ := (KpR.of bx).trans (KpR.loop _ l r { r with state := .busy } hl1)
     have B1 := below_loop (r' := { r with state := .busy }) (hB.trans (bx.mono hB.size)) (l := l) (by omega)
     obtain ⟨Y, hY⟩ : ∃ Y, Y = (X.alloc (.cells #[.slice ga rm.guards.length gc, .slice aa rm.adds.length ac, .slice ta rm.tells.length tc, .bool rm.stop] 106)).putObj l (.loop { r with state := .busy }) := ⟨_, rfl⟩
     rw [← hY] at O1 C1 X1 k1 B1 MK1 ⊢
     clear hY
     have FG := f0.at.keepR k1
     have hc1 := C1.cell 0
     have hx1 := X1.cell 0
     have lB1 : B < w4.heap.size := m4.lt
     have lgg := fit.lg
     clear cx bx hl1 hO hC hB f0 f1 f2
     gi_wp2_with fail
     refine ⟨trivial, hdd _, CallsIn.mono (CallsIn.inRound l (callsIn_wide.2 (iput_any B m1 D1 _ ga rm.guards.length gc rm.guards Y O1 hD1 (by omega) rfl FG fit.g (by omega)))) ?_⟩
     rintro e Y1 ⟨⟨v1, rfl⟩, t1, D2, m2, d2⟩
     have C2 := cel_past C1 t1 (by omega)
     have MK2 := MK1.touch t1 (fun q hq o ho => by
      have : q = B := hq
      subst this
      obtain ⟨es, clock, hb⟩ := O1.obj
      rw [hb] at ho
      cases ho)
     clear hc1 hx1
     gi_wp2_with fail
     refine ⟨keeps_touch t1 (by omega), OwnM.kpR O1 t1, D2, _, m2, ?_, ?_, C2, below_touch B1 t1 (by omega), MK2⟩
     ·rw [List.length_append, List.length_singleton]; omega
     ·rw [List.map_append]
      have e2 : rowsP PS (pre.map Prod.snd ++ [rm]) = guardsP (rowsP PS (pre.map Prod.snd)) rm.guards := by simp [rowsP, List.foldl_append]
      exact e2 ▸ d2
    case done =>
     rintro DD xs W hDD hS ⟨D1, m1, hO, hm1, hD1, hC, hB, hMk⟩ hK
     rw [hS] at hD1
     have hxl2 : xs.length ≤ 128 := by
      have := congrArg List.length hS
      rw [List.length_map] at this
      rw [this]; exact goW_128 (by omega)
     have MK3 : MkOk w.heap.size (DD :: Ds) W := by
      refine ⟨fun D' hD' => ?_, List.nodup_cons.2 ⟨fun hin => ?_, hMk.n⟩, fun D' hD' => ?_⟩
      ·rcases List.mem_cons.1 hD' with rfl | h
       ·exact hK
       ·exact hMk.b D' h
      ·have := lt_of_block (mk4.b DD hin)
       omega
      ·rcases List.mem_cons.1 hD' with rfl | h
       ·omega
       ·exact hMk.l D' h
     have HD1 : Hid (MapIs D1 (actsP pots3 (ss.take (k + 1)))) := by show MapIs _ _; rw [← HSA2.out]; exact hD1
     clear hD1 hMk hK
     gi_wp2
     refine ⟨⟨_, _, _, _, _, _, _, _, _, _, _, _, _, k + 1, DD :: Ds, D1, m1, by omega, hO, by omega, HD1.out, hC, hB, MK3, rfl⟩, ?_⟩
     simp [intOf]; omega
   ·obtain rfl : k = N := by omega
    have hall : ss.take k = ss := List.take_of_length_le (by rw [HN.out]; exact Nat.le_refl _)
    obtain ⟨ps, hps⟩ : ∃ ps, ps = catP ss := ⟨_, rfl⟩
    have HPS : Hid (ps = catP ss) := hps
    have HDP : Hid (MapIs D ps) := by show MapIs _ _; rw [hps, catP, ← hall]; rw [hall]; have := HD.out; rw [hall] at this; exact this
    have hlen : ps.length ≤ 600000 := by
     have h1 := HDP.out.sz
     have h2 := hm.size_le
     omega
    clear HD hall hps
    have hpc := hp.cell 0
    gi_wp2_with fail
    refine ⟨trivial, hdd _, (callsIn_wide.2 (iorder_any B m D ps wr hm HDP.out (by omega))).mono ?_⟩
    rintro e w5 ⟨L, cur, rfl, b5, lL, c5, hKA⟩
    have HKA : Hid (∀ j, j < ps.length → KeyAt cur j (ps[j]?.getD [])) := hKA
    have HWF : Hid (∀ j, j < ps.length → (ps[j]?.getD []).length = 3) := fun j hj => (HDP.out.wf _ (by rw [List.getElem?_eq_getElem hj]; exact List.getElem_mem hj)).1
    have mk5 := HMK.out.below b5
    have B5 := hb.trans (b5.mono hb.size)
    have lL0 : w.heap.size ≤ L := Nat.le_trans hb.size lL
    obtain ⟨M, hM⟩ : ∃ M, M = ps.length := ⟨_, rfl⟩
    have HM : Hid (M = ps.length) := hM
    rw [← hM] at hlen ⊢
    have j5 : JO w (.slice none 0 0) [] (fun _ => 0) w5 := JO.nil w w5 B5 _
    clear hKA hM hm hp hb HMK b5 HDP hpc
    gi_wp2_with fail
    gi_loopw [7, 9, 34] (fun v _ i wr => ∃ (j : Nat) (ts : List IV) (bs : Nat → Nat), j ≤ M ∧ i = .int .i64 j ∧ ts.length = j ∧ JO w v ts bs wr ∧ ts.map IV.x = ps.take j ∧ Cel wr L cur KT ∧ MkOk w.heap.size Ds wr) (fun _ _ i _ => M - (intOf i).toNat)
    case atStart => exact ⟨0, [], fun _ => 0, Nat.zero_le _, rfl, rfl, j5, rfl, c5, mk5⟩
    case round =>
     clear j5 c5 mk5 B5 lL
     obtain ⟨j, ts, bs, hj, rfl, htl, jo, hx, hc, hmk⟩ := hrel
     have HTL : Hid (ts.length = j) := htl
     have HX : Hid (ts.map IV.x = ps.take j) := hx
     have HMK : Hid (MkOk w.heap.size Ds wr) := hmk
     clear htl hx hmk
     by_cases hlt2 : j < M
     ·have hlt2' : (j : Int) < M := by omega
      have hjp : j < ps.length := by have := HM.out; omega
      obtain ⟨k0, k1, k2⟩ := HKA.out j hjp
      have c0 := (hc.cell _).trans k0
      have c1 := (hc.cell _).trans k1
      have c2 := (hc.cell _).trans k2
      have h3 := HWF.out j hjp
      have HXS : Hid (ps.take (j + 1) = ps.take j ++ [ps[j]?.getD []]) := by
       show _ = _
       rw [List.take_succ_eq_append_getElem hjp, List.getElem?_eq_getElem hjp]; rfl
      obtain ⟨p, hp⟩ : ∃ p, p = ps[j]?.getD [] := ⟨_, rfl⟩
      rw [← hp] at c0 c1 c2 h3 HXS
      have HP3 : Hid (p = [p[0]?.getD 0, p[1]?.getD 0, p[2]?.getD 0]) := three_eq h3
      have Hlen3 : Hid (p.length = 3) := h3
      generalize hx0 : p[0]?.getD 0 = x0 at *
      generalize hx1 : p[1]?.getD 0 = x1 at *
      generalize hx2 : p[2]?.getD 0 = x2 at *
      have bx : Below wr.heap.size wr (wr.alloc (.cells #[.int .i64 x0, .int .i64 x1, .int .i64 x2] KT)) := (Below.refl _ _).alloc (Nat.le_refl _) _
      have cx := Cel.new wr [.int .i64 x0, .int .i64 x1, .int .i64 x2] KT
      have ix : Ints (wr.alloc (.cells #[.int .i64 x0, .int .i64 x1, .int .i64 x2] KT)) (some ⟨wr.heap.size, 0, none⟩) 3 p := by
       rw [HP3.out]
       refine ⟨rfl, fun i hi => ⟨wr.heap.size, 0, rfl, ?_⟩⟩
       rw [Nat.zero_add, cx.cell i]
       match i, hi with
       | 0, _ => rfl
       | 1, _ => rfl
       | 2, _ => rfl
      clear hx0 hx1 hx2 hp h3 k0 k1 k2
      gi_wp2_with fail
      refine ⟨trivial, hdd _, (callsIn_wide.2 (clone_any _ 3 3 p _ ix (by omega) (by omega))).mono ?_⟩
      rintro e w6 ⟨v6, rfl, jA⟩
      obtain ⟨aA, cA, A, rfl, oA, gA⟩ := jA.ownx Hlen3.out
      have lA := gA (by omega)
      rw [World.size_alloc] at lA
      have b6 : Below wr.heap.size wr w6 := bx.trans (jA.b.mono (by rw [World.size_alloc]; omega))
      have jo6 := jo.below b6
      have hc6 := hc.below b6
      have mk6 := HMK.out.below b6
      have s6 := b6.size
      have sw := jo.b.size
      have HBS : Hid (∀ i, i < j → bs i < A) := fun i hi => by
       obtain ⟨_, h1, _, _⟩ := jo.k i (by rw [HTL.out]; exact hi)
       have := h1.lt (by omega)
       omega
      have HNE : Hid (some A ≠ u7.ownBlock) := fun e => by
       obtain ⟨_, cc, hh⟩ := jo.blk e.symm
       have := lt_of_block hh
       omega
      have jow := jo6.o
      rw [HTL.out] at jow
      clear jo hc HMK jA gA b6 bx cx ix c0 c1 c2
      obtain ⟨i0, hi0, hz0, hz1, hz2⟩ := info_parts Tryz.infoI
      gi_wp2_with (gi_at_builtin; go_must (refine wpListIn_append_own_at _ rfl (.tmp 38) (.tmp 41) 61 rfl w.heap.size 23 i0 _ 1 24 Tryz.underlying61 hi0 hz0 hz1 hz2 rfl (by decide) _ _ _ rfl (jow.alloc _) ⟨w6.heap.size, 0, none⟩ 1 1 [.slice aA 3 cA] rfl rfl (news1 w6 _ _) oneSl (by unfold maxLen; omega) (by omega) (by rw [World.size_alloc]; omega) ?_); intro v7 w7 hown hgrow hnil hat)
      have jo7 := jo6.app (s := ⟨aA, 3, cA, p⟩) HTL.out rfl oA (by omega) HBS.out HNE.out hown hgrow hat
      have hc7 := hc6.grownKT jo6 hgrow
      have mk7 := mk6.grown jo6 hgrow
      have HX7 : Hid ((ts ++ [(⟨aA, 3, cA, p⟩ : IV)]).map IV.x = ps.take (j + 1)) := by
       show _ = _
       rw [List.map_append, HX.out, HXS.out]; rfl
      have HT7 : Hid ((ts ++ [(⟨aA, 3, cA, p⟩ : IV)]).length = j + 1) := by show _ = _; rw [List.length_append, HTL.out]; rfl
      clear hown hgrow hnil hat jow jo6 hc6 mk6 oA HBS HNE
      gi_wp2
      go_roundw
      case rel => exact ⟨j + 1, _, _, by omega, by go_num, HT7.out, jo7, HX7.out, hc7, mk7⟩
      case measure => simp [intOf]; omega
     ·obtain rfl : j = M := by omega
      have HXE : Hid (ts.map IV.x = catP ss) := by
       show _ = _
       rw [HX.out, List.take_of_length_le (by have := HM.out; omega), HPS.out]
      have HLE : Hid (ts.length = (catP ss).length) := by
       show _ = _
       rw [← HXE.out, List.length_map]
      gi_wp2
      refine leaves_marks (v := u7) (fun W' => by simp [results, Tryz.results75, go_sem]) Ds _ HMK.out.b HMK.out.n (fun W' t => ?_)
      have jo' := jo.past t (fun q hq => ⟨HMK.out.l q hq, fun cs ty fr h => by rw [HMK.out.b q hq] at h; cases h⟩)
      have hpos := catP_pos ss
      have hle := HLE.out
      rcases jo'.o.2 with ⟨_, h0⟩ | ⟨g, cap', cur', hv, _, _⟩
      ·omega
      ·rw [hle] at hv
       subst hv
       exact ⟨jo'.b, .inr ⟨HU.out, g, cap', ts, bs, rfl, HXE.out, jo'⟩⟩
  ·go_simp
   refine ⟨trivial, hdd _, (callsIn_wide.2 (ipots_any _)).mono ?_⟩
   rintro e w2 ⟨v, xs, rfl, jv⟩
   obtain ⟨pa, pcap, rfl, FP⟩ := jv.slice rfl
   have b3 : Below Z.heap.size Z w2 := e0.trans (jv.b.mono e0.size)
   have m2 := m0.below b3
   (try dsimp only)
   refine hK.out _ _ (KP.out _ (Touch.of b3)) ?_
   clear hK K jv
   have hS2 := KP.out _ (Touch.of b3)
   refine wpAnyS_one (i := 0) (by kernel_rfl) rfl (fun K hK => ?_)
   go_simp
   refine hK.out _ _ hS2 ?_
   clear hK K
   refine wpAnyS_one (i := 2) (by kernel_rfl) rfl (fun K hK => ?_)
   go_simp
   refine ⟨trivial, hdd _, (callsIn_wide.2 (iput_any B 0 (.map []) [] pa 3 pcap way0.pots _ m2 MapIs.empty (by omega) rfl FP pot_fit (by omega))).mono ?_⟩
   rintro e w3 ⟨⟨v3, rfl⟩, t3, D3, m3, d3⟩
   rw [pots3_guards] at d3
   have p3 : Cel w3 (B + 1) [.map (some B)] 157 := (p0.below b3).touch t3 (fun h => by have : B + 1 = B := h; omega)
   have B3 : Below w.heap.size w w3 := (B2.trans (b3.mono B2.size)).trans (t3.below (B := w.heap.size) (Nat.le_trans B2.size b3.size) (fun k hk => by have : k = B := hk; omega))
   have s3 := t3.size
   (try dsimp only)
   refine hK.out _ _ (p3.cell 0) ?_
   clear hK K
   refine wpAnyS_done (by kernel_rfl) ?_ _
   have lp3 := p3.lt
   clear KP m0 p0 m2 FP t3 b3 e0 B2 lB0
   gi_wp2_with fail
   refine wpIn_loop (fun a' w' => ∃ (u5 u6 u20 u21 u22 u23 u24 u25 u26 u27 u28 u29 u30 : Value) (k : Nat) (Ds : List Nat) (D : DataW Unit) (m : Nat), k ≤ N ∧ OwnM w' B m D ∧ m ≤ 3 + 128000 * k ∧ MapIs D (actsP pots3 (ss.take k)) ∧ Cel w' (B + 1) [.map (some B)] 157 ∧ Below w.heap.size w w' ∧ MkOk w.heap.size Ds w' ∧ a' = { tmps := #[.slice ad N cap, undef, .slice none 0 0, .pointer (some ⟨B + 1, 0, none⟩), undef, u5, u6, undef, undef, undef, .slice ad N cap, .bool true, .bool false, .map (some B), .map (some B), .slice pa 3 pcap, v3, .slice ad N cap, .int .i64 N, .int .i64 (k : Int), u20, u21, u22, u23, u24, u25, u26, u27, u28, u29, u30, undef, undef, undef, undef, undef, undef, undef, undef, undef, undef, undef, undef, undef, undef], defers := MkDs Ds }) (fun a' _ => N - (intOf (a'.tmps.getD 19 undef)).toNat) ⟨undef, undef, undef, undef, undef, undef, undef, undef, undef, undef, undef, undef, undef, 0, [], D3, 3, by omega, m3, by omega, d3, p3, B3, MkOk.nil _ _, rfl⟩ ?_
   rintro a0 wr ⟨u5, u6, u20, u21, u22, u23, u24, u25, u26, u27, u28, u29, u30, k, Ds, D, m, hk, hm, hmb, hD, hp, hb, hmk, rfl⟩
   clear m3 d3 p3 B3 lp3 s3
   have HD : Hid (MapIs D (actsP pots3 (ss.take k))) := hD
   have HMK : Hid (MkOk w.heap.size Ds wr) := hmk
   have lp := hp.lt
   clear hD hmk
   by_cases hlt : k < N
   ·have hlt' : (k : Int) < N := by omega
    have his : k < ss.length := by rw [HN.out]; exact hlt
    obtain ⟨ab, ao, rfl, hc, hLG⟩ := (HF.out.below hb) k his
    have HSA : Hid (∀ ps, ps = actsP pots3 (ss.take k) → rowsP ps (rowsL (ss[k]?.getD noL).x) = actsP pots3 (ss.take (k + 1))) := fun ps h => by rw [h, actsP_snoc _ _ _ his]
    have hsok : (ss[k]?.getD noL).ok = true := by
     rw [List.getElem?_eq_getElem his]
     exact List.all_eq_true.1 HALL.out _ (List.getElem_mem his)
    obtain ⟨s, hs⟩ : ∃ s, s = ss[k]?.getD noL := ⟨_, rfl⟩
    rw [← hs] at hc hLG HSA hsok
    obtain ⟨sa, sn, sc, sx⟩ := s
    have hAct : actB sn sx = true := hsok
    obtain ⟨hxl, hLin, hsn⟩ := hLG
    have hc' : wr.cell? ⟨ab, ao + k, none⟩ = some (.slice sa sn sc) := hc
    have HLIN : Hid (LinesG wr sa sx) := hLin
    clear hs hc hsok hLin
    obtain ⟨PS, hPS⟩ : ∃ PS, PS = actsP pots3 (ss.take k) := ⟨_, rfl⟩
    have HSA2 : Hid (rowsP PS (rowsL sx) = actsP pots3 (ss.take (k + 1))) := HSA.out PS hPS
    have HD' : Hid (MapIs D (rowsP PS [])) := by show MapIs _ _; rw [hPS]; exact HD.out
    clear HSA HD hPS
    gi_wp2_with fail
    refine ⟨trivial, hdd _, (callsIn_wide.2 (ithrough_any sa sn sc wr)).mono ?_⟩
    rintro e w4 ⟨Bc, rfl, b4, cB⟩
    have m4 := OwnM.below hm b4
    have p4 := hp.below b4
    have mk4 := HMK.out.below b4
    have s4 := b4.size
    have B4 : Below w.heap.size w w4 := hb.trans (b4.mono hb.size)
    have F4 := HLIN.out.below b4
    have sB := B4.size
    clear hm hp hb HMK hc'
    gi_wp2_with fail
    refine wpIn_rows (α := Value × RowM) (gf := 136) (lb := #[.pointer (some ⟨Bc, 0, none⟩)]) rfl (enters_of Tryz.func136 (by kernel_rfl) rfl) (encs := fun x => #[x.1]) (fun _ => rfl)
     (fun pre x X => pre.length < 128 ∧ RowFit x.2 ∧ RowX X w4.heap.size x.1 x.2) KpR (fun xs => xs.map Prod.snd = rowsL sx)
     (fun pre X => ∃ (D : DataW Unit) (m : Nat), OwnM X B m D ∧ m ≤ 3 + 128000 * k + 1000 * pre.length ∧ MapIs D (rowsP PS (pre.map Prod.snd)) ∧ Cel X (B + 1) [.map (some B)] 157 ∧ Below w.heap.size w X ∧ MkOk w.heap.size Ds X)
     (fun pre X Y h b => by
      obtain ⟨D, m, h1, h2, h3, h4, h5, h6⟩ := h
      exact ⟨D, m, OwnM.below h1 b, h2, h3, h4.below b, h5.trans (b.mono h5.size), h6.below b⟩)
     (fun pre X l r r' h hl lt => by
      obtain ⟨D, m, h1, h2, h3, h4, h5, h6⟩ := h
      exact ⟨D, m, OwnM.loop h1 hl, h2, h3, h4.loop hl, below_loop h5 (by omega), h6.loop hl⟩) KpR.loop (fun X Y Z => KpR.trans) ⟨D, m, m4, by simp; omega, HD'.out, p4, B4, mk4⟩ ?seq ?round ?done
    case seq =>
     intro l J W hJ hb2 hJ0 hY
     have ee0 : (#[.func (.yield l) #[] #[]] ++ #[.pointer (some ⟨Bc, 0, none⟩)] : Array Value) = #[.func (.yield l) #[] #[], .pointer (some ⟨Bc, 0, none⟩)] := rfl
     rw [ee0]
     refine (through_any l w4.heap.size (fun rs X => ∃ xs : List (Value × RowM), xs.map Prod.snd = rs ∧ J xs X) (fun rs X Y h b => ?_) (fun mm rs v r X h fit rx hlen => ?_) Bc sa sn sc sx W (n - 1) hxl (F4.below hb2) hsn hAct ((cB.below hb2).cell 0) hb2.size ⟨[], rfl, hJ0⟩).mono ?_
     ·obtain ⟨xs, e, j⟩ := h
      exact ⟨xs, e, hJ _ _ _ j b⟩
     ·obtain ⟨xs, e, j⟩ := h
      obtain ⟨fn, tmps, assign, body, hy, hR⟩ := hY mm xs (v, r) X j ⟨by rw [← e, List.length_map] at hlen; exact hlen, fit, rx⟩
      refine ⟨fn, tmps, assign, body, hy, hR.mono ?_⟩
      rintro e' Y ⟨a, b, c⟩
      exact ⟨a, ⟨xs ++ [(v, r)], by simp [e], b⟩, c⟩
     ·rintro e Y ⟨h1, ⟨xs, e1, j⟩, _⟩
      exact ⟨h1, xs, e1, j⟩
    case round =>
     rintro mm l pre ⟨v, rm⟩ X r ⟨D1, m1, hO, hm1, hD1, hC, hB, hMk⟩ ⟨hlen, fit, rx⟩ hl hlt2
     dsimp only at fit rx
     obtain ⟨ga, gc, aa, ac, ta, tc, rfl, f0, f1, f2⟩ := rx
     dsimp only
     gi_wp2_with fail
     have bx : Below X.heap.size X (X.alloc (.cells #[.slice ga rm.guards.length gc, .slice aa rm.adds.length ac, .slice ta rm.tells.length tc, .bool rm.stop] 106)) := (Below.refl _ _).alloc (Nat.le_refl _) _
     have cx := Cel.new X [.slice ga rm.guards.length gc, .slice aa rm.adds.length ac, .slice ta rm.tells.length tc, .bool rm.stop] 106
     have hl1 := (bx.block l (lt_of_block hl)).trans hl
     refine ⟨keeps_below bx, KpR.of bx, ?_⟩
     have O1 : OwnM _ _ _ _ := OwnM.loop (o := .loop { r with state := .busy }) (OwnM.below hO bx) hl1
     have C1 := Cel.loop (r' := { r with state := .busy }) (hC.below bx) hl1
     have X1 := Cel.loop (r' := { r with state := .busy }) cx hl1
     have MK1 := MkOk.loop (o := .loop { r with state := .busy }) (hMk.below bx) hl1
     have k1 : KpR X _ := (KpR.of bx).trans (KpR.loop _ l r { r with state := .busy } hl1)
     have B1 := below_loop (r' := { r with state := .busy }) (hB.trans (bx.mono hB.size)) (l := l) (by omega)
     obtain ⟨Y, hY⟩ : ∃ Y, Y = (X.alloc (.cells #[.slice ga rm.guards.length gc, .slice aa rm.adds.length ac, .slice ta rm.tells.length tc, .bool rm.stop] 106)).putObj l (.loop { r with state := .busy }) := ⟨_, rfl⟩
     rw [← hY] at O1 C1 X1 k1 B1 MK1 ⊢
     clear hY
     have FG := f0.at.keepR k1
     have hc1 := C1.cell 0
     have hx1 := X1.cell 0
     have lB1 : B < w4.heap.size := m4.lt
     have lgg := fit.lg
     clear cx bx hl1 hO hC hB f0 f1 f2
     gi_wp2_with fail
     refine ⟨trivial, hdd _, CallsIn.mono (CallsIn.inRound l (callsIn_wide.2 (iput_any B m1 D1 _ ga rm.guards.length gc rm.guards Y O1 hD1 (by omega) rfl FG fit.g (by omega)))) ?_⟩
     rintro e Y1 ⟨⟨v1, rfl⟩, t1, D2, m2, d2⟩
     have C2 := cel_past C1 t1 (by omega)
     have MK2 := MK1.touch t1 (fun q hq o ho => by
      have : q = B := hq
      subst this
      obtain ⟨es, clock, hb⟩ := O1.obj
      rw [hb] at ho
      cases ho)
     clear hc1 hx1
     gi_wp2_with fail
     refine ⟨keeps_touch t1 (by omega), OwnM.kpR O1 t1, D2, _, m2, ?_, ?_, C2, below_touch B1 t1 (by omega), MK2⟩
     ·rw [List.length_append, List.length_singleton]; omega
     ·rw [List.map_append]
      have e2 : rowsP PS (pre.map Prod.snd ++ [rm]) = guardsP (rowsP PS (pre.map Prod.snd)) rm.guards := by simp [rowsP, List.foldl_append]
      exact e2 ▸ d2
    case done =>
     rintro DD xs W hDD hS ⟨D1, m1, hO, hm1, hD1, hC, hB, hMk⟩ hK
     rw [hS] at hD1
     have hxl2 : xs.length ≤ 128 := by
      have := congrArg List.length hS
      rw [List.length_map] at this
      rw [this]; exact goW_128 (by omega)
     have MK3 : MkOk w.heap.size (DD :: Ds) W := by
      refine ⟨fun D' hD' => ?_, List.nodup_cons.2 ⟨fun hin => ?_, hMk.n⟩, fun D' hD' => ?_⟩
      ·rcases List.mem_cons.1 hD' with rfl | h
       ·exact hK
       ·exact hMk.b D' h
      ·have := lt_of_block (mk4.b DD hin)
       omega
      ·rcases List.mem_cons.1 hD' with rfl | h
       ·omega
       ·exact hMk.l D' h
     have HD1 : Hid (MapIs D1 (actsP pots3 (ss.take (k + 1)))) := by show MapIs _ _; rw [← HSA2.out]; exact hD1
     clear hD1 hMk hK
     gi_wp2
     refine ⟨⟨_, _, _, _, _, _, _, _, _, _, _, _, _, k + 1, DD :: Ds, D1, m1, by omega, hO, by omega, HD1.out, hC, hB, MK3, rfl⟩, ?_⟩
     simp [intOf]; omega
   ·obtain rfl : k = N := by omega
    have hall : ss.take k = ss := List.take_of_length_le (by rw [HN.out]; exact Nat.le_refl _)
    obtain ⟨ps, hps⟩ : ∃ ps, ps = catP ss := ⟨_, rfl⟩
    have HPS : Hid (ps = catP ss) := hps
    have HDP : Hid (MapIs D ps) := by show MapIs _ _; rw [hps, catP, ← hall]; rw [hall]; have := HD.out; rw [hall] at this; exact this
    have hlen : ps.length ≤ 600000 := by
     have h1 := HDP.out.sz
     have h2 := hm.size_le
     omega
    clear HD hall hps
    have hpc := hp.cell 0
    gi_wp2_with fail
    refine ⟨trivial, hdd _, (callsIn_wide.2 (iorder_any B m D ps wr hm HDP.out (by omega))).mono ?_⟩
    rintro e w5 ⟨L, cur, rfl, b5, lL, c5, hKA⟩
    have HKA : Hid (∀ j, j < ps.length → KeyAt cur j (ps[j]?.getD [])) := hKA
    have HWF : Hid (∀ j, j < ps.length → (ps[j]?.getD []).length = 3) := fun j hj => (HDP.out.wf _ (by rw [List.getElem?_eq_getElem hj]; exact List.getElem_mem hj)).1
    have mk5 := HMK.out.below b5
    have B5 := hb.trans (b5.mono hb.size)
    have lL0 : w.heap.size ≤ L := Nat.le_trans hb.size lL
    obtain ⟨M, hM⟩ : ∃ M, M = ps.length := ⟨_, rfl⟩
    have HM : Hid (M = ps.length) := hM
    rw [← hM] at hlen ⊢
    have j5 : JO w (.slice none 0 0) [] (fun _ => 0) w5 := JO.nil w w5 B5 _
    clear hKA hM hm hp hb HMK b5 HDP hpc
    gi_wp2_with fail
    gi_loopw [7, 9, 34] (fun v _ i wr => ∃ (j : Nat) (ts : List IV) (bs : Nat → Nat), j ≤ M ∧ i = .int .i64 j ∧ ts.length = j ∧ JO w v ts bs wr ∧ ts.map IV.x = ps.take j ∧ Cel wr L cur KT ∧ MkOk w.heap.size Ds wr) (fun _ _ i _ => M - (intOf i).toNat)
    case atStart => exact ⟨0, [], fun _ => 0, Nat.zero_le _, rfl, rfl, j5, rfl, c5, mk5⟩
    case round =>
     clear j5 c5 mk5 B5 lL
     obtain ⟨j, ts, bs, hj, rfl, htl, jo, hx, hc, hmk⟩ := hrel
     have HTL : Hid (ts.length = j) := htl
     have HX : Hid (ts.map IV.x = ps.take j) := hx
     have HMK : Hid (MkOk w.heap.size Ds wr) := hmk
     clear htl hx hmk
     by_cases hlt2 : j < M
     ·have hlt2' : (j : Int) < M := by omega
      have hjp : j < ps.length := by have := HM.out; omega
      obtain ⟨k0, k1, k2⟩ := HKA.out j hjp
      have c0 := (hc.cell _).trans k0
      have c1 := (hc.cell _).trans k1
      have c2 := (hc.cell _).trans k2
      have h3 := HWF.out j hjp
      have HXS : Hid (ps.take (j + 1) = ps.take j ++ [ps[j]?.getD []]) := by
       show _ = _
       rw [List.take_succ_eq_append_getElem hjp, List.getElem?_eq_getElem hjp]; rfl
      obtain ⟨p, hp⟩ : ∃ p, p = ps[j]?.getD [] := ⟨_, rfl⟩
      rw [← hp] at c0 c1 c2 h3 HXS
      have HP3 : Hid (p = [p[0]?.getD 0, p[1]?.getD 0, p[2]?.getD 0]) := three_eq h3
      have Hlen3 : Hid (p.length = 3) := h3
      generalize hx0 : p[0]?.getD 0 = x0 at *
      generalize hx1 : p[1]?.getD 0 = x1 at *
      generalize hx2 : p[2]?.getD 0 = x2 at *
      have bx : Below wr.heap.size wr (wr.alloc (.cells #[.int .i64 x0, .int .i64 x1, .int .i64 x2] KT)) := (Below.refl _ _).alloc (Nat.le_refl _) _
      have cx := Cel.new wr [.int .i64 x0, .int .i64 x1, .int .i64 x2] KT
      have ix : Ints (wr.alloc (.cells #[.int .i64 x0, .int .i64 x1, .int .i64 x2] KT)) (some ⟨wr.heap.size, 0, none⟩) 3 p := by
       rw [HP3.out]
       refine ⟨rfl, fun i hi => ⟨wr.heap.size, 0, rfl, ?_⟩⟩
       rw [Nat.zero_add, cx.cell i]
       match i, hi with
       | 0, _ => rfl
       | 1, _ => rfl
       | 2, _ => rfl
      clear hx0 hx1 hx2 hp h3 k0 k1 k2
      gi_wp2_with fail
      refine ⟨trivial, hdd _, (callsIn_wide.2 (clone_any _ 3 3 p _ ix (by omega) (by omega))).mono ?_⟩
      rintro e w6 ⟨v6, rfl, jA⟩
      obtain ⟨aA, cA, A, rfl, oA, gA⟩ := jA.ownx Hlen3.out
      have lA := gA (by omega)
      rw [World.size_alloc] at lA
      have b6 : Below wr.heap.size wr w6 := bx.trans (jA.b.mono (by rw [World.size_alloc]; omega))
      have jo6 := jo.below b6
      have hc6 := hc.below b6
      have mk6 := HMK.out.below b6
      have s6 := b6.size
      have sw := jo.b.size
      have HBS : Hid (∀ i, i < j → bs i < A) := fun i hi => by
       obtain ⟨_, h1, _, _⟩ := jo.k i (by rw [HTL.out]; exact hi)
       have := h1.lt (by omega)
       omega
      have HNE : Hid (some A ≠ u7.ownBlock) := fun e => by
       obtain ⟨_, cc, hh⟩ := jo.blk e.symm
       have := lt_of_block hh
       omega
      have jow := jo6.o
      rw [HTL.out] at jow
      clear jo hc HMK jA gA b6 bx cx ix c0 c1 c2
      obtain ⟨i0, hi0, hz0, hz1, hz2⟩ := info_parts Tryz.infoI
      gi_wp2_with (gi_at_builtin; go_must (refine wpListIn_append_own_at _ rfl (.tmp 38) (.tmp 41) 61 rfl w.heap.size 23 i0 _ 1 24 Tryz.underlying61 hi0 hz0 hz1 hz2 rfl (by decide) _ _ _ rfl (jow.alloc _) ⟨w6.heap.size, 0, none⟩ 1 1 [.slice aA 3 cA] rfl rfl (news1 w6 _ _) oneSl (by unfold maxLen; omega) (by omega) (by rw [World.size_alloc]; omega) ?_); intro v7 w7 hown hgrow hnil hat)
      have jo7 := jo6.app (s := ⟨aA, 3, cA, p⟩) HTL.out rfl oA (by omega) HBS.out HNE.out hown hgrow hat
      have hc7 := hc6.grownKT jo6 hgrow
      have mk7 := mk6.grown jo6 hgrow
      have HX7 : Hid ((ts ++ [(⟨aA, 3, cA, p⟩ : IV)]).map IV.x = ps.take (j + 1)) := by
       show _ = _
       rw [List.map_append, HX.out, HXS.out]; rfl
      have HT7 : Hid ((ts ++ [(⟨aA, 3, cA, p⟩ : IV)]).length = j + 1) := by show _ = _; rw [List.length_append, HTL.out]; rfl
      clear hown hgrow hnil hat jow jo6 hc6 mk6 oA HBS HNE
      gi_wp2
      go_roundw
      case rel => exact ⟨j + 1, _, _, by omega, by go_num, HT7.out, jo7, HX7.out, hc7, mk7⟩
      case measure => simp [intOf]; omega
     ·obtain rfl : j = M := by omega
      have HXE : Hid (ts.map IV.x = catP ss) := by
       show _ = _
       rw [HX.out, List.take_of_length_le (by have := HM.out; omega), HPS.out]
      have HLE : Hid (ts.length = (catP ss).length) := by
       show _ = _
       rw [← HXE.out, List.length_map]
      gi_wp2
      refine leaves_marks (v := u7) (fun W' => by simp [results, Tryz.results75, go_sem]) Ds _ HMK.out.b HMK.out.n (fun W' t => ?_)
      have jo' := jo.past t (fun q hq => ⟨HMK.out.l q hq, fun cs ty fr h => by rw [HMK.out.b q hq] at h; cases h⟩)
      have hpos := catP_pos ss
      have hle := HLE.out
      rcases jo'.o.2 with ⟨_, h0⟩ | ⟨g, cap', cur', hv, _, _⟩
      ·omega
      ·rw [hle] at hv
       subst hv
       exact ⟨jo'.b, .inr ⟨HU.out, g, cap', ts, bs, rfl, HXE.out, jo'⟩⟩

theorem icatforms_any (ad : Option Addr) (N cap : Nat) (ss : List L2V) (w : World) (hN : ss.length = N) (hF : LSG w ad ss) (hN1 : N ≤ 1048576) :
  Calls Tryz.prog 75 #[.slice ad N cap] w fun e w' => Below w.heap.size w w' ∧ ((catB N ss = false ∧ e = .returned (.slice none 0 0)) ∨ (catB N ss = true ∧ ∃ G cG ts bs, e = .returned (.slice (some ⟨G, 0, none⟩) (catP ss).length cG) ∧ ts.map IV.x = catP ss ∧ JO w (.slice (some ⟨G, 0, none⟩) (catP ss).length cG) ts bs w')) :=
 callsIn_wide.1 (icatforms_in ad N cap ss w 0 hN hF hN1)

end Go.Proofs.YtdigmokjedckeaaGreatDoor
namespace Go.Proofs.YtdigmokjedckeaaGreatDoor
open Go.RowKit
set_option linter.unusedVariables false
set_option maxRecDepth 100000

/-- Parts in blocks of their own. -/
structure SL (W : World) (a : Option Addr) (G n : Nat) (ts : List IV) (bs : Nat → Nat) (f : Nat → List Int) : Prop where
 c : ∀ j, j < n → a = some ⟨G, 0, none⟩ ∧ W.cell? ⟨G, j, none⟩ = some (.slice (ts[j]?.getD noI).a 3 (ts[j]?.getD noI).cap) ∧ OwnX W (ts[j]?.getD noI).a (bs j) 3 (f j) ∧ bs j ≠ G
 d : ∀ i j, i < j → j < n → bs i < bs j
theorem SL.ext {W : World} {a : Option Addr} {G n : Nat} {ts : List IV} {bs : Nat → Nat} {f g : Nat → List Int} (h : SL W a G n ts bs f) (e : ∀ j, j < n → f j = g j) : SL W a G n ts bs g := ⟨fun j hj => by rw [← e j hj]; exact h.c j hj, h.d⟩
theorem SL.none (W : World) (a : Option Addr) (G : Nat) (ts : List IV) (bs : Nat → Nat) (f : Nat → List Int) : SL W a G 0 ts bs f := ⟨fun j hj => by omega, fun i j _ hj => by omega⟩
theorem JO.sl {w W : World} {G n cG : Nat} {ts : List IV} {bs : Nat → Nat} (j : JO w (.slice (some ⟨G, 0, Option.none⟩) n cG) ts bs W) (hn : ts.length = n) : SL W (some ⟨G, 0, Option.none⟩) G n ts bs (fun i => (ts[i]?.getD noI).x) := by
 subst hn
 refine ⟨fun i hi => ?_, j.d⟩
 obtain ⟨a, b, c, d⟩ := j.k i hi
 refine ⟨rfl, ?_, b, fun e => d (by rw [e]; rfl)⟩
 rw [own_cell j.o i (by omega), List.getElem?_map, List.getElem?_eq_getElem hi]
 rw [List.getElem?_eq_getElem hi] at a
 simp only [Option.getD_some] at a
 simp [IV.v, a]
theorem SL.isg {W : World} {a : Option Addr} {G n : Nat} {ts : List IV} {bs : Nat → Nat} (h : SL W a G n ts bs (fun i => (ts[i]?.getD noI).x)) (hn : ts.length = n) (h3 : ∀ i, i < n → (ts[i]?.getD noI).n = 3) : ISG W a ts := fun i hi => by
 obtain ⟨h1, h2, hx, _⟩ := h.c i (by omega)
 refine ⟨G, 0, h1, ?_, ?_, by rw [h3 i (by omega)]; omega⟩
 ·rw [Nat.zero_add, h2, IV.v, h3 i (by omega)]
 ·rw [h3 i (by omega)]; exact hx.ints

end Go.Proofs.YtdigmokjedckeaaGreatDoor
namespace Go.Proofs.YtdigmokjedckeaaGreatDoor
open Go.RowKit
set_option linter.unusedVariables false

theorem goW_copies {ls gs : List LV} (hl : gs.length = ls.length) (h : copiesL ls gs) (f : Nat) : ∀ (i : Nat) (y : Way), goW gs f i y = goW ls f i y := by
 induction f with
 | zero => intro i y; rfl
 | succ f ih =>
  intro i y
  rw [goW, goW, hl]
  by_cases hi : i < ls.length
  ·obtain ⟨a1, a2, a3, a4, a5, a6, _⟩ := h i (by omega)
   have e : intoX (gs[i]?.getD noLV).f y.pots = intoX (ls[i]?.getD noLV).f y.pots := by rw [intoX, intoX, a4, a5, a6]
   rw [if_pos hi, if_pos hi, a1, a2, a3, e, ih, ih, ih, ih]
  ·rw [if_neg hi, if_neg hi]
theorem rowsL_copies {ls gs : List LV} (hl : gs.length = ls.length) (h : copiesL ls gs) : rowsL gs = rowsL ls := goW_copies hl h 7 0 way0

/-- How many bools are answered. -/
def lenB (v : Bool) : Nat := if v then 3 else 0
end Go.Proofs.YtdigmokjedckeaaGreatDoor
namespace Go.Proofs.YtdigmokjedckeaaGreatDoor
open Go.ChangeShapes Go.WideShapes Go.ChangeAt Go.RowKit Go.Joins
set_option linter.unusedVariables false
set_option maxRecDepth 100000

/-- A plan as a value. -/
abbrev plV (cl : Int) (ad : Option Addr) (N cap : Nat) (ga : Option Addr) (gn gc : Nat) (sa : Option Addr) (sn sc : Nat) : Value := .agg #[.int .i64 cl, .slice ad N cap, .slice ga gn gc, .slice sa sn sc]

/-- What a plan holds, that may be copied. -/
structure PlAt (w : World) (ad : Option Addr) (N : Nat) (ss : List L2V) (ga : Option Addr) (gn : Nat) (G : List Int) (sa : Option Addr) (sn : Nat) (S : List Int) : Prop where
 a : LSG w ad ss
 ha : ss.length = N
 za : N ≤ 1048576
 g : Ints w ga gn G
 zg : gn ≤ 1048576
 s : Ints w sa sn S
 zs : sn ≤ 1048576
theorem PlAt.below {w w' : World} {ad : Option Addr} {N : Nat} {ss : List L2V} {ga : Option Addr} {gn : Nat} {G : List Int} {sa : Option Addr} {sn : Nat} {S : List Int} (h : PlAt w ad N ss ga gn G sa sn S) (b : Below w.heap.size w w') : PlAt w' ad N ss ga gn G sa sn S :=
 ⟨h.a.below b, h.ha, h.za, h.g.below b, h.zg, h.s.below b, h.zs⟩
theorem PlAt.alloc {w : World} {ad : Option Addr} {N : Nat} {ss : List L2V} {ga : Option Addr} {gn : Nat} {G : List Int} {sa : Option Addr} {sn : Nat} {S : List Int} (h : PlAt w ad N ss ga gn G sa sn S) (o : Obj) : PlAt (w.alloc o) ad N ss ga gn G sa sn S :=
 h.below ((Below.refl _ _).alloc (Nat.le_refl _) _)

theorem Cel.quadP {w : World} {B : Nat} {x y z u : Value} {t : TypeId} (h : Cel w B [x, y, z, u] t) : w.cell? ⟨B, 0, none⟩ = some x ∧ w.cell? ⟨B, 1, none⟩ = some y ∧ w.cell? ⟨B, 2, none⟩ = some z ∧ w.cell? ⟨B, 3, none⟩ = some u := ⟨h.cell 0, h.cell 1, h.cell 2, h.cell 3⟩
/-- A box, and all that came before is as it was. -/
structure BP (w : World) (B : Nat) (la : List Value) (ty : TypeId) (W : World) : Prop where
 p : Cel W B la ty
 b : Below w.heap.size w W
theorem BP.new (w : World) (la : List Value) (ty : TypeId) : BP w w.heap.size la ty (w.alloc (.cells la.toArray ty)) := ⟨Cel.new w la ty, (Below.refl _ _).alloc (Nat.le_refl _) _⟩
theorem BP.below {w W W' : World} {B : Nat} {la : List Value} {ty : TypeId} (h : BP w B la ty W) (b : Below W.heap.size W W') : BP w B la ty W' := ⟨h.p.below b, h.b.trans (b.mono h.b.size)⟩
theorem BP.alloc {w W : World} {B : Nat} {la : List Value} {ty : TypeId} (h : BP w B la ty W) (o : Obj) : BP w B la ty (W.alloc o) := h.below ((Below.refl _ _).alloc (Nat.le_refl _) _)

theorem ML2.setLow {W : World} {B N : Nat} {ts : List L2V} (h : ML2 W B N ts) {X : Nat} (hX : X < B) (i : Nat) (v : Value) : ML2 (W.setCell ⟨X, i, none⟩ v) B N ts := by
 have T : Touch (fun x => x = X) W (W.setCell ⟨X, i, none⟩ v) := Touch.setCell (S := fun x => x = X) (Touch.refl _ _) rfl _
 obtain ⟨vs, h1, h2, h3⟩ := h.c
 obtain ⟨c, c1, c2, c3⟩ := h.d
 exact ⟨⟨vs, h1.setOther (by omega) _ _, h2, h3⟩, fun i hi => (h.l i hi).touch T (fun x hx => by omega), c, c1, by rw [size_setCell]; exact c2, c3⟩

set_option maxHeartbeats 1600000 in
theorem szP_any (cl : Int) (ad : Option Addr) (N cap : Nat) (ss : List L2V) (ga : Option Addr) (gn gc : Nat) (G : List Int) (sa : Option Addr) (sn sc : Nat) (S : List Int) (l : Int) (w : World)
  (ha : ss.length = N) (hA : LSM w ad ss) (hN1 : N ≤ maxLen) (hG : Ints w ga gn G) (hG1 : gn ≤ maxLen) (hS : Ints w sa sn S) (hS1 : sn ≤ maxLen) (h0 : 0 ≤ l) (hl : l ≤ 1048576) :
  Calls Tryz.prog 6 #[plV cl ad N cap ga gn gc sa sn sc, .int .i64 l] w fun e w' => ∃ r, e = .returned (.int .i64 r) ∧ -1 ≤ r ∧ r ≤ 1048576 ∧ (0 ≤ r → PlAt w ad N ss ga gn G sa sn S) ∧ Below w.heap.size w w' := by
 have n0 := BP.new w [.int .i64 cl, .slice ad N cap, .slice ga gn gc, .slice sa sn sc] 25
 have HA : Hid (ss.length = N) := ha
 clear ha
 go_enter Tryz.func6, Tryz.ntmps6
 go_wp2_with fail
 refine (szL2S_any _ _ _ ss _ _ HA.out (hA.below n0.b) hN1 h0 hl).mono ?_
 rintro e w1 ⟨r1, rfl, p1, q1, s1, b1⟩
 have n1 := n0.below b1
 obtain ⟨c0, c1, c2, c3⟩ := n1.p.quadP
 by_cases h1 : r1 < 0
 ·go_wp2
  go_ret
  exact ⟨-1, rfl, by omega, by omega, fun h => by omega, n1.b⟩
 have h1' : 0 ≤ r1 := by omega
 obtain ⟨zN, sN⟩ := s1 h1'
 have HSN : Hid _ := sN
 clear s1 sN h1
 have g2 := leftOf_ge r1 gn
 obtain ⟨r2, hr2⟩ : ∃ r, r = leftOf r1 gn := ⟨_, rfl⟩
 have HR2 : Hid _ := hr2
 rw [← hr2] at g2
 clear hr2
 go_wp2_with fail
 refine (sz_any _ _ _ _ _ hG1 h1' q1).mono ?_
 rintro e w2 ⟨rfl, rfl⟩
 rw [← HR2.out]
 by_cases h2 : r2 < 0
 ·go_wp2
  go_ret
  exact ⟨-1, rfl, by omega, by omega, fun h => by omega, n1.b⟩
 have h2' : 0 ≤ r2 := by omega
 have z2 := leftOf_le (l := r1) (n := gn) (by rw [← HR2.out]; exact h2')
 rw [← HR2.out] at z2
 have g3 := leftOf_ge r2 sn
 obtain ⟨r3, hr3⟩ : ∃ r, r = leftOf r2 sn := ⟨_, rfl⟩
 have HR3 : Hid _ := hr3
 rw [← hr3] at g3
 clear hr3 h2
 have q2 : r2 ≤ 1048576 := by omega
 have zg : gn ≤ 1048576 := by omega
 clear z2
 go_wp2_with fail
 refine (sz_any _ _ _ _ _ hS1 h2' q2).mono ?_
 rintro e w2 ⟨rfl, rfl⟩
 rw [← HR3.out]
 by_cases h3 : r3 < 0
 ·go_wp2
  go_ret
  exact ⟨-1, rfl, by omega, by omega, fun h => by omega, n1.b⟩
 have h3' : 0 ≤ r3 := by omega
 have z3 := leftOf_le (l := r2) (n := sn) (by rw [← HR3.out]; exact h3')
 rw [← HR3.out] at z3
 have q3 : r3 ≤ 1048576 := by omega
 have zs : sn ≤ 1048576 := by omega
 clear z3 h3
 go_wp2
 go_ret
 exact ⟨r3, rfl, by omega, q3, fun _ => ⟨hA.g HSN.out, HA.out, zN, hG, zg, hS, zs⟩, n1.b⟩

set_option maxHeartbeats 3200000 in
theorem toP_sep (cl : Int) (ad : Option Addr) (N cap : Nat) (ss : List L2V) (ga : Option Addr) (gn gc : Nat) (G : List Int) (sa : Option Addr) (sn sc : Nat) (S : List Int) (w : World) (h : PlAt w ad N ss ga gn G sa sn S) :
  Calls Tryz.prog 9 #[plV cl ad N cap ga gn gc sa sn sc] w fun e w' => ∃ B1 B2 B3 ts, e = .returned (plV cl (some ⟨B1, 0, none⟩) N N (some ⟨B2, 0, none⟩) gn gn (some ⟨B3, 0, none⟩) sn sn) ∧
   ts.length = N ∧ copiesL2S ss ts ∧ Below w.heap.size w w' ∧ ML2 w' B1 N ts ∧ Blk w' B2 G ∧ Blk w' B3 S ∧ w.heap.size ≤ B1 ∧ B2 < B3 ∧ B3 < w'.heap.size ∧ (∃ c : Nat → Nat, B1 < c 0 ∧ c N ≤ B2 ∧ ∀ i, i < N → c i ≤ c (i + 1) ∧ InR (c i) (c (i + 1)) (ts[i]?.getD noL)) := by
 have HN : Hid (ss.length = N) := h.ha
 have za := h.za
 have zg := h.zg
 have zs := h.zs
 go_enter Tryz.func9, Tryz.ntmps9
 go_wp2_with fail
 refine (toL2S_any _ _ _ ss _ HN.out (((h.alloc _).alloc _).alloc _).a za).mono ?_
 rintro e w1 ⟨ts, rfl, lt, cp, b1, m1⟩
 have HT : Hid (ts.length = N) := lt
 have HC : Hid (copiesL2S ss ts) := cp
 clear lt cp
 have p0 := (((Cel.new w _ _).alloc _).alloc _).below b1
 have pr := ((Cel.new (w.alloc _) _ _).alloc _).below b1
 have px := (Cel.new ((w.alloc _).alloc _) _ _).below b1
 rw [World.size_alloc] at pr
 rw [World.size_alloc, World.size_alloc] at px
 rw [World.size_alloc, World.size_alloc, World.size_alloc] at m1
 have s1 := m1.lt
 have HD : Hid (∃ c : Nat → Nat, w.heap.size + 1 + 1 + 1 < c 0 ∧ c N ≤ w1.heap.size ∧ ∀ i, i < N → c i ≤ c (i + 1) ∧ InR (c i) (c (i + 1)) (ts[i]?.getD noL)) := by
  obtain ⟨c, c1, c2, c3⟩ := m1.d
  rw [HT.out] at c2 c3
  exact ⟨c, c1, c2, c3⟩
 have B1 : Below w.heap.size w w1 := ((((Below.refl _ _).alloc (Nat.le_refl _) _).alloc (by simp) _).alloc (by simp; omega) _).trans (b1.mono (by simp; omega))
 clear b1
 obtain ⟨c0, c1, c2, c3⟩ := p0.quadP
 obtain ⟨d0, d1, d2, d3⟩ := px.quadP
 have f0 := px.free 1
 go_wp2_with fail
 have B1s := B1.setCell (p := ⟨w.heap.size + 1 + 1, 1, none⟩) (by show w.heap.size ≤ w.heap.size + 1 + 1; omega) (Value.slice (some ⟨w.heap.size + 1 + 1 + 1, 0, none⟩) N N)
 refine (to_any _ _ _ G _ (h.below B1s).g zg).mono ?_
 rintro e w2 ⟨rfl, b2, k2⟩
 clear c0 c1 c2 c3 d0 d1 d2 d3 f0
 have r0 := (p0.setOther (by omega) _ _).below b2
 have rr := (pr.setOther (by omega) _ _).below b2
 have rx := (px.set _ _).below b2
 have n1 := (m1.setLow (X := w.heap.size + 1 + 1) (by omega) 1 _).below b2
 have B2 := B1s.trans (b2.mono B1s.size)
 rw [size_setCell] at k2
 have s2 := k2.lt
 clear p0 pr px m1 b2 B1 B1s
 simp only [List.set_cons_zero, List.set_cons_succ] at rx
 obtain ⟨c0, c1, c2, c3⟩ := r0.quadP
 obtain ⟨d0, d1, d2, d3⟩ := rx.quadP
 have f0 := rx.free 2
 go_wp2_with fail
 have B2s := B2.setCell (p := ⟨w.heap.size + 1 + 1, 2, none⟩) (by show w.heap.size ≤ w.heap.size + 1 + 1; omega) (Value.slice (some ⟨w1.heap.size, 0, none⟩) gn gn)
 refine (to_any _ _ _ S _ (h.below B2s).s zs).mono ?_
 rintro e w3 ⟨rfl, b3, k3⟩
 clear c0 c1 c2 c3 d0 d1 d2 d3 f0
 have tr := (rr.setOther (by omega) _ _).below b3
 have tx := (rx.set _ _).below b3
 have n1' := (n1.setLow (X := w.heap.size + 1 + 1) (by omega) 2 _).below b3
 have k2' := (k2.setOther (B' := w.heap.size + 1 + 1) (by omega) 2 _).below b3
 have B3 := B2s.trans (b3.mono B2s.size)
 rw [size_setCell] at k3
 have s3 := k3.lt
 clear r0 rr rx n1 k2 b3 B2 B2s
 simp only [List.set_cons_zero, List.set_cons_succ] at tx
 obtain ⟨d0, d1, d2, d3⟩ := tx.quadP
 obtain ⟨e0, e1, e2, e3⟩ := tr.quadP
 have f0 := tx.free 3
 have f2 := tr.free 0
 have f3 := tr.free 1
 have f4 := tr.free 2
 have f5 := tr.free 3
 have hlt1 : w.heap.size + 1 < w3.heap.size := by omega
 have hlt2 : w.heap.size + 1 + 1 < w3.heap.size := by omega
 go_wp2
 refine bodyPost_ret (v := plV cl (some ⟨w.heap.size + 1 + 1 + 1, 0, none⟩) N N (some ⟨w1.heap.size, 0, none⟩) gn gn (some ⟨w2.heap.size, 0, none⟩) sn sn) (by simp [results, Tryz.results9, go_sem, e0, e1, e2, e3]) rfl ⟨_, _, _, ts, rfl, HT.out, HC.out, ?_, ?_, ?_, ?_, by omega, by omega, by simp only [size_setCell]; omega, HD.out⟩
 ·exact ((((B3.setCell (by simp only []; omega) _).setCell (by simp only []; omega) _).setCell (by simp only []; omega) _).setCell (by simp only []; omega) _).setCell (by simp only []; omega) _
 ·exact ((((n1'.setLow (by omega) _ _).setLow (by omega) _ _).setLow (by omega) _ _).setLow (by omega) _ _).setLow (by omega) _ _
 ·exact ((((k2'.setOther (by omega) _ _).setOther (by omega) _ _).setOther (by omega) _ _).setOther (by omega) _ _).setOther (by omega) _ _
 ·exact ((((k3.setOther (by omega) _ _).setOther (by omega) _ _).setOther (by omega) _ _).setOther (by omega) _ _).setOther (by omega) _ _

theorem toP_any (cl : Int) (ad : Option Addr) (N cap : Nat) (ss : List L2V) (ga : Option Addr) (gn gc : Nat) (G : List Int) (sa : Option Addr) (sn sc : Nat) (S : List Int) (w : World) (h : PlAt w ad N ss ga gn G sa sn S) :
  Calls Tryz.prog 9 #[plV cl ad N cap ga gn gc sa sn sc] w fun e w' => ∃ B1 B2 B3 ts, e = .returned (plV cl (some ⟨B1, 0, none⟩) N N (some ⟨B2, 0, none⟩) gn gn (some ⟨B3, 0, none⟩) sn sn) ∧
   ts.length = N ∧ copiesL2S ss ts ∧ Below w.heap.size w w' ∧ ML2 w' B1 N ts ∧ Blk w' B2 G ∧ Blk w' B3 S :=
 (toP_sep cl ad N cap ss ga gn gc G sa sn sc S w h).mono fun e w' hx => by
  obtain ⟨B1, B2, B3, ts, h1, h2, h3, h4, h5, h6, h7, _⟩ := hx
  exact ⟨B1, B2, B3, ts, h1, h2, h3, h4, h5, h6, h7⟩

theorem copies_mapP {ss ts : List L2V} (hl : ts.length = ss.length) (h : copiesL2S ss ts) : ts.map L2V.ok = ss.map L2V.ok := by
 apply List.ext_getElem?
 intro i
 by_cases hi : i < ts.length
 ·obtain ⟨e1, e2, e3⟩ := h i hi
  have : (ts[i]?.getD noL).ok = (ss[i]?.getD noL).ok := by rw [L2V.ok, L2V.ok, e1]; exact copiesL_act e2 e3
  rw [List.getElem?_eq_getElem hi, List.getElem?_eq_getElem (by omega)] at this
  simp only [Option.getD_some] at this
  rw [List.getElem?_map, List.getElem?_map, List.getElem?_eq_getElem hi, List.getElem?_eq_getElem (by omega)]
  simp [this]
 ·rw [List.getElem?_eq_none (by simp; omega), List.getElem?_eq_none (by simp; omega)]
theorem copies_catP {ss ts : List L2V} {N : Nat} (hl : ts.length = ss.length) (h : copiesL2S ss ts) : catB N ts = catB N ss := by
 have h3 := copies_mapP hl h
 have e1 : ∀ xs : List L2V, xs.all L2V.ok = (xs.map L2V.ok).all id := fun xs => by simp [List.all_map]
 rw [catB, catB, e1, e1, h3]
theorem copies_sameP {ss ts us : List L2V} {N : Nat} (h1 : ts.length = N) (h2 : us.length = N) (c1 : copiesL2S ss ts) (c2 : copiesL2S ss us) (hl : ∀ i, i < N → (ts[i]?.getD noL).x.length = (ts[i]?.getD noL).n) : ∀ i, i < N → sameL2 (ts[i]?.getD noL) (us[i]?.getD noL) := fun i hi => by
 obtain ⟨a1, a2, a3⟩ := c1 i (by omega)
 obtain ⟨b1, b2, b3⟩ := c2 i (by omega)
 refine ⟨by rw [a1, b1], fun j hj => ?_⟩
 have e1 := hl i hi
 exact copiesL_same (N := (ts[i]?.getD noL).n) e1 (by rw [b2, ← a2]; exact e1) a3 b3 j hj
theorem ML2.lens {W : World} {B N : Nat} {ts : List L2V} (h : ML2 W B N ts) (hl : ts.length = N) : ∀ i, i < N → (ts[i]?.getD noL).x.length = (ts[i]?.getD noL).n := fun i hi => by
 obtain ⟨b, off, _, _, h⟩ := h.g i (by rw [hl]; exact hi)
 exact h.1

set_option maxHeartbeats 1600000 in
/-- Held against a plan that holds the same. -/
theorem eqP_same (cl : Int) (ad : Option Addr) (N cap : Nat) (ss : List L2V) (ga : Option Addr) (gn gc : Nat) (G : List Int) (sa : Option Addr) (sn sc : Nat) (S : List Int) (ad' : Option Addr) (cap' : Nat) (ss' : List L2V) (ga' : Option Addr) (gc' : Nat) (sa' : Option Addr) (sc' : Nat) (w : World)
  (h : PlAt w ad N ss ga gn G sa sn S) (h' : PlAt w ad' N ss' ga' gn G sa' sn S) (hs : ∀ i, i < N → sameL2 (ss[i]?.getD noL) (ss'[i]?.getD noL)) :
  Calls Tryz.prog 12 #[plV cl ad N cap ga gn gc sa sn sc, plV cl ad' N cap' ga' gn gc' sa' sn sc'] w fun e w' => e = .returned (.bool true) ∧ Below w.heap.size w w' := by
 have E1 : Hid _ := hs
 clear hs
 have HG := eqB_refl G
 have HS := eqB_refl S
 have hcl : (cl != cl) = false := by simp
 have n0 := (BP.new w [.int .i64 cl, .slice ad N cap, .slice ga gn gc, .slice sa sn sc] 34).alloc (.cells #[.int .i64 cl, .slice ad' N cap', .slice ga' gn gc', .slice sa' sn sc'] 34)
 have y0 := Cel.new (w.alloc (.cells #[.int .i64 cl, .slice ad N cap, .slice ga gn gc, .slice sa sn sc] 34)) [.int .i64 cl, .slice ad' N cap', .slice ga' gn gc', .slice sa' sn sc'] 34
 rw [World.size_alloc] at y0
 go_enter Tryz.func12, Tryz.ntmps12
 go_wp2_with fail
 refine (eqL2S_same _ _ _ _ _ ss ss' _ h.ha h'.ha ((h.alloc _).alloc _).a ((h'.alloc _).alloc _).a h.za E1.out).mono ?_
 rintro e w1 ⟨rfl, b1⟩
 have n1 := n0.below b1
 have y1 := y0.below b1
 clear n0 y0 b1
 obtain ⟨c0, c1, c2, c3⟩ := n1.p.quadP
 obtain ⟨d0, d1, d2, d3⟩ := y1.quadP
 go_wp2_with fail
 refine (eq_any _ _ _ _ _ _ G G _ (h.below n1.b).g (h'.below n1.b).g h.zg h.zg).mono ?_
 rintro e w2 ⟨rfl, b2⟩
 rw [HG]
 have n2 := n1.below b2
 have y2 := y1.below b2
 clear n1 y1 b2 c0 c1 c2 c3 d0 d1 d2 d3
 obtain ⟨c0, c1, c2, c3⟩ := n2.p.quadP
 obtain ⟨d0, d1, d2, d3⟩ := y2.quadP
 go_wp2_with fail
 refine (eq_any _ _ _ _ _ _ S S _ (h.below n2.b).s (h'.below n2.b).s h.zs h.zs).mono ?_
 rintro e w3 ⟨rfl, b3⟩
 rw [HS]
 have n3 := n2.below b3
 go_wp2
 go_ret
 exact ⟨rfl, n3.b⟩

/-- A plan is ok. -/
def plnB (cl : Int) (N : Nat) (ss : List L2V) (gn : Nat) (G : List Int) (sn : Nat) (S : List Int) : Bool := inB cl 1 4 && (catB N ss && (okN 3 1000 sn S && trtB sn gn S G))

theorem open_LSC {H : Type} {enc : TypeId × Value → H} {W : World} {fuel : Nat} {v : Value} {y : DataW H × List MemPlace}
  (hf : DataW.trod enc Tryz.prog W 0 (fun _ => true) true fuel 22 [v] = some y) :
  ∃ ad N cap ss, v = .slice ad N cap ∧ ss.length = N ∧ LSM W ad ss ∧ N ≤ maxLen := by
 obtain ⟨ad, N, cap, ss, hv, hl, hN, hall⟩ := open_sliceC noL (fun s => [L2V.v s]) (fun s => LM W s) (c := 1) (by omega) Tryz.underlying22 (by kernel_rfl) (fun _ => rfl) (fun fuel cs x hx => by
  have hl : cs.length = 1 := (trod_lenL Tryz.underlying86 hx)
  match cs, hl with
  | [c], _ =>
   obtain ⟨s, hs, hr⟩ := open_L1 hx
   exact ⟨s, by rw [hs], hr⟩) hf
 refine ⟨ad, N, cap, ss, hv, hl, fun i hi => ?_, hN⟩
 obtain ⟨b, off, e, hc, hr⟩ := hall i hi
 have h0 := hc 0 (by omega)
 simp only [Nat.mul_one, Nat.add_zero, List.getElem?_cons_zero] at h0
 exact ⟨b, off, e, h0, hr⟩

theorem open_plan {H : Type} {enc : TypeId × Value → H} {W : World} {r : Reach} {b0 : Nat} {v : Value} {d : DataW H} {p : List MemPlace}
  (hv : Value.okWide Tryz.prog W r b0 25 v) (h : DataW.Trod enc Tryz.prog W 0 (fun _ => true) true 25 v d p) :
  ∃ cl ad N cap ss ga gn gc G sa sn sc S, v = plV cl ad N cap ga gn gc sa sn sc ∧ (Lit.int .i64 cl).wf = true ∧ ss.length = N ∧ LSM W ad ss ∧ N ≤ maxLen ∧ Ints W ga gn G ∧ gn ≤ maxLen ∧ Ints W sa sn S ∧ sn ≤ maxLen := by
 obtain ⟨v0, v1, v2, v3, y0, y1, y2, y3, k, rfl, -, -, h0, h1, h2, h3⟩ := open_agg4 Tryz.underlying25 (by kernel_rfl) (by kernel_rfl) hv h
 obtain ⟨cl, rfl, wc⟩ := open_num h0
 obtain ⟨ad, N, cap, ss, rfl, hl, hM, hN⟩ := open_LSC h1
 obtain ⟨ga, gn, gc, G, rfl, hG, hg⟩ := open_row h2
 obtain ⟨sa, sn, sc, S, rfl, hS, hs⟩ := open_row h3
 exact ⟨cl, ad, N, cap, ss, ga, gn, gc, G, sa, sn, sc, S, rfl, wc, hl, hM, hN, hG, hg, hS, hs⟩

end Go.Proofs.YtdigmokjedckeaaGreatDoor
namespace Go.Proofs.YtdigmokjedckeaaGreatDoor
open Go.RowKit
set_option linter.unusedVariables false

theorem rows_map {ss ts : List L2V} (hl : ts.length = ss.length) (h : copiesL2S ss ts) : ts.map (fun s => rowsL s.x) = ss.map (fun s => rowsL s.x) := by
 apply List.ext_getElem?
 intro i
 by_cases hi : i < ts.length
 ·obtain ⟨e1, e2, e3⟩ := h i hi
  have := rowsL_copies e2 e3
  rw [List.getElem?_eq_getElem hi, List.getElem?_eq_getElem (by omega)] at this
  simp only [Option.getD_some] at this
  rw [List.getElem?_map, List.getElem?_map, List.getElem?_eq_getElem hi, List.getElem?_eq_getElem (by omega)]
  simp [this]
 ·rw [List.getElem?_eq_none (by simp; omega), List.getElem?_eq_none (by simp; omega)]
theorem pins_copies {ss ts : List L2V} (hl : ts.length = ss.length) (h : copiesL2S ss ts) : pinsA ts = pinsA ss := by
 funext v
 have e : ∀ xs : List L2V, pinsA xs v = (xs.map (fun s => rowsL s.x)).any (fun r => readsR r v) := fun xs => by simp [pinsA, List.any_map, Function.comp_def]
 rw [e, e, rows_map hl h]
theorem catP_copies {ss ts : List L2V} (hl : ts.length = ss.length) (h : copiesL2S ss ts) : catP ts = catP ss := by
 have e : ∀ xs : List L2V, catP xs = (xs.map (fun s => rowsL s.x)).foldl rowsP pots3 := fun xs => by rw [catP, actsP, List.foldl_map]
 rw [e, e, rows_map hl h]

theorem icatpins_at (v : Bool) (R : Nat → Bool) (ad : Option Addr) (N cap : Nat) (gs : List L2V) (w : World) (hN : gs.length = N) (hF : LSG w ad gs) (hN1 : N ≤ 1048576) (hv : catB N gs = v) (hR : pinsA gs = R) :
  Calls Tryz.prog 77 #[.slice ad N cap] w fun e w' => ∃ a cp, e = .returned (.slice a (lenB v) cp) ∧ Below w.heap.size w w' ∧ (v = false ∨ (v = true ∧ ∃ G, a = some ⟨G, 0, none⟩ ∧ w.heap.size ≤ G ∧ OwnBB w' G R)) := by
 refine (icatpins_any ad N cap gs w hN hF hN1).mono ?_
 rintro e w' ⟨b, ⟨h, rfl⟩ | ⟨h, G, cG, rfl, hG, o⟩⟩
 ·rw [hv] at h; subst h
  exact ⟨_, 0, rfl, b, Or.inl rfl⟩
 ·rw [hv] at h; subst h; subst hR
  exact ⟨_, cG, rfl, b, Or.inr ⟨rfl, G, rfl, hG, o⟩⟩

end Go.Proofs.YtdigmokjedckeaaGreatDoor
namespace Go.Proofs.YtdigmokjedckeaaGreatDoor
open Go.RowKit
set_option linter.unusedVariables false
set_option maxRecDepth 100000

/-- What is told of acts. -/
def catT (v : Bool) (ps : List (List Int)) : List (List Int) := if v then ps else []
def tF (T : List (List Int)) (i : Nat) : List Int := T[i]?.getD []
theorem map_at {ts : List IV} {T : List (List Int)} (h : ts.map IV.x = T) {i : Nat} (hi : i < T.length) : (ts[i]?.getD noI).x = tF T i := by
 subst h
 rw [List.length_map] at hi
 rw [tF, List.getElem?_map, List.getElem?_eq_getElem hi]; rfl
theorem map_len {ts : List IV} {T : List (List Int)} (h : ts.map IV.x = T) : ts.length = T.length := by rw [← h, List.length_map]
/-- The program's answer, in memory of its own. -/
def UF (W : World) (a : Option Addr) (lo : Nat) (T : List (List Int)) (f : Nat → List Int) : Prop := ∃ G ts bs, SL W a G T.length ts bs f ∧ ts.map IV.x = T ∧ (∀ i, i < T.length → (ts[i]?.getD noI).n = 3) ∧ (0 < T.length → lo ≤ G) ∧ ∀ j, j < T.length → lo ≤ bs j
theorem UF.isg {W : World} {a : Option Addr} {lo : Nat} {T : List (List Int)} (h : UF W a lo T (tF T)) : ∃ ts, ISG W a ts ∧ ts.map IV.x = T := by
 obtain ⟨G, ts, bs, s, r1, r2, _⟩ := h
 exact ⟨ts, (s.ext (fun j hj => (map_at r1 hj).symm)).isg (map_len r1) r2, r1⟩

theorem icatforms_at (T : List (List Int)) (ad : Option Addr) (N cap : Nat) (gs : List L2V) (w : World) (hN : gs.length = N) (hF : LSG w ad gs) (hN1 : N ≤ 1048576) (hT : catT (catB N gs) (catP gs) = T) :
  Calls Tryz.prog 75 #[.slice ad N cap] w fun e w' => ∃ a cp, e = .returned (.slice a T.length cp) ∧ Below w.heap.size w w' ∧ UF w' a w.heap.size T (tF T) := by
 refine (icatforms_any ad N cap gs w hN hF hN1).mono ?_
 rintro e w' ⟨b, ⟨h, rfl⟩ | ⟨h, G, cG, ts, bs, rfl, hx, jo⟩⟩
 ·rw [h, catT] at hT
  simp only [Bool.false_eq_true, if_false] at hT
  subst hT
  exact ⟨_, 0, rfl, b, 0, [], fun _ => 0, SL.none _ _ _ _ _ _, rfl, fun i hi => by simp at hi, fun h => by simp at h, fun j hj => by simp at hj⟩
 ·rw [h, catT] at hT
  simp only [if_true] at hT
  rw [hT] at hx jo ⊢
  have hl := map_len hx
  have s := jo.sl hl
  refine ⟨_, cG, rfl, b, G, ts, bs, s.ext (fun j hj => map_at hx hj), hx, fun i hi => (jo.k i (by omega)).1, fun _ => (jo.blk (g := G) rfl).1, fun j hj => (jo.k j (by omega)).2.2.1⟩

end Go.Proofs.YtdigmokjedckeaaGreatDoor
namespace Go.Proofs.YtdigmokjedckeaaGreatDoor
open Go.RowKit Go.Deep
set_option linter.unusedVariables false
set_option maxRecDepth 100000

/-- Nothing was added to a pinned pot, as far as k. -/
def stillTo (R : Nat → Bool) (E : List Int) (k : Nat) : Bool := (List.range k).all fun v => !(R v && decide (E[v]?.getD 0 ≠ 0))
def stillB (R : Nat → Bool) (E : List Int) : Bool := stillTo R E 3
theorem still_succ (R : Nat → Bool) (E : List Int) (k : Nat) : stillTo R E (k + 1) = (stillTo R E k && !(R k && decide (E[k]?.getD 0 ≠ 0))) := by
 rw [stillTo, List.range_succ, List.all_append]; simp [stillTo]
theorem still_no {R : Nat → Bool} {E : List Int} {k : Nat} (h : k < 3) (h1 : R k = true) (h2 : E[k]?.getD 0 ≠ 0) : stillB R E = false := by
 rw [stillB, stillTo, List.all_eq_false]
 exact ⟨k, by simpa using h, by simp [h1, h2]⟩
theorem still_go {R : Nat → Bool} {E : List Int} {k : Nat} (h : stillTo R E k = true) (h1 : R k = false ∨ E[k]?.getD 0 = 0) : stillTo R E (k + 1) = true := by
 rw [still_succ, h]
 rcases h1 with h1 | h1 <;> simp [h1]

set_option maxHeartbeats 800000 in
theorem sstill_any (a : Option Addr) (cap : Nat) (c : Option Addr) (cap' : Nat) (R : Nat → Bool) (E : List Int) (w : World) (hR : BA w a 3 R) (hE : Ints w c 3 E) :
  Calls Tryz.prog 66 #[.slice a 3 cap, .slice c 3 cap'] w fun e w' => e = .returned (.bool (stillB R E)) ∧ w' = w := by
 go_enter Tryz.func66, Tryz.ntmps66
 go_wp2_with fail
 go_loop [5] (fun i => ∃ k : Nat, k ≤ 3 ∧ i = .int .i64 k ∧ stillTo R E k = true) (fun i => 3 - (intOf i).toNat)
 case atStart => exact ⟨0, Nat.zero_le _, rfl, rfl⟩
 case round =>
  obtain ⟨k, hk, rfl, hall⟩ := hrel
  have HA : Hid _ := hall
  clear hall
  by_cases hlt : k < 3
  ·obtain ⟨b, off, rfl, hc⟩ := hR k hlt
   obtain ⟨b', off', rfl, hcell'⟩ := hE.pos (by omega)
   have hd := hcell' k hlt
   clear hcell'
   have hlt' : (k : Int) < 3 := by omega
   cases h1 : R k
   ·rw [h1] at hc
    go_wp2
    go_round
    case rel => exact ⟨k + 1, by omega, by go_num, still_go HA.out (Or.inl h1)⟩
    case measure => simp [intOf]; omega
   ·rw [h1] at hc
    cases h2 : (E[k]?.getD 0 != 0)
    ·have h2' : E[k]?.getD 0 = 0 := by simpa using h2
     have H2 : Hid _ := h2'
     clear h2'
     go_wp2
     go_round
     case rel => exact ⟨k + 1, by omega, by go_num, still_go HA.out (Or.inr H2.out)⟩
     case measure => simp [intOf]; omega
    ·have H2 : Hid (E[k]?.getD 0 ≠ 0) := by show _ ≠ _; simpa using h2
     go_wp2
     go_ret
     exact ⟨ret_bool (by rw [still_no hlt h1 H2.out]), rfl⟩
  ·obtain rfl : k = 3 := by omega
   go_wp2
   go_ret
   exact ⟨ret_bool (by rw [stillB, HA.out]), rfl⟩

set_option maxHeartbeats 800000 in
theorem ipinned_any (a : Option Addr) (cap : Nat) (c : Option Addr) (cap' : Nat) (R : Nat → Bool) (E : List Int) (w : World) (hR : BA w a 3 R) (hE : Ints w c 3 E) :
  Calls Tryz.prog 76 #[.slice a 3 cap, .slice c 3 cap'] w fun e w' => e = .returned (.bool (!stillB R E)) ∧ w' = w := by
 go_enter Tryz.func76, Tryz.ntmps76
 go_wp2_with fail
 go_loop [5, 6, 9] (fun _ _ i => ∃ k : Nat, k ≤ 3 ∧ i = .int .i64 k ∧ stillTo R E k = true) (fun _ _ i => 3 - (intOf i).toNat)
 case atStart => exact ⟨0, Nat.zero_le _, rfl, rfl⟩
 case round =>
  obtain ⟨k, hk, rfl, hall⟩ := hrel
  have HA : Hid _ := hall
  clear hall
  by_cases hlt : k < 3
  ·obtain ⟨b, off, rfl, hc⟩ := hR k hlt
   obtain ⟨b', off', rfl, hcell'⟩ := hE.pos (by omega)
   have hd := hcell' k hlt
   clear hcell'
   have hlt' : (k : Int) < 3 := by omega
   cases h1 : R k
   ·rw [h1] at hc
    go_wp2
    go_round
    case rel => exact ⟨k + 1, by omega, by go_num, still_go HA.out (Or.inl h1)⟩
    case measure => simp [intOf]; omega
   ·rw [h1] at hc
    cases h2 : (E[k]?.getD 0 != 0)
    ·have h2' : E[k]?.getD 0 = 0 := by simpa using h2
     have H2 : Hid _ := h2'
     clear h2'
     go_wp2
     go_round
     case rel => exact ⟨k + 1, by omega, by go_num, still_go HA.out (Or.inr H2.out)⟩
     case measure => simp [intOf]; omega
    ·have H2 : Hid (E[k]?.getD 0 ≠ 0) := by show _ ≠ _; simpa using h2
     go_wp2
     go_ret
     exact ⟨ret_bool (by rw [still_no hlt h1 H2.out]; rfl), rfl⟩
  ·obtain rfl : k = 3 := by omega
   go_wp2
   go_ret
   exact ⟨ret_bool (by rw [stillB, HA.out]; rfl), rfl⟩

/-- What a site has added keeps within a treaty, with these parts. -/
def keepT (n m : Nat) (C D : List Int) (T : List (List Int)) (s : Int) (k : Nat) (E : List Int) : Bool := keepB n m C D (T.map fun x => ⟨none, x.length, 0, x⟩) s k E
theorem keep_of {w : World} {a : Option Addr} {ts : List IV} {T : List (List Int)} (h : ISG w a ts) (hT : ts.map IV.x = T) {n m : Nat} {C D : List Int} {s : Int} {k : Nat} {E : List Int} : keepB n m C D ts s k E = keepT n m C D T s k E := by
 have hl := map_len hT
 refine keepB_copy (by simp [hl]) (fun i hi => ?_)
 obtain ⟨b, off, -, -, hI, -⟩ := h i hi
 have e := map_at hT (i := i) (by omega)
 have e2 : ((T.map fun x => (⟨none, x.length, 0, x⟩ : IV))[i]?.getD noI) = ⟨none, (tF T i).length, 0, tF T i⟩ := by
  rw [List.getElem?_map, tF, List.getElem?_eq_getElem (by omega)]; rfl
 rw [e2]
 exact ⟨by show _ = _; rw [← hI.1, e], e⟩
/-- What follows from it. -/
theorem keepT_elim {n m : Nat} {C D : List Int} {T : List (List Int)} {s : Int} {k : Nat} {E : List Int} (h : keepT n m C D T s k E = true) : okN 3 10000 n C = true ∧ inB s 0 ((m : Int) - 1) = true ∧ k = 3 := by
 have hv : viewB n m C D (T.map fun x => ⟨none, x.length, 0, x⟩) s k E = true := by
  simp only [keepT, keepB, Bool.and_eq_true] at h
  exact h.1
 have e := viewB_elim hv
 simp only [viewB, trtB, Bool.and_eq_true] at hv
 exact ⟨hv.1.1, hv.2.2.1, e.2.2.2.2.2.2.2.1⟩

theorem goW_guards {ls : List LV} (f : Nat) : ∀ (i : Nat) (y : Way) (r : RowM), r ∈ goW ls f i y → r.guards.length ≤ y.guards.length + f := by
 induction f with
 | zero =>
  intro i y r h
  simp only [goW, List.mem_singleton] at h
  subst h
  simp [endW]
 | succ f ih =>
  intro i y r h
  rw [goW] at h
  by_cases hi : i < ls.length
  ·rw [if_pos hi] at h
   by_cases h1 : (ls[i]?.getD noLV).kind = 1
   ·rw [if_pos h1, List.mem_append] at h
    rcases h with h | h
    ·have := ih _ _ _ h
     simp only [Way.guard, List.length_append, List.length_cons, List.length_nil] at this
     omega
    ·have := ih _ _ _ h
     simp only [Way.guard, List.length_append, List.length_cons, List.length_nil] at this
     omega
   ·rw [if_neg h1] at h
    by_cases h2 : (ls[i]?.getD noLV).kind = 2
    ·rw [if_pos h2] at h
     have := ih _ _ _ h
     simp only [Way.add] at this
     omega
    ·rw [if_neg h2] at h
     by_cases h3 : (ls[i]?.getD noLV).kind = 3
     ·rw [if_pos h3] at h
      have := ih _ _ _ h
      simp only [Way.tell] at this
      omega
     ·rw [if_neg h3, List.mem_singleton] at h
      subst h
      simp only [stopW]
      omega
  ·rw [if_neg hi, List.mem_singleton] at h
   subst h
   simp only [endW]
   omega
theorem addP_most (ps : List (List Int)) (p : List Int) : (addPb ps p).length ≤ ps.length + 1 := by
 unfold addPb
 split
 ·omega
 ·simp
theorem guardsP_most (fs : List Frm) : ∀ ps : List (List Int), (guardsP ps fs).length ≤ ps.length + fs.length := by
 induction fs with
 | nil => intro ps; simp [guardsP]
 | cons f fs ih =>
  intro ps
  have h1 := ih (addPb ps (partL f.1))
  have h2 := addP_most ps (partL f.1)
  have e : guardsP ps (f :: fs) = guardsP (addPb ps (partL f.1)) fs := rfl
  rw [e, List.length_cons]
  omega
theorem rowsP_most (rs : List RowM) (M : Nat) : ∀ ps : List (List Int), (∀ r ∈ rs, r.guards.length ≤ M) → (rowsP ps rs).length ≤ ps.length + rs.length * M := by
 induction rs with
 | nil => intro ps _; simp [rowsP]
 | cons r rs ih =>
  intro ps h
  have h1 := ih (guardsP ps r.guards) (fun x hx => h x (List.mem_cons_of_mem _ hx))
  have h2 := guardsP_most r.guards ps
  have h3 := h r List.mem_cons_self
  have e : rowsP ps (r :: rs) = rowsP (guardsP ps r.guards) rs := rfl
  rw [e, List.length_cons, Nat.succ_mul]
  omega
theorem actsP_most (ss : List L2V) : ∀ ps : List (List Int), (actsP ps ss).length ≤ ps.length + ss.length * 896 := by
 induction ss with
 | nil => intro ps; simp [actsP]
 | cons s ss ih =>
  intro ps
  have h1 := ih (rowsP ps (rowsL s.x))
  have h2 := rowsP_most (rowsL s.x) 7 ps (fun r hr => by have := goW_guards 7 0 way0 r hr; simpa [way0] using this)
  have h3 : (rowsL s.x).length ≤ 128 := goW_128 (by omega)
  have h4 : (rowsL s.x).length * 7 ≤ 128 * 7 := Nat.mul_le_mul_right _ h3
  have e : actsP ps (s :: ss) = actsP (rowsP ps (rowsL s.x)) ss := rfl
  rw [e, List.length_cons]
  omega
/-- Of four acts there are not so many parts. -/
theorem catP_len {ss : List L2V} (h : ss.length ≤ 4) : (catP ss).length ≤ 600000 := by
 have h1 := actsP_most ss pots3
 have h2 : pots3.length = 3 := rfl
 show (actsP pots3 ss).length ≤ 600000
 omega

end Go.Proofs.YtdigmokjedckeaaGreatDoor
namespace Go.Proofs.YtdigmokjedckeaaGreatDoor
open Go.RowKit
set_option linter.unusedVariables false
set_option maxRecDepth 100000

theorem one_ints (w : World) (x : Int) (t : TypeId) : Ints (w.alloc (.cells #[.int .i64 x] t)) (some ⟨w.heap.size, 0, none⟩) 1 [x] :=
 ⟨rfl, fun i hi => ⟨w.heap.size, 0, rfl, by
  obtain rfl : i = 0 := by omega
  simp [go_sem]⟩⟩

theorem PlAt.drewP {w : World} {ad : Option Addr} {N : Nat} {ss : List L2V} {ga : Option Addr} {gn : Nat} {G : List Int} {sa : Option Addr} {sn : Nat} {S : List Int} (h : PlAt w ad N ss ga gn G sa sn S) : PlAt w.drew ad N ss ga gn G sa sn S := h.below (Below.refl _ _).drew

theorem bet_one (x lo hi : Int) : betB lo hi [x] = inB x lo hi := by simp [betB]
theorem pln_same {cl : Int} {N : Nat} {ss : List L2V} {gn : Nat} {G : List Int} {sn : Nat} {S : List Int} : (betB 1 4 [cl] && (catB N ss && (allB 1000 S && trtB sn gn S G))) = plnB cl N ss gn G sn S := by
 rw [plnB, bet_one]
 by_cases h : (sn : Int) = 3
 ·rw [okN_is h]
 ·rw [trtB, okN_not h, okN_not h]
  simp

set_option maxHeartbeats 1600000 in
theorem splnok_any (cl : Int) (ad : Option Addr) (N cap : Nat) (ss : List L2V) (ga : Option Addr) (gn gc : Nat) (G : List Int) (sa : Option Addr) (sn sc : Nat) (S : List Int) (w : World) (h : PlAt w ad N ss ga gn G sa sn S) :
  Calls Tryz.prog 24 #[plV cl ad N cap ga gn gc sa sn sc] w fun e w' => e = .returned (.bool (plnB cl N ss gn G sn S)) ∧ Below w.heap.size w w' := by
 have n0 := BP.new w [.int .i64 cl, .slice ad N cap, .slice ga gn gc, .slice sa sn sc] 34
 obtain ⟨x1, hx1⟩ : ∃ x, x = inB cl 1 4 := ⟨_, rfl⟩
 obtain ⟨x2, hx2⟩ : ∃ x, x = catB N ss := ⟨_, rfl⟩
 obtain ⟨x3, hx3⟩ : ∃ x, x = okN 3 1000 sn S := ⟨_, rfl⟩
 obtain ⟨x4, hx4⟩ : ∃ x, x = trtB sn gn S G := ⟨_, rfl⟩
 have HB : Hid (plnB cl N ss gn G sn S = (x1 && (x2 && (x3 && x4)))) := by show _ = _; rw [plnB, hx1, hx2, hx3, hx4]
 have H1 : Hid _ := hx1
 have H2 : Hid _ := hx2
 have H3 : Hid _ := hx3
 have H4 : Hid _ := hx4
 clear hx1 hx2 hx3 hx4
 go_enter Tryz.func24, Tryz.ntmps24
 go_wp2_with fail
 refine (in_any _ _ _ _).mono ?_
 rintro e w1 ⟨rfl, rfl⟩
 rw [← H1.out]
 cases x1
 ·go_wp2
  go_ret
  exact ⟨ret_bool (by rw [HB.out]; rfl), n0.b⟩
 go_wp2_with fail
 refine (scat_any _ _ _ ss _ h.ha (h.alloc _).a h.za).mono ?_
 rintro e w1 ⟨rfl, b1⟩
 rw [← H2.out]
 have n1 := n0.below b1
 obtain ⟨c0, c1, c2, c3⟩ := n1.p.quadP
 clear b1 n0
 cases x2
 ·go_wp2
  go_ret
  exact ⟨ret_bool (by rw [HB.out]; rfl), n1.b⟩
 go_wp2_with fail
 refine (all_any _ _ _ S _ _ _ (h.below n1.b).s h.zs (by omega) (by omega)).mono ?_
 rintro e w2 ⟨rfl, rfl⟩
 rw [← H3.out]
 cases x3
 ·go_wp2
  go_ret
  exact ⟨ret_bool (by rw [HB.out]; rfl), n1.b⟩
 go_wp2_with fail
 refine (strt_any _ _ _ _ _ _ S G _ (h.below n1.b).s (h.below n1.b).g h.zs h.zg).mono ?_
 rintro e w2 ⟨rfl, b2⟩
 rw [← H4.out]
 have n2 := n1.below b2
 go_wp2
 go_ret
 exact ⟨ret_bool (by rw [HB.out]; rfl), n2.b⟩

set_option maxHeartbeats 1600000 in
theorem iplnok_any (cl : Int) (ad : Option Addr) (N cap : Nat) (ss : List L2V) (ga : Option Addr) (gn gc : Nat) (G : List Int) (sa : Option Addr) (sn sc : Nat) (S : List Int) (w : World) (h : PlAt w ad N ss ga gn G sa sn S) :
  Calls Tryz.prog 31 #[plV cl ad N cap ga gn gc sa sn sc] w fun e w' => e = .returned (.bool (plnB cl N ss gn G sn S)) ∧ Below w.heap.size w w' := by
 have n0 := (BP.new w [.int .i64 cl, .slice ad N cap, .slice ga gn gc, .slice sa sn sc] 34).alloc (.cells #[.int .i64 cl] 3)
 obtain ⟨x1, hx1⟩ : ∃ x, x = betB 1 4 [cl] := ⟨_, rfl⟩
 obtain ⟨x2, hx2⟩ : ∃ x, x = catB N ss := ⟨_, rfl⟩
 obtain ⟨x3, hx3⟩ : ∃ x, x = allB 1000 S := ⟨_, rfl⟩
 obtain ⟨x4, hx4⟩ : ∃ x, x = trtB sn gn S G := ⟨_, rfl⟩
 have HB : Hid (plnB cl N ss gn G sn S = (x1 && (x2 && (x3 && x4)))) := by show _ = _; rw [← pln_same, hx1, hx2, hx3, hx4]
 have H1 : Hid _ := hx1
 have H2 : Hid _ := hx2
 have H3 : Hid _ := hx3
 have H4 : Hid _ := hx4
 clear hx1 hx2 hx3 hx4
 go_enter Tryz.func31, Tryz.ntmps31
 go_wp2_with fail
 refine (between_any _ _ _ [cl] _ _ _ (by have := one_ints (w.alloc (.cells #[.int .i64 cl, .slice ad N cap, .slice ga gn gc, .slice sa sn sc] 34)) cl 3; rw [World.size_alloc] at this; exact this) (by omega)).mono ?_
 rintro e w1 ⟨rfl, rfl⟩
 rw [← H1.out]
 cases x1
 ·go_wp2
  go_ret
  exact ⟨ret_bool (by rw [HB.out]; rfl), n0.b⟩
 go_wp2_with fail
 refine (icat_any _ _ _ ss _ h.ha ((h.alloc _).alloc _).a h.za).mono ?_
 rintro e w1 ⟨rfl, b1⟩
 rw [← H2.out]
 have n1 := n0.below b1
 obtain ⟨c0, c1, c2, c3⟩ := n1.p.quadP
 clear b1 n0
 cases x2
 ·go_wp2
  go_ret
  exact ⟨ret_bool (by rw [HB.out]; rfl), n1.b⟩
 go_wp2_with fail
 refine (within_any _ _ _ S _ _ (h.below n1.b).s h.zs (by omega) (by omega)).mono ?_
 rintro e w2 ⟨rfl, rfl⟩
 rw [← H3.out]
 cases x3
 ·go_wp2
  go_ret
  exact ⟨ret_bool (by rw [HB.out]; rfl), n1.b⟩
 go_wp2_with fail
 refine (itrt_any _ _ _ _ _ _ S G _ (h.below n1.b).s (h.below n1.b).g h.zs h.zg).mono ?_
 rintro e w2 ⟨rfl, b2⟩
 rw [← H4.out]
 have n2 := n1.below b2
 go_wp2
 go_ret
 exact ⟨ret_bool (by rw [HB.out]; rfl), n2.b⟩

theorem pln_parts {cl : Int} {N : Nat} {ss : List L2V} {gn : Nat} {G : List Int} {sn : Nat} {S : List Int} (h : plnB cl N ss gn G sn S = true) : (1 ≤ cl ∧ cl ≤ 4) ∧ (1 ≤ gn ∧ gn ≤ 3) := by
 simp only [plnB, trtB, Bool.and_eq_true] at h
 have h1 := inB_iff.1 h.1
 have h2 := inB_iff.1 h.2.2.2.2.1
 omega

end Go.Proofs.YtdigmokjedckeaaGreatDoor
namespace Go.Proofs.YtdigmokjedckeaaGreatDoor
open Go.ChangeShapes Go.WideShapes Go.ChangeAt Go.RowKit Go.Joins
set_option linter.unusedVariables false
set_option maxRecDepth 100000

/-- A result as a value. -/
abbrev resP (code : Int) (a : Option Addr) (n cap : Nat) : Value := .agg #[.int .i64 code, .slice a n cap]

theorem szR_any (code : Int) (a : Option Addr) (n cap : Nat) (l : Int) (w : World) (hn : n ≤ maxLen) (h0 : 0 ≤ l) (hl : l ≤ 1048576) :
  Calls Tryz.prog 95 #[resP code a n cap, .int .i64 l] w fun e w' => e = .returned (.int .i64 (leftOf l n)) ∧ Below w.heap.size w w' := by
 have g1 := leftOf_ge l n
 by_cases h : leftOf l n < 0
 ·go_enter Tryz.func95, Tryz.ntmps95
  go_wp2_with fail
  refine (sz_any _ _ _ _ _ hn h0 hl).mono ?_
  rintro e w1 ⟨rfl, rfl⟩
  go_wp2
  go_ret
  exact ⟨ret_int (by omega), (Below.refl _ _).alloc (Nat.le_refl _) _⟩
 ·go_enter Tryz.func95, Tryz.ntmps95
  go_wp2_with fail
  refine (sz_any _ _ _ _ _ hn h0 hl).mono ?_
  rintro e w1 ⟨rfl, rfl⟩
  go_wp2
  go_ret
  exact ⟨ret_int rfl, (Below.refl _ _).alloc (Nat.le_refl _) _⟩

set_option maxHeartbeats 800000 in
theorem toR_any (code : Int) (a : Option Addr) (n cap : Nat) (C : List Int) (w : World) (hC : Ints w a n C) (hn : n ≤ 1048576) :
  Calls Tryz.prog 102 #[resP code a n cap] w fun e w' => ∃ B1, e = .returned (resP code (some ⟨B1, 0, none⟩) n n) ∧ Below w.heap.size w w' ∧ w.heap.size ≤ B1 ∧ Blk w' B1 C := by
 go_enter Tryz.func102, Tryz.ntmps102
 go_wp2_with fail
 refine (to_any _ _ _ _ _ (((hC.alloc _).alloc _).alloc _) hn).mono ?_
 rintro e w1 ⟨rfl, b1, k1⟩
 have p1 := ((Cel.new (w.alloc _) _ _).alloc _).below b1
 have p2 := (Cel.new ((w.alloc _).alloc _) _ _).below b1
 rw [World.size_alloc] at p1
 rw [World.size_alloc, World.size_alloc] at p2
 rw [World.size_alloc, World.size_alloc, World.size_alloc] at k1
 have s1 := k1.lt
 have B1 : Below w.heap.size w w1 := ((((Below.refl _ _).alloc (Nat.le_refl _) _).alloc (by simp) _).alloc (by simp; omega) _).trans (b1.mono (by simp; omega))
 clear b1
 have g0 := p2.cell 0
 have g1 := p2.cell 1
 have g2 := p2.free 1
 have g6 := p1.cell 0
 have g7 := p1.cell 1
 have g9 := p1.free 0
 have g10 := p1.free 1
 simp only [List.getElem?_cons_zero, List.getElem?_cons_succ] at g0 g1 g6 g7
 have hlt1 : w.heap.size + 1 < w1.heap.size := by omega
 have hlt2 : w.heap.size + 1 + 1 < w1.heap.size := by omega
 go_wp2
 refine bodyPost_ret (v := resP code (some ⟨w.heap.size + 1 + 1 + 1, 0, none⟩) n n) (by simp [results, Tryz.results102, go_sem, g6, g7]) rfl ⟨_, rfl, ?_, by omega, ?_⟩
 ·exact (((B1.setCell (by simp only []; omega) _).setCell (by simp only []; omega) _).setCell (by simp only []; omega) _)
 ·exact (((k1.setOther (by omega) _ _).setOther (by omega) _ _).setOther (by omega) _ _)

theorem eqR_same (code : Int) (a : Option Addr) (n cap : Nat) (a' : Option Addr) (cap' : Nat) (tl : List Int) (w : World) (h : Ints w a n tl) (h' : Ints w a' n tl) (hn : n ≤ 1048576) :
  Calls Tryz.prog 115 #[resP code a n cap, resP code a' n cap'] w fun e w' => e = .returned (.bool true) ∧ Below w.heap.size w w' := by
 have hc : (code != code) = false := by simp
 have HE := eqB_refl tl
 go_enter Tryz.func115, Tryz.ntmps115
 go_wp2_with fail
 refine (eq_any _ _ _ _ _ _ tl tl _ ((h.alloc _).alloc _) ((h'.alloc _).alloc _) hn hn).mono ?_
 rintro e w1 ⟨rfl, b1⟩
 rw [HE]
 go_wp2
 go_ret
 exact ⟨rfl, (((Below.refl _ _).alloc (Nat.le_refl _) _).alloc (by simp) _).trans (b1.mono (by simp; omega))⟩

end Go.Proofs.YtdigmokjedckeaaGreatDoor
namespace Go.Proofs.YtdigmokjedckeaaGreatDoor
open Go.ChangeShapes Go.WideShapes Go.ChangeAt Go.RowKit Go.Joins Go.Deep
set_option linter.unusedVariables false
set_option maxRecDepth 100000

/-- One of them, and what it holds. -/
structure DV where
 q : Int
 c : Int
 t : IV
def noD : DV := ⟨0, 0, noI⟩
def DV.cs (f : DV) : List Value := [.int .i64 f.q, .int .i64 f.c, IV.v f.t]
def DM (w : World) (f : DV) : Prop := IM w f.t ∧ True
def DG (w : World) (f : DV) : Prop := IG w f.t ∧ True
def DZ (f : DV) : Prop := IS f.t ∧ True
def DK (w : World) (lo : Nat) (f : DV) : Prop := IK w lo f.t ∧ True
def copiesD (f g : DV) : Prop := g.q = f.q ∧ g.c = f.c ∧ copiesI f.t g.t ∧ True
def sameD (f g : DV) : Prop := f.q = g.q ∧ f.c = g.c ∧ sameI f.t g.t ∧ True
theorem DM.below {w w' : World} {f : DV} (h : DM w f) (hb : Below w.heap.size w w') : DM w' f := ⟨h.1.below hb, trivial⟩
theorem DG.below {w w' : World} {f : DV} (h : DG w f) (hb : Below w.heap.size w w') : DG w' f := ⟨h.1.below hb, trivial⟩
theorem DM.g {w : World} {f : DV} (h : DM w f) (hs : DZ f) : DG w f := ⟨(h.1).g hs.1, trivial⟩
theorem DK.below {w w' : World} {lo : Nat} {f : DV} (h : DK w lo f) (hb : Below w.heap.size w w') : DK w' lo f := ⟨h.1.below hb, trivial⟩
theorem DK.touch {S : Nat → Prop} {w w' : World} {lo : Nat} {f : DV} (h : DK w lo f) (t : Touch S w w') (hs : ∀ k, S k → k < lo) : DK w' lo f := ⟨h.1.touch t hs, trivial⟩
theorem DK.mono {w : World} {lo lo' : Nat} {f : DV} (h : DK w lo f) (hl : lo' ≤ lo) : DK w lo' f := ⟨h.1.mono hl, trivial⟩
theorem DK.g {w : World} {lo : Nat} {f : DV} (h : DK w lo f) : DG w f := ⟨h.1.g, trivial⟩

/-- What was done, as a value. -/
abbrev doV (s c : Int) (a : Option Addr) (n cap : Nat) : Value := .agg #[.int .i64 s, .int .i64 c, .slice a n cap]

theorem open_cells2 {H : Type} {enc : TypeId × Value → H} {W : World} {fuel : Nat} {t : TypeId} {f0 f1 : Field} {cs : List Value} {x : DataW H × List MemPlace} (hs : Tryz.prog.underlying t = some (.struct #[f0, f1])) (hone : oneCellFields Tryz.prog #[f0, f1] = true) (hC : Tryz.prog.cellsOf t = 2)
  (hf : DataW.trod enc Tryz.prog W 0 (fun _ => true) true fuel t cs = some x) :
  ∃ v0 v1 y0 y1 n, cs = [v0, v1] ∧ DataW.trod enc Tryz.prog W 0 (fun _ => true) true n f0.type [v0] = some y0 ∧ DataW.trod enc Tryz.prog W 0 (fun _ => true) true n f1.type [v1] = some y1 := by
 obtain ⟨y0, y1, n, _, hl, h0, h1⟩ := trod_struct2 hs hf
 obtain ⟨o0, k0⟩ := hone_of hone 0 f0 rfl
 obtain ⟨o1, k1⟩ := hone_of hone 1 f1 rfl
 have hl' : cs.length = 2 := hl.trans hC
 match cs, hl' with
 | [c0, c1], _ => exact ⟨c0, c1, y0, y1, n, rfl, by simpa [o0, k0] using h0, by simpa [o1, k1] using h1⟩

theorem open_DC {H : Type} {enc : TypeId × Value → H} {W : World} {fuel : Nat} {cs : List Value} {x : DataW H × List MemPlace}
  (hf : DataW.trod enc Tryz.prog W 0 (fun _ => true) true fuel 91 cs = some x) :
  ∃ f : DV, cs = f.cs ∧ DM W f := by
 obtain ⟨y0, y1, n, _, hl, h0, h1⟩ := trod_struct2 Tryz.underlying91 hf
 have hC : Tryz.prog.cellsOf 91 = 3 := by kernel_rfl
 have hl' : cs.length = 3 := hl.trans hC
 match cs, hl' with
 | [c0, c1, c2], _ =>
  have k3 : Tryz.prog.cellsOf 3 = 1 := by kernel_rfl
  have k57 : Tryz.prog.cellsOf 89 = 2 := by kernel_rfl
  simp only [k3, k57, List.drop_zero, List.drop_succ_cons, List.take_succ_cons, List.take_zero] at h0 h1
  obtain ⟨s, rfl, ws⟩ := open_num h0
  obtain ⟨v0, v1, z0, z1, k, e, r0, r1⟩ := open_cells2 Tryz.underlying89 (by kernel_rfl) (by kernel_rfl) h1
  obtain ⟨c, rfl, wc⟩ := open_num r0
  obtain ⟨a, m, cap, C, rfl, hC, hm⟩ := open_row r1
  simp only [List.cons.injEq, and_true] at e
  obtain ⟨rfl, rfl⟩ := e
  exact ⟨⟨s, c, ⟨a, m, cap, C⟩⟩, rfl, ⟨hC, hm⟩, trivial⟩

set_option maxHeartbeats 800000 in
theorem szD_ex (s c : Int) (ta : Option Addr) (tn tc : Nat) (tx : List Int) (l : Int) (w : World) (h : DM w ⟨s, c, ⟨ta, tn, tc, tx⟩⟩) (h0 : 0 ≤ l) (hl : l ≤ 1048576) :
  Calls Tryz.prog 52 #[doV s c ta tn tc, .int .i64 l] w fun e w' => ∃ r, e = .returned (.int .i64 r) ∧ -1 ≤ r ∧ r ≤ 1048576 ∧ (0 ≤ r → DZ ⟨s, c, ⟨ta, tn, tc, tx⟩⟩) ∧ Below w.heap.size w w' := by
 have hn : tn ≤ maxLen := h.1.2
 clear h
 have g1 := leftOf_ge l tn
 have B0 := (Below.refl w.heap.size w).alloc (Nat.le_refl _) (.cells #[.int .i64 s, .int .i64 c, .slice ta tn tc] 91)
 obtain ⟨r, hr⟩ : ∃ r, r = leftOf l tn := ⟨_, rfl⟩
 have HR : Hid _ := hr
 rw [← hr] at g1
 clear hr
 go_enter Tryz.func52, Tryz.ntmps52
 go_wp2_with fail
 refine (szR_any _ _ _ _ _ _ hn h0 hl).mono ?_
 rintro e w1 ⟨rfl, b1⟩
 rw [← HR.out]
 have B1 := B0.trans (b1.mono B0.size)
 by_cases h : r < 0
 ·go_wp2
  go_ret
  exact ⟨-1, rfl, by omega, by omega, fun h => by omega, B1⟩
 ·have h' : 0 ≤ r := by omega
  have z := leftOf_le (l := l) (n := tn) (by rw [← HR.out]; exact h')
  rw [← HR.out] at z
  have HZ : Hid (tn ≤ 1048576) := by show _ ≤ _; omega
  have hr2 : r ≤ 1048576 := by omega
  clear z
  go_wp2
  go_ret
  exact ⟨r, rfl, by omega, hr2, fun _ => ⟨HZ.out, trivial⟩, B1⟩

set_option maxHeartbeats 1600000 in
theorem toD_ex (s c : Int) (ta : Option Addr) (tn tc : Nat) (tx : List Int) (w : World) (h : DG w ⟨s, c, ⟨ta, tn, tc, tx⟩⟩) :
  Calls Tryz.prog 69 #[doV s c ta tn tc] w fun e w' => ∃ Pt Qt, e = .returned (doV s c Pt tn tn) ∧ Below w.heap.size w w' ∧ DK w' w.heap.size ⟨s, c, ⟨Pt, tn, tn, Qt⟩⟩ ∧ copiesD ⟨s, c, ⟨ta, tn, tc, tx⟩⟩ ⟨s, c, ⟨Pt, tn, tn, Qt⟩⟩ := by
 have hC : Ints w ta tn tx := h.1.1
 have hn : tn ≤ 1048576 := h.1.2
 clear h
 have HL : Hid (tx.length = tn) := hC.1
 go_enter Tryz.func69, Tryz.ntmps69
 go_wp2_with fail
 refine (toR_any _ _ _ _ tx _ (((hC.alloc _).alloc _).alloc _) hn).mono ?_
 rintro e w1 ⟨B1, rfl, b1, lB, k1⟩
 have p1 := ((Cel.new (w.alloc _) _ _).alloc _).below b1
 have p2 := (Cel.new ((w.alloc _).alloc _) _ _).below b1
 rw [World.size_alloc] at p1
 rw [World.size_alloc, World.size_alloc] at p2
 rw [World.size_alloc, World.size_alloc, World.size_alloc] at lB
 have s1 := k1.lt
 have BB : Below w.heap.size w w1 := ((((Below.refl _ _).alloc (Nat.le_refl _) _).alloc (by simp) _).alloc (by simp; omega) _).trans (b1.mono (by simp; omega))
 clear b1
 have g0 := p2.cell 0
 have g1 := p2.cell 1
 have g2 := p2.cell 2
 have f1 := p2.free 1
 have f2 := p2.free 2
 have e0 := p1.cell 0
 have e1 := p1.cell 1
 have e2 := p1.cell 2
 have h0 := p1.free 0
 have h1 := p1.free 1
 have h2 := p1.free 2
 simp only [List.getElem?_cons_zero, List.getElem?_cons_succ] at g0 g1 g2 e0 e1 e2
 have hlt1 : w.heap.size + 1 < w1.heap.size := by omega
 have hlt2 : w.heap.size + 1 + 1 < w1.heap.size := by omega
 go_wp2
 refine bodyPost_ret (v := doV s c (some ⟨B1, 0, none⟩) tn tn) (by simp [results, Tryz.results69, go_sem, e0, e1, e2]) rfl ⟨_, tx, rfl, ?_, ⟨⟨B1, rfl, by show _ ≤ _; omega, ?_, HL.out, hn⟩, trivial⟩, rfl, rfl, ⟨rfl, rfl⟩, trivial⟩
 ·exact ((((BB.setCell (by simp only []; omega) _).setCell (by simp only []; omega) _).setCell (by simp only []; omega) _).setCell (by simp only []; omega) _).setCell (by simp only []; omega) _
 ·exact ((((k1.setOther (by omega) _ _).setOther (by omega) _ _).setOther (by omega) _ _).setOther (by omega) _ _).setOther (by omega) _ _

set_option maxHeartbeats 1600000 in
theorem eqD_ex (s c : Int) (ta : Option Addr) (tn tc : Nat) (tx : List Int) (s' c' : Int) (ta' : Option Addr) (tn' tc' : Nat) (tx' : List Int) (w : World) (h : DG w ⟨s, c, ⟨ta, tn, tc, tx⟩⟩) (h' : DG w ⟨s', c', ⟨ta', tn', tc', tx'⟩⟩) (hs : sameD ⟨s, c, ⟨ta, tn, tc, tx⟩⟩ ⟨s', c', ⟨ta', tn', tc', tx'⟩⟩) :
  Calls Tryz.prog 80 #[doV s c ta tn tc, doV s' c' ta' tn' tc'] w fun e w' => e = .returned (.bool true) ∧ Below w.heap.size w w' := by
 obtain ⟨e1, e2, e3, -⟩ := hs
 have e1' : s = s' := e1
 have e2' : c = c' := e2
 have e3' : tx = tx' := e3
 have hI : Ints w ta tn tx := h.1.1
 have hI' : Ints w ta' tn' tx' := h'.1.1
 have hz : tn ≤ 1048576 := h.1.2
 have en : tn = tn' := by rw [← hI.1, ← hI'.1, e3']
 clear h h' e1 e2 e3
 subst e1' e2' e3' en
 have hc : (s != s) = false := by simp
 have x0 := (Cel.new w [.int .i64 s, .int .i64 c, .slice ta tn tc] 116).alloc (.cells #[.int .i64 s, .int .i64 c, .slice ta' tn tc'] 116)
 have y0 := Cel.new (w.alloc (.cells #[.int .i64 s, .int .i64 c, .slice ta tn tc] 116)) [.int .i64 s, .int .i64 c, .slice ta' tn tc'] 116
 rw [World.size_alloc] at y0
 obtain ⟨a0, a1, a2, -, -, -⟩ := x0.trio
 obtain ⟨b0, b1, b2, -, -, -⟩ := y0.trio
 go_enter Tryz.func80, Tryz.ntmps80
 go_wp2_with fail
 refine (eqR_same _ _ _ _ _ _ tx _ ((hI.alloc _).alloc _) ((hI'.alloc _).alloc _) hz).mono ?_
 rintro e w1 ⟨rfl, bb⟩
 go_wp2
 go_ret
 exact ⟨rfl, (((Below.refl _ _).alloc (Nat.le_refl _) _).alloc (by simp) _).trans (bb.mono (by simp; omega))⟩

end Go.Proofs.YtdigmokjedckeaaGreatDoor
