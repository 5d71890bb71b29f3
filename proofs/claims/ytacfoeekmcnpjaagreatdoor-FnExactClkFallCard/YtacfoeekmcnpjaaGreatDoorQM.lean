/-
  Lemmas that the claim's last text rests on.
-/
import Derived.Test.YtacfoeekmcnpjaaGreatDoorQL
namespace Go.Proofs.YtacfoeekmcnpjaaGreatDoor
open Go.RowKit Go.Deep
open List renaming setIfInBounds_toArray → qB, set_cons_zero → qC, set_cons_succ → qD, getElem?_eq_getElem → qE, getElem_cons_zero → qF, getElem_cons_succ → qG, getElem_toArray → qH, take_of_length_le → qI
open Nat renaming le_refl → qJ, zero_le → qK
set_option linter.unusedVariables false
set_option maxRecDepth 100000
set_option maxHeartbeats 25600000
variable {G S bx zs : List Int} {N bn cap cc dn ec en gc gn k kn n sc sn : Nat} {P R : Nat -> Bool} {T : List (List Int)} {a ad ea ga sa : Option Addr} {ac cl r sq : Int} {fs gs : List GV} {ss : List L2V} {u : Bool} {w : World}
theorem one_intsC (w : World) (x : Int) (t : TypeId) : Ints (w.alloc (.cells #[.int .i64 x] t)) (some ⟨w.heap.size, 0, none⟩) 1 [x] :=
 ⟨rfl, fun i hi => ⟨w.heap.size, 0, rfl, by
  obtain rfl : i = 0 := by omega
  simp [go_sem]⟩⟩
theorem bet_oneC (x lo hi : Int) : betB lo hi [x] = inB x lo hi := by simp [betB]
def cwordsL (t1 t2 t3 : ByteArray) (zs : List Int) : List ByteArray := [⟨wClient.toArray⟩, t1, ⟨wCall.toArray⟩, t2, ⟨wAct.toArray⟩, t3, ⟨wWith.toArray⟩] ++ zs.map fun z => ⟨(Lib.itoa z).toArray⟩
theorem cwords_step {t1 t2 t3 : ByteArray} (h : k < zs.length) : cwordsL t1 t2 t3 (zs.take (k + 1)) = cwordsL t1 t2 t3 (zs.take k) ++ [⟨(Lib.itoa (zs[k]?.getD 0)).toArray⟩] := by
 rw [cwordsL, cwordsL, List.take_succ_eq_append_getElem h, qE h, List.map_append, List.append_assoc]
 rfl
theorem cwords_join (cl sq ac : Int) (zs : List Int) : Lib.join ((cwordsL ⟨(Lib.itoa cl).toArray⟩ ⟨(Lib.itoa sq).toArray⟩ ⟨(Lib.itoa ac).toArray⟩ zs).map (·.data.toList)) [32] = callL cl sq ac zs := by
 rw [cwordsL, List.cons_append, List.map_cons, Lib.join_cons, callL, tailL]
 simp [Lib.joinTail, List.map_map, Function.comp_def]
theorem JT.lit7 (w : World) (x1 x2 x3 x4 x5 x6 x7 : ByteArray) : JT w (.slice (some ⟨w.heap.size, 0, none⟩) 7 7) [x1, x2, x3, x4, x5, x6, x7] (w.alloc (.cells #[.string x1, .string x2, .string x3, .string x4, .string x5, .string x6, .string x7] 9)) :=
 ⟨bal, World.ownsRow_lit w #[.string x1, .string x2, .string x3, .string x4, .string x5, .string x6, .string x7] 7 (qJ _) (by unfold maxLen; omega) rfl⟩
theorem ictext_any (zs : List Int) {w : World} (hC : Ints w a n zs) (hn : n <= 1048576) (hT : Lib.TabBelow Tryz.prog w.heap.size w "internal/strconv.uint64pow10" .u64 Lib.pow10Tab) :
  Calls Tryz.prog 208 #[clV cl sq ac a n cap] w fun e w' => e = .returned (.string ⟨(callText cl sq ac n zs).toArray⟩) /\ Below w.heap.size w w' := by
 have HTB : Hid _ := hT
 clear hT
 have q_0 := Cel.new w [.int .i64 cl, .int .i64 sq, .int .i64 ac, .slice a n cap] 106
 have B_0 := (Below.refl w.heap.size w).alloc (qJ _) (.cells #[.int .i64 cl, .int .i64 sq, .int .i64 ac, .slice a n cap] 106)
 have q_s := q_0.alloc (.cells #[.int .i64 sq] 3)
 have B_s := B_0.alloc B_0.size (.cells #[.int .i64 sq] 3)
 have i_s := one_intsC (w.alloc (.cells #[.int .i64 cl, .int .i64 sq, .int .i64 ac, .slice a n cap] 106)) sq 3
 rw [World.size_alloc] at i_s
 obtain ⟨i0, hi, hz0, hz1, hz2⟩ := info_parts Tryz.infoStr
 obtain ⟨x1, hx1⟩ : ∃ x, x = decide (0 <= cl /\ cl < 4) := ⟨_, rfl⟩
 obtain ⟨x2, hx2⟩ : ∃ x, x = betB 1 300 [sq] := ⟨_, rfl⟩
 obtain ⟨x3, hx3⟩ : ∃ x, x = decide (0 <= ac /\ ac < 4) := ⟨_, rfl⟩
 obtain ⟨x4, hx4⟩ : ∃ x, x = okN 2 9 n zs := ⟨_, rfl⟩
 have pl : ∀ z : Int, decide (0 <= z /\ z < 4) = inB z 0 3 := fun z => by
  cases h : inB z 0 3
  ·have := inB_not.1 h; simp; omega
  ·have := inB_iff.1 h; simp; omega
 have HB : Hid (callOkB cl sq ac n zs = (x1 && (x2 && (x3 && x4)))) := by show _ = _; rw [callOkB, hx1, hx2, hx3, hx4, bet_oneC, pl, pl]
 have H1 : Hid _ := hx1
 have H2 : Hid _ := hx2
 have H3 : Hid _ := hx3
 have H4 : Hid _ := hx4
 clear hx1 hx2 hx3 hx4 pl
 go_enter Tryz.func208, Tryz.ntmps208
 go_wp2_with fail
 refine (place_any).mono ?_
 rintro e w1 ⟨rfl, rfl⟩
 rw [<- H1.out]
 cases x1
 ·go_wp2
  go_ret
  exact ⟨ret_str (callText_no (by rw [HB.out]; rfl)).symm, B_0⟩
 go_wp2_with fail
 refine (between_any [sq] _ _ i_s (by omega)).mono ?_
 rintro e w1 ⟨rfl, rfl⟩
 rw [<- H2.out]
 clear i_s q_0
 cases x2
 ·go_wp2
  go_ret
  exact ⟨ret_str (callText_no (by rw [HB.out]; rfl)).symm, B_s⟩
 go_wp2_with fail
 refine (place_any).mono ?_
 rintro e w1 ⟨rfl, rfl⟩
 rw [<- H3.out]
 cases x3
 ·go_wp2
  go_ret
  exact ⟨ret_str (callText_no (by rw [HB.out]; rfl)).symm, B_s⟩
 go_wp2_with fail
 refine (iarg_any zs (hC.below B_s) hn).mono ?_
 rintro e w1 ⟨rfl, rfl⟩
 rw [<- H4.out]
 cases x4
 ·go_wp2
  go_ret
  exact ⟨ret_str (callText_no (by rw [HB.out]; rfl)).symm, B_s⟩
 have b1 := of_decide_eq_true H1.out.symm
 have b2 := inB_iff.1 ((bet_oneC sq 1 300).symm.trans H2.out.symm)
 have b3 := of_decide_eq_true H3.out.symm
 have hn2 : (n : Int) = 2 := by
  by_cases h : (n : Int) = 2
  ·exact h
  ·have := H4.out; rw [okN_not h] at this; cases this
 have hal : allB 9 zs = true := by have := H4.out; rw [okN_is hn2] at this; exact this.symm
 obtain rfl : n = 2 := by omega
 have BZ : Hid (∀ i : Nat, -9 <= zs[i]?.getD 0 /\ zs[i]?.getD 0 <= 9) := allB_bnd' (by omega) hal
 have HL : Hid (zs.length = 2) := hC.1
 have HT : Hid (callText cl sq ac 2 zs = callL cl sq ac zs) := callText_yes (by rw [HB.out]; rfl)
 clear hal hn2 HB H1 H2 H3 H4 B_0
 obtain ⟨b, off, rfl, _⟩ := hC.pos (by omega)
 have l1 := Lib.itoa_length_le cl (by omega) (by omega)
 obtain ⟨T1, e1⟩ : ∃ T : ByteArray, T = ⟨(Lib.itoa cl).toArray⟩ := ⟨_, rfl⟩
 have E1 : Hid _ := e1
 have L1 : Hid _ := l1
 clear l1 e1
 have l2 := Lib.itoa_length_le sq (by omega) (by omega)
 obtain ⟨T2, e2⟩ : ∃ T : ByteArray, T = ⟨(Lib.itoa sq).toArray⟩ := ⟨_, rfl⟩
 have E2 : Hid _ := e2
 have L2 : Hid _ := l2
 clear l2 e2
 have l3 := Lib.itoa_length_le ac (by omega) (by omega)
 obtain ⟨T3, e3⟩ : ∃ T : ByteArray, T = ⟨(Lib.itoa ac).toArray⟩ := ⟨_, rfl⟩
 have E3 : Hid _ := e3
 have L3 : Hid _ := l3
 clear l3 e3
 obtain ⟨W, hW⟩ : ∃ W, W = (w.alloc (.cells #[.int .i64 cl, .int .i64 sq, .int .i64 ac, .slice (some ⟨b, off, none⟩) 2 cap] 106)).alloc (.cells #[.int .i64 sq] 3) := ⟨_, rfl⟩
 have CC : Hid (∀ X : World, Cel X w.heap.size [.int .i64 cl, .int .i64 sq, .int .i64 ac, .slice (some ⟨b, off, none⟩) 2 cap] 106 -> X.cell? ⟨w.heap.size, 0, none⟩ = some (.int .i64 cl) /\ X.cell? ⟨w.heap.size, 1, none⟩ = some (.int .i64 sq) /\ X.cell? ⟨w.heap.size, 2, none⟩ = some (.int .i64 ac)) := fun X hq => ⟨hq.cell 0, hq.cell 1, hq.cell 2⟩
 rw [<- hW] at q_s B_s ⊢
 clear hW
 go_upto_region 3 with fail
 have hS0 : (W.drew.cell? ⟨w.heap.size, 0, none⟩ = some (.int .i64 cl) /\ W.drew.cell? ⟨w.heap.size, 1, none⟩ = some (.int .i64 sq) /\ W.drew.cell? ⟨w.heap.size, 2, none⟩ = some (.int .i64 ac)) /\ True := ⟨CC.out W q_s, trivial⟩
 refine wp_region_ends (fun X => X.cell? ⟨w.heap.size, 0, none⟩ = some (.int .i64 cl) /\ X.cell? ⟨w.heap.size, 1, none⟩ = some (.int .i64 sq) /\ X.cell? ⟨w.heap.size, 2, none⟩ = some (.int .i64 ac)) (fun _ => True) 10 (by kernel_rfl) ?_
 refine tkl 0 rfl hS0 ?_
 refine tkl 1 rfl hS0 ?_
 refine tkl 3 rfl hS0 ?_
 refine tkl 4 rfl hS0 ?_
 refine tkl 6 rfl hS0 ?_
 refine tkl 7 rfl hS0 ?_
 refine wpAnyE_one (i := 2) (by kernel_rfl) rfl (fun Kn hK => ?_)
 go_simp
 refine (Tryz.strconv_Itoa cl (by omega) (by omega) _ (HTB.out _ (by exact Below.drew B_s))).mono ?_
 rintro ee w1 ⟨rfl, qq, os, hw1⟩
 rw [<- E1.out]
 have bd_1 : Below W.drew.heap.size W.drew w1 := by rw [hw1]; exact Lib.below_grow _ _ (qJ _) _ _
 clear hw1
 have b_1 := below_of_drew bd_1
 have B_1 := btq B_s b_1
 have q_1 := q_s.below b_1
 have hS1 : (w1.cell? ⟨w.heap.size, 0, none⟩ = some (.int .i64 cl) /\ w1.cell? ⟨w.heap.size, 1, none⟩ = some (.int .i64 sq) /\ w1.cell? ⟨w.heap.size, 2, none⟩ = some (.int .i64 ac)) /\ True := ⟨CC.out w1 q_1, trivial⟩
 dsimp only
 refine kk0 hK (hS1.1) ?_
 clear hK hS0 B_s q_s b_1 bd_1
 refine wpAnyE_one (i := 5) (by kernel_rfl) rfl (fun Kn hK => ?_)
 go_simp
 refine (Tryz.strconv_Itoa sq (by omega) (by omega) _ (HTB.out _ (by exact B_1))).mono ?_
 rintro ee w2 ⟨rfl, qq, os, hw2⟩
 rw [<- E2.out]
 have bd_2 : Below w1.heap.size w1 w2 := by rw [hw2]; exact Lib.below_grow _ _ (qJ _) _ _
 clear hw2
 have b_2 := bd_2
 have B_2 := btq B_1 b_2
 have q_2 := q_1.below b_2
 have hS2 : (w2.cell? ⟨w.heap.size, 0, none⟩ = some (.int .i64 cl) /\ w2.cell? ⟨w.heap.size, 1, none⟩ = some (.int .i64 sq) /\ w2.cell? ⟨w.heap.size, 2, none⟩ = some (.int .i64 ac)) /\ True := ⟨CC.out w2 q_2, trivial⟩
 dsimp only
 refine kk0 hK (hS2.1) ?_
 clear hK hS1 B_1 q_1 b_2 bd_2
 refine wpAnyE_one (i := 8) (by kernel_rfl) rfl (fun Kn hK => ?_)
 go_simp
 refine (Tryz.strconv_Itoa ac (by omega) (by omega) _ (HTB.out _ (by exact B_2))).mono ?_
 rintro ee w3 ⟨rfl, qq, os, hw3⟩
 rw [<- E3.out]
 have bd_3 : Below w2.heap.size w2 w3 := by rw [hw3]; exact Lib.below_grow _ _ (qJ _) _ _
 clear hw3
 have b_3 := bd_3
 have B_3 := btq B_2 b_3
 have q_3 := q_2.below b_3
 have hS3 : (w3.cell? ⟨w.heap.size, 0, none⟩ = some (.int .i64 cl) /\ w3.cell? ⟨w.heap.size, 1, none⟩ = some (.int .i64 sq) /\ w3.cell? ⟨w.heap.size, 2, none⟩ = some (.int .i64 ac)) /\ True := ⟨CC.out w3 q_3, trivial⟩
 dsimp only
 refine kk0 hK (hS3.1) ?_
 clear hK hS2 B_2 q_2 b_3 bd_3
 refine wpAnyE_one (i := 9) (by kernel_rfl) rfl (fun Kn hK => ?_)
 go_simp
 have J0 := JT.lit7 w3 ⟨#[99, 108, 105, 101, 110, 116]⟩ T1 ⟨#[99, 97, 108, 108]⟩ T2 ⟨#[97, 99, 116]⟩ T3 ⟨#[119, 105, 116, 104]⟩
 have q_4 := q_3.below J0.b
 refine kk0 hK (CC.out _ q_4) ?_
 clear hK hS3
 refine wpAnyE_one (i := 10) (by kernel_rfl) rfl (fun Kn hK => ?_)
 go_simp
 refine kk0 hK (CC.out _ q_4) ?_
 clear hK
 refine wod ?_ _
 have d3 := q_4.cell 3
 simp only [List.getElem?_cons_zero, List.getElem?_cons_succ] at d3
 have hCW := (hC.below B_3)
 clear hC q_4
 have hltW := q_3.lt
 go_wp2_with fail
 go_loopw [3, 5, 42] (fun v _ i wr => ∃ (k : Nat) (xs : List ByteArray), k <= 2 /\ i = .int .i64 k /\ xs.length = 7 + k /\ xs = cwordsL T1 T2 T3 (zs.take k) /\ JT w3 v xs wr) (fun _ _ i _ => 2 - (intOf i).toNat)
 case atStart => exact ⟨0, _, qK _, rfl, rfl, rfl, J0⟩
 case round =>
  obtain ⟨k, xs, hk, rfl, hxl, hxs, j⟩ := hrel
  have HXL : Hid _ := hxl
  have HXS : Hid _ := hxs
  clear hxl hxs
  have hjb := j.b.size
  by_cases hlt : k < 2
  ·obtain ⟨b', off', hbo, hcell⟩ := (hCW.below j.b).pos (by omega)
   obtain ⟨rfl, rfl⟩ : b = b' /\ off = off' := by simpa using hbo
   have hck : wr.cell? ⟨b, off + k, none⟩ = some (.int .i64 (zs[k]?.getD 0)) := by rw [hcell k hlt]; simp
   have HS : Hid _ := cwords_step (t1 := T1) (t2 := T2) (t3 := T3) (zs := zs) (k := k) (by rw [HL.out]; exact hlt)
   have hz := BZ.out k
   generalize HG : zs[k]?.getD 0 = z at *
   clear HG hcell hbo
   obtain ⟨z1, z2⟩ := hz
   have tab : Lib.TabIs Tryz.prog wr "internal/strconv.uint64pow10" .u64 Lib.pow10Tab := HTB.out wr (btq B_3 j.b)
   go_wp2_with fail
   refine (Tryz.strconv_Itoa z (by omega) (by omega) _ tab).mono ?_
   rintro e w2 ⟨rfl, q, os, hw2⟩
   have b2 : Below wr.heap.size wr w2 := by rw [hw2]; exact Lib.below_grow _ _ (qJ _) _ _
   clear hw2 tab
   have j2 := j.below b2
   have jo := j2.o
   rw [HXL.out] at jo
   have hjb2 := j2.b.size
   clear b2 j
   obtain ⟨I, hI⟩ : ∃ I : ByteArray, I = ⟨(Lib.itoa z).toArray⟩ := ⟨_, rfl⟩
   rw [<- hI]
   have HI : Hid _ := hI
   clear hI
   go_wp2_with (at_builtin; go_must (refine wpList_append_lies _ rfl (.tmp 46) (.tmp 49) 201 rfl w3.heap.size 9 i0 (.string ⟨#[]⟩) 1 16 Tryz.underlying201 hi hz0 hz1 hz2 rfl (by decide) _ _ _ rfl (jo.alloc _) ⟨w2.heap.size, 0, none⟩ 1 1 [.string I] rfl rfl (newsS) (oneS) (by omega) (by unfold maxLen; omega) (by omega) (by rw [World.size_alloc]; omega) _ rfl ?_); intro g cp w4 hown hgrow hat hlt1)
   have j3 := j2.app HXL.out hown hgrow
   clear hown hgrow jo j2 hat
   go_wp2
   go_roundw
   case rel => exact ⟨k + 1, _, by omega, by go_num, by rw [List.length_append, HXL.out]; simp; omega, by rw [HS.out, HXS.out, HI.out], j3⟩
   case measure => simp [intOf]; omega
  ·obtain rfl : k = 2 := by omega
   obtain ⟨g, gc, rfl, hcap, hg, hcs⟩ := j.cells HXL.out (by omega)
   have HXE : Hid (xs = cwordsL T1 T2 T3 zs) := by show xs = _; rw [HXS.out, qI (by rw [HL.out]; exact qJ _)]
   have HJE : Hid (Lib.join (xs.map (·.data.toList)) [32] = callL cl sq ac zs) := by show _ = _; rw [HXE.out, E1.out, E2.out, E3.out]; exact cwords_join cl sq ac zs
   have HJ := Tryz.strings_Join g 0 gc xs ⟨#[32]⟩ wr hcs hg (by rw [HXL.out]; omega) (by rw [HXL.out]; exact hcap) (by
    rw [show (⟨#[32]⟩ : ByteArray).data.toList = [32] from rfl, HJE.out, callL]
    have t1 := tail_len (zs := zs) (fun i => by have := BZ.out i; omega) zs.length (qJ _)
    rw [List.take_length, HL.out] at t1
    have u1 := L1.out
    have u2 := L2.out
    have u3 := L3.out
    simp only [List.length_append, List.length_cons, List.length_nil, wClient, wCall, wAct, wWith]
    omega)
   rw [HXL.out] at HJ
   have jb := j.b
   clear hcs hcap hg j
   go_wp2_with fail
   refine HJ.mono ?_
   rintro e w2 ⟨rfl, b2⟩
   have B2 := (btq B_3 jb).trans (b2.mono (by omega))
   go_wp2
   go_ret
   refine ⟨?_, B2⟩
   rw [HT.out, <- HJE.out]
   rfl
def fullC (l : List UInt8) : Bool := !(⟨l.toArray⟩ : ByteArray).toList.isEmpty
theorem full_call (x sq ac : Int) (n : Nat) (zs : List Int) : fullC (callText x sq ac n zs) = callOkB x sq ac n zs := by
 cases h : callOkB x sq ac n zs
 ·rw [callText_no h, fullC, ByteArray.toList_mk]; rfl
 ·rw [callText_yes h, fullC, ByteArray.toList_mk, callL]; rfl
def inCallB (cl : Int) (N : Nat) (x sq ac : Int) (n : Nat) (zs : List Int) : Bool := inB x 0 (cl - 1) && (inB sq 1 300 && (inB ac 0 (N - 1) && okN 2 9 n zs))
theorem pln_acts (h : plnB cl N ss gn G sn S = true) : 1 <= N /\ N <= 4 := by
 simp only [plnB, catB, Bool.and_eq_true] at h
 have h1 := inB_iff.1 h.2.1.1
 omega
theorem inCall_same {x : Int} (h1 : cl <= 4) (h2 : N <= 4) : (decide (0 <= x /\ x < cl) && (decide (0 <= ac /\ ac < (N : Int)) && fullC (callText x sq ac n zs))) = inCallB cl N x sq ac n zs := by
 rw [full_call, callOkB, inCallB]
 have e1 : decide (0 <= x /\ x < cl) = inB x 0 (cl - 1) := by
  cases h : inB x 0 (cl - 1)
  ·have := inB_not.1 h; simp; omega
  ·have := inB_iff.1 h; simp; omega
 have e2 : decide (0 <= ac /\ ac < (N : Int)) = inB ac 0 (N - 1) := by
  cases h : inB ac 0 (N - 1)
  ·have := inB_not.1 h; simp; omega
  ·have := inB_iff.1 h; simp; omega
 rw [e1, e2]
 cases h : inB x 0 (cl - 1)
 ·simp
 ·have g1 := inB_iff.1 h
  rw [inB_iff.2 (show 0 <= x /\ x <= 3 by omega)]
  cases h' : inB ac 0 (N - 1)
  ·simp
  ·have g2 := inB_iff.1 h'
   rw [inB_iff.2 (show 0 <= ac /\ ac <= 3 by omega)]
   simp
theorem l6call_any {x : Int} (zs : List Int) {w : World} (hC : Ints w a n zs) (hn : n <= 1048576) (h1 : 1 <= cl /\ cl <= 4) (h2 : 1 <= N /\ N <= 4) :
  Calls Tryz.prog 181 #[plV cl ad N cap ga gn gc sa sn sc, clV x sq ac a n cc] w fun e w' => e = .returned (.bool (inCallB cl N x sq ac n zs)) /\ Below w.heap.size w w' := by
 have B_0 := ((Below.refl w.heap.size w).alloc (qJ _) (.cells #[.int .i64 cl, .slice ad N cap, .slice ga gn gc, .slice sa sn sc] 41)).alloc (by simp) (.cells #[.int .i64 x, .int .i64 sq, .int .i64 ac, .slice a n cc] 106)
 obtain ⟨x1, hx1⟩ : ∃ y, y = inB x 0 (cl - 1) := ⟨_, rfl⟩
 obtain ⟨x2, hx2⟩ : ∃ y, y = inB sq 1 300 := ⟨_, rfl⟩
 obtain ⟨x3, hx3⟩ : ∃ y, y = inB ac 0 ((N : Int) - 1) := ⟨_, rfl⟩
 obtain ⟨x4, hx4⟩ : ∃ y, y = okN 2 9 n zs := ⟨_, rfl⟩
 have HB : Hid (inCallB cl N x sq ac n zs = (x1 && (x2 && (x3 && x4)))) := by show _ = _; rw [inCallB, hx1, hx2, hx3, hx4]
 have H1 : Hid _ := hx1
 have H2 : Hid _ := hx2
 have H3 : Hid _ := hx3
 have H4 : Hid _ := hx4
 clear hx1 hx2 hx3 hx4
 obtain ⟨c1, c2⟩ := h1
 obtain ⟨d1, d2⟩ := h2
 go_enter Tryz.func181, Tryz.ntmps181
 go_wp2_with fail
 refine (in_any).mono ?_
 rintro e w1 ⟨rfl, rfl⟩
 rw [<- H1.out]
 cases x1
 ·go_wp2
  go_ret
  exact ⟨ret_bool (by rw [HB.out]; rfl), B_0⟩
 go_wp2_with fail
 refine (in_any).mono ?_
 rintro e w1 ⟨rfl, rfl⟩
 rw [<- H2.out]
 cases x2
 ·go_wp2
  go_ret
  exact ⟨ret_bool (by rw [HB.out]; rfl), B_0⟩
 go_wp2_with fail
 refine (in_any).mono ?_
 rintro e w1 ⟨rfl, rfl⟩
 rw [<- H3.out]
 cases x3
 ·go_wp2
  go_ret
  exact ⟨ret_bool (by rw [HB.out]; rfl), B_0⟩
 go_wp2_with fail
 refine (sarg_any zs (hC.below B_0) hn).mono ?_
 rintro e w1 ⟨rfl, rfl⟩
 rw [<- H4.out]
 go_wp2
 go_ret
 exact ⟨ret_bool (by rw [HB.out]; rfl), B_0⟩
theorem icallok_any (ss : List L2V) {ga : Option Addr} {gn gc : Nat} (G : List Int) {sa : Option Addr} {sn sc : Nat} (S : List Int) {x sq ac : Int} {a : Option Addr} {n cc : Nat} (zs : List Int) {w : World} (h : PlAt w ad N ss ga gn G sa sn S) (hC : Ints w a n zs) (hn : n <= 1048576) (hT : Lib.TabBelow Tryz.prog w.heap.size w "internal/strconv.uint64pow10" .u64 Lib.pow10Tab) :
  Calls Tryz.prog 144 #[plV cl ad N cap ga gn gc sa sn sc, clV x sq ac a n cc] w fun e w' => e = .returned (.bool (plnB cl N ss gn G sn S && inCallB cl N x sq ac n zs)) /\ Below w.heap.size w w' := by
 have HTB : Hid _ := hT
 clear hT
 have q_0 := (BP.new w [.int .i64 cl, .slice ad N cap, .slice ga gn gc, .slice sa sn sc] 41).alloc (.cells #[.int .i64 x, .int .i64 sq, .int .i64 ac, .slice a n cc] 106)
 have y_0 := Cel.new (w.alloc (.cells #[.int .i64 cl, .slice ad N cap, .slice ga gn gc, .slice sa sn sc] 41)) [.int .i64 x, .int .i64 sq, .int .i64 ac, .slice a n cc] 106
 rw [World.size_alloc] at y_0
 cases hp : plnB cl N ss gn G sn S
 ·have HP : Hid _ := hp
  clear hp
  go_enter Tryz.func144, Tryz.ntmps144
  go_wp2_with fail
  refine (iplnok_any ss G S ((h.alloc _).alloc _)).mono ?_
  rintro e w1 ⟨rfl, b1⟩
  rw [HP.out]
  have q_1 := q_0.below b1
  go_wp2
  go_ret
  exact ⟨ret_bool (by simp), q_1.b⟩
 have pp := (pln_parts hp).1
 have pa := pln_acts hp
 have HP : Hid _ := hp
 clear hp
 obtain ⟨x1, hx1⟩ : ∃ y, y = decide (0 <= x /\ x < cl) := ⟨_, rfl⟩
 obtain ⟨x2, hx2⟩ : ∃ y, y = decide (0 <= ac /\ ac < (N : Int)) := ⟨_, rfl⟩
 obtain ⟨T, hx3⟩ : ∃ y : ByteArray, y = ⟨(callText x sq ac n zs).toArray⟩ := ⟨_, rfl⟩
 have HB : Hid (inCallB cl N x sq ac n zs = (x1 && (x2 && !T.toList.isEmpty))) := by show _ = _; rw [<- inCall_same pp.2 pa.2, hx1, hx2, hx3]; rfl
 have H1 : Hid _ := hx1
 have H2 : Hid _ := hx2
 have H3 : Hid _ := hx3
 clear hx1 hx2 hx3
 go_enter Tryz.func144, Tryz.ntmps144
 go_wp2_with fail
 refine (iplnok_any ss G S ((h.alloc _).alloc _)).mono ?_
 rintro e w1 ⟨rfl, b1⟩
 rw [HP.out]
 have q_1 := q_0.below b1
 have y_1 := y_0.below b1
 clear q_0 y_0 b1
 obtain ⟨c0, c1, c2, c3⟩ := q_1.p.quadP
 obtain ⟨d0, d1, d2, d3⟩ := y_1.quadC
 go_wp2_with fail
 refine (place_any).mono ?_
 rintro e w2 ⟨rfl, rfl⟩
 rw [<- H1.out]
 cases x1
 ·go_wp2
  go_ret
  exact ⟨ret_bool (by rw [HB.out]; rfl), q_1.b⟩
 go_wp2_with fail
 refine (place_any).mono ?_
 rintro e w2 ⟨rfl, rfl⟩
 rw [<- H2.out]
 cases x2
 ·go_wp2
  go_ret
  exact ⟨ret_bool (by rw [HB.out]; rfl), q_1.b⟩
 have B_1 := q_1.b
 go_wp2_with fail
 refine (ictext_any zs (hC.below q_1.b) hn (fun w' h' => HTB.out w' (btq B_1 h'))).mono ?_
 rintro e w2 ⟨rfl, b2⟩
 rw [<- H3.out]
 have q_2 := q_1.below b2
 clear c0 c1 c2 c3 d0 d1 d2 d3 q_1 y_1 B_1 b2
 go_wp2
 go_ret
 exact ⟨ret_bool (by rw [HB.out]; rfl), q_2.b⟩
theorem pln_catC (h : plnB cl N ss gn G sn S = true) : catB N ss = true := by
 simp only [plnB, Bool.and_eq_true] at h
 exact h.2.1
def seqsB (cl : Int) (n : Nat) (zs : List Int) : Bool := decide ((n : Int) = cl) && betB 0 300 zs
theorem seqs_not (h : ¬ (n : Int) = cl) : seqsB cl n zs = false := by simp [seqsB, h]
theorem seqs_is (h : (n : Int) = cl) : seqsB cl n zs = betB 0 300 zs := by simp [seqsB, h]
def gotP (cl : Int) (gn bn : Nat) (bx G : List Int) (T : List (List Int)) (R : Nat -> Bool) (i : Nat) (f : GV) : Bool :=
 if f.h = true then keepT bn gn bx G T i f.t.n f.t.x && (stillB R f.t.x && seqsB cl f.u.n f.u.x) else decide (f.t.n = 0) && decide (f.u.n = 0)
def gotsTo (cl : Int) (gn bn : Nat) (bx G : List Int) (T : List (List Int)) (R : Nat -> Bool) (fs : List GV) (k : Nat) : Bool := (List.range k).all fun i => gotP cl gn bn bx G T R i (fs[i]?.getD noG)
def gotsB (cl : Int) (gn bn : Nat) (bx G : List Int) (T : List (List Int)) (R : Nat -> Bool) (en : Nat) (fs : List GV) : Bool := decide (en = gn) && gotsTo cl gn bn bx G T R fs en
theorem range_go (h : (List.range k).all P = true) (h1 : P k = true) : (List.range (k + 1)).all P = true := by
 rw [List.range_succ, List.all_append, h]; simp [h1]
theorem range_no (h : k < n) (h1 : P k = false) : (List.range n).all P = false := by
 rw [List.all_eq_false]
 exact ⟨k, by simpa using h, by simp [h1]⟩
theorem got_yes {i : Nat} {t u : IV} : gotP cl gn bn bx G T R i ⟨true, t, u⟩ = (keepT bn gn bx G T i t.n t.x && (stillB R t.x && seqsB cl u.n u.x)) := by rw [gotP, if_pos rfl]
theorem got_no {i : Nat} {t u : IV} : gotP cl gn bn bx G T R i ⟨false, t, u⟩ = (decide (t.n = 0) && decide (u.n = 0)) := by rw [gotP, if_neg (by simp)]
theorem map_list {α β : Type} (d : α) (f : α -> β) {xs ys : List α} (hl : ys.length = xs.length) (h : ∀ i, i < ys.length -> f (ys[i]?.getD d) = f (xs[i]?.getD d)) : ys.map f = xs.map f := by
 apply List.ext_getElem?
 intro i
 by_cases hi : i < ys.length
 ·have e := h i hi
  rw [qE hi, qE (by omega)] at e
  simp only [Option.getD_some] at e
  rw [List.getElem?_map, List.getElem?_map, qE hi, qE (by omega)]
  simp [e]
 ·rw [List.getElem?_eq_none (by simp; omega), List.getElem?_eq_none (by simp; omega)]
theorem range_same {Q : Nat -> Bool} (h : ∀ i, i < n -> P i = Q i) : (List.range n).all P = (List.range n).all Q := by
 induction n with
 | zero => rfl
 | succ n ih =>
  rw [List.range_succ, List.all_append, List.all_append, ih (fun i hi => h i (by omega))]
  simp [h n (by omega)]
theorem gots_copy (hl : gs.length = en) (h : copiesGS fs gs) : gotsB cl gn bn bx G T R en gs = gotsB cl gn bn bx G T R en fs := by
 rw [gotsB, gotsB, gotsTo, gotsTo, range_same (fun i hi => ?_)]
 obtain ⟨e1, ⟨e2, e3⟩, ⟨e4, e5⟩, -⟩ := h i (by omega)
 rw [gotP, gotP, e1, e2, e3, e4, e5]
theorem same_copyG {hs : List GV} (h1 : gs.length = N) (h2 : hs.length = N) (c1 : copiesGS fs gs) (c2 : copiesGS fs hs) : ∀ i, i < N -> sameG (gs[i]?.getD noG) (hs[i]?.getD noG) := fun i hi => by
 obtain ⟨a1, a2, a3, -⟩ := c1 i (by omega)
 obtain ⟨b1, b2, b3, -⟩ := c2 i (by omega)
 exact ⟨by rw [a1, b1], by show _ = _; rw [a2.2, b2.2], by show _ = _; rw [a3.2, b3.2], trivial⟩
theorem same_copyQ {fs gs hs : List QV} (h1 : gs.length = N) (h2 : hs.length = N) (c1 : copiesQS fs gs) (c2 : copiesQS fs hs) : ∀ i, i < N -> sameQ (gs[i]?.getD noQ) (hs[i]?.getD noQ) := fun i hi => by
 obtain ⟨a1, a2, a3, a4, -⟩ := c1 i (by omega)
 obtain ⟨b1, b2, b3, b4, -⟩ := c2 i (by omega)
 exact ⟨by rw [a1, b1], by rw [a2, b2], by rw [a3, b3], by show _ = _; rw [a4.2, b4.2], trivial⟩
def hasN (fs : List GV) : Nat := fs.countP GV.h
theorem hasN_copy (hl : gs.length = fs.length) (h : copiesGS fs gs) : hasN gs = hasN fs := by
 have e : ∀ xs : List GV, hasN xs = (xs.map GV.h).countP id := fun xs => by rw [hasN, List.countP_map]; rfl
 rw [e, e, map_list noG GV.h hl (fun i hi => (h i hi).1)]
theorem has_snoc (h : k < fs.length) : hasN (fs.take (k + 1)) = hasN (fs.take k) + (if (fs[k]?.getD noG).h = true then 1 else 0) := by
 rw [hasN, hasN, List.take_succ_eq_append_getElem h, List.countP_append, qE h]
 simp [List.countP_cons]
theorem has_le (fs : List GV) : hasN fs <= fs.length := List.countP_le_length
theorem has_none (h : k < fs.length) (h1 : (fs[k]?.getD noG).h = true) : hasN fs ≠ 0 := fun e => by
 rw [hasN, List.countP_eq_zero] at e
 rw [qE h] at h1
 exact e _ (List.getElem_mem h) h1
def wantP (cl : Int) (N : Nat) (fs : List QV) (k : Nat) : Bool := inCallB cl N (fs[k]?.getD noQ).x (fs[k]?.getD noQ).q (fs[k]?.getD noQ).c (fs[k]?.getD noQ).t.n (fs[k]?.getD noQ).t.x && decide (k = 0 \/ (fs[k - 1]?.getD noQ).x < (fs[k]?.getD noQ).x)
def wantsB (cl : Int) (N kn : Nat) (fs : List QV) : Bool := (List.range kn).all (wantP cl N fs)
theorem wants_copy {fs gs : List QV} (hl : gs.length = kn) (h : copiesQS fs gs) : wantsB cl N kn gs = wantsB cl N kn fs := by
 refine range_same (fun i hi => ?_)
 obtain ⟨e1, e2, e3, ⟨e4, e5⟩, -⟩ := h i (by omega)
 obtain ⟨d1, -⟩ := h (i - 1) (by omega)
 rw [wantP, wantP, e1, e2, e3, e4, e5, d1]
def clerkB (cl : Int) (N gn : Nat) (G : List Int) (T : List (List Int)) (R : Nat -> Bool) (u : Bool) (r : Int) (bn : Nat) (bx : List Int) (dn : Nat) (dx : List DV) (kn : Nat) (kx : List QV) (en : Nat) (ex : List GV) : Bool :=
 inB r 0 200 && (okN 3 10000 bn bx && (donesB cl dn dx && (wantsB cl N kn kx && (gotsB cl gn bn bx G T R en ex && (u || (decide (kn = 0) && decide (hasN ex = 0)))))))
def clkB (cl : Int) (N : Nat) (ss : List L2V) (gn : Nat) (G : List Int) (sn : Nat) (S : List Int) (u : Bool) (r : Int) (bn : Nat) (bx : List Int) (dn : Nat) (dx : List DV) (kn : Nat) (kx : List QV) (en : Nat) (ex : List GV) : Bool :=
 plnB cl N ss gn G sn S && clerkB cl N gn G (catP ss) (pinsA ss) u r bn bx dn dx kn kx en ex
theorem clkB_copy {ts : List L2V} {dx dy : List DV} {kx ky : List QV} {ex ey : List GV} (h1 : ts.length = ss.length) (h2 : copiesL2S ss ts) (h3 : dy.length = dx.length) (h4 : copiesDS dx dy) (h5 : ky.length = kn) (h6 : copiesQS kx ky) (h7 : ey.length = en) (h8 : ex.length = en) (h9 : copiesGS ex ey) :
  clkB cl N ts gn G sn S u r bn bx dn dy kn ky en ey = clkB cl N ss gn G sn S u r bn bx dn dx kn kx en ex := by
 rw [clkB, clkB, clerkB, clerkB, plnB, plnB, copies_catP h1 h2, catP_copies h1 h2, pins_copies h1 h2, dones_copy h3 h4, wants_copy h5 h6, gots_copy h7 h9, hasN_copy (by omega) h9]
theorem iroundC_any : Calls Tryz.prog 130 #[.int .i64 r] w fun e w' => e = .returned (.bool (inB r 0 200)) /\ Below w.heap.size w w' := by
 go_enter Tryz.func130, Tryz.ntmps130
 go_wp2_with fail
 refine (between_any [r] _ _ (one_ints w r 3) (by omega)).mono ?_
 rintro e w1 ⟨rfl, rfl⟩
 go_wp2
 go_ret
 exact ⟨ret_bool (bet_one _ _ _), bal⟩
theorem sseqs_any (zs : List Int) {w : World} (h : Ints w a n zs) (hn : n <= 1048576) :
  Calls Tryz.prog 188 #[plV cl ad N cap ga gn gc sa sn sc, .slice a n cc] w fun e w' => e = .returned (.bool (seqsB cl n zs)) /\ Below w.heap.size w w' := by
 have HZ : Hid (zs.length = n) := h.1
 have B0 := (Below.refl w.heap.size w).alloc (qJ _) (.cells #[.int .i64 cl, .slice ad N cap, .slice ga gn gc, .slice sa sn sc] 41)
 by_cases hc : (n : Int) = cl
 ·have hc' : ((n : Int) != cl) = false := by simpa using hc
  have HC : Hid _ := hc
  clear hc
  go_enter Tryz.func188, Tryz.ntmps188
  go_wp2_with fail
  obtain ⟨W0, hW0⟩ : ∃ W, W = w.alloc (.cells #[.int .i64 cl, .slice ad N cap, .slice ga gn gc, .slice sa sn sc] 41) := ⟨_, rfl⟩
  rw [<- hW0] at B0 ⊢
  clear hW0
  have h' := h.below B0
  clear h
  go_loop [5] (fun i => ∃ k : Nat, k <= n /\ i = .int .i64 k /\ betB 0 300 (zs.take k) = true) (fun i => n - (intOf i).toNat)
  case atStart => exact ⟨0, qK _, rfl, rfl⟩
  case round =>
   obtain ⟨k, hk, rfl, hall⟩ := hrel
   have HA : Hid _ := hall
   clear hall
   by_cases hlt : k < n
   ·obtain ⟨b, off, rfl, hcell⟩ := h'.pos (by omega)
    have hck := hcell k hlt
    have hlt' : (k : Int) < (n : Int) := by omega
    clear hcell
    cases hin : inB (zs[k]?.getD 0) 0 300
    ·go_wp2_with (go_at_call 104; refine (in_any).mono ?_; rintro e w' ⟨rfl, rfl⟩)
     go_ret
     exact ⟨ret_bool (by rw [seqs_is HC.out, betB_false (by rw [HZ.out]; exact hlt) hin]), B0⟩
    ·go_wp2_with (go_at_call 104; refine (in_any).mono ?_; rintro e w' ⟨rfl, rfl⟩)
     go_round
     case rel => exact ⟨k + 1, by omega, by go_num, betB_step (by rw [HZ.out]; exact hlt) HA.out hin⟩
     case measure => simp [intOf]; omega
   ·go_wp2
    go_ret
    exact ⟨ret_bool (by rw [seqs_is HC.out, betB_end (by rw [HZ.out]; omega) HA.out]), B0⟩
 ·have hc' : ((n : Int) != cl) = true := by simpa using hc
  go_enter Tryz.func188, Tryz.ntmps188
  go_wp2
  go_ret
  exact ⟨ret_bool (by rw [seqs_not hc]), B0⟩
theorem iseqs_any (zs : List Int) {w : World} (h : Ints w a n zs) (hn : n <= 1048576) :
  Calls Tryz.prog 195 #[plV cl ad N cap ga gn gc sa sn sc, .slice a n cc] w fun e w' => e = .returned (.bool (seqsB cl n zs)) /\ Below w.heap.size w w' := by
 have B0 := (Below.refl w.heap.size w).alloc (qJ _) (.cells #[.int .i64 cl, .slice ad N cap, .slice ga gn gc, .slice sa sn sc] 41)
 by_cases hc : (n : Int) = cl
 ·have hc' : ((n : Int) == cl) = true := by simpa using hc
  have HC : Hid _ := hc
  clear hc
  go_enter Tryz.func195, Tryz.ntmps195
  go_wp2_with fail
  refine (between_any zs _ _ (h.below B0) hn).mono ?_
  rintro e w1 ⟨rfl, rfl⟩
  go_wp2
  go_ret
  exact ⟨ret_bool (by rw [seqs_is HC.out]), B0⟩
 ·have hc' : ((n : Int) == cl) = false := by simpa using hc
  go_enter Tryz.func195, Tryz.ntmps195
  go_wp2
  go_ret
  exact ⟨ret_bool (by rw [seqs_not hc]), B0⟩
theorem inone_any {h : Bool} {ta : Option Addr} {tn tc : Nat} {ua : Option Addr} {un uc : Nat} :
  Calls Tryz.prog 196 #[gtV h ta tn tc ua un uc] w fun e w' => e = .returned (.bool (!h && (decide (tn = 0) && decide (un = 0)))) /\ Below w.heap.size w w' := by
 have B0 := (Below.refl w.heap.size w).alloc (qJ _) (.cells #[.bool h, .slice ta tn tc, .slice ua un uc] 222)
 cases h
 ·by_cases h1 : tn = 0
  ·subst h1
   have e2 : ((un : Int) == 0) = decide (un = 0) := by by_cases hn : un = 0 <;> simp [hn]
   go_enter Tryz.func196, Tryz.ntmps196
   go_wp2
   go_ret
   exact ⟨ret_bool (by simp), B0⟩
  ·have h1' : ((tn : Int) == 0) = false := by simp; omega
   go_enter Tryz.func196, Tryz.ntmps196
   go_wp2
   go_ret
   exact ⟨ret_bool (by simp [h1]), B0⟩
 ·go_enter Tryz.func196, Tryz.ntmps196
  go_wp2
  go_ret
  exact ⟨ret_bool (by simp), B0⟩
theorem ihas_any {h : Bool} {ta : Option Addr} {tn tc : Nat} {ua : Option Addr} {un uc : Nat} :
  Calls Tryz.prog 198 #[gtV h ta tn tc ua un uc] w fun e w' => e = .returned (.bool h) /\ Below w.heap.size w w' := by
 have B0 := (Below.refl w.heap.size w).alloc (qJ _) (.cells #[.bool h, .slice ta tn tc, .slice ua un uc] 222)
 go_enter Tryz.func198, Tryz.ntmps198
 go_wp2
 go_ret
 exact ⟨rfl, B0⟩
theorem iindex_any (ex : List GV) {w : World} (hE : GSG w ea ex) (lE : ex.length = en) (zE : en <= 1048576) :
  Calls Tryz.prog 239 #[.slice ea en ec, .func (.func 198) #[] #[]] w fun e w' => ∃ x : Int, e = .returned (.int .i64 x) /\ decide (0 <= x) = decide (hasN ex ≠ 0) /\ Below w.heap.size w w' := by
 have LE : Hid (ex.length = en) := lE
 clear lE
 go_enter Tryz.func239, Tryz.ntmps239
 go_wp2_with fail
 go_loopw [5, 8] (fun _ i wr => ∃ k : Nat, k <= en /\ i = .int .i64 k /\ Below w.heap.size w wr /\ hasN (ex.take k) = 0) (fun _ i _ => en - (intOf i).toNat)
 case atStart => exact ⟨0, qK _, rfl, Below.refl _ _, by simp [hasN]⟩
 case round =>
  obtain ⟨k, hk, rfl, hb, hall⟩ := hrel
  have HA : Hid _ := hall
  clear hall
  by_cases hlt : k < en
  ·obtain ⟨b, off, rfl, hc, hr⟩ := (hE.below hb) k (by rw [LE.out]; exact hlt)
   generalize HG : ex[k]?.getD noG = g at *
   have HG' : Hid (ex[k]?.getD noG = g) := HG
   clear HG
   obtain ⟨e0, e1, e2⟩ := cellsG hc
   obtain ⟨gh, ⟨gta, gtn, gtc, gtx⟩, ⟨gua, gun, guc, gux⟩⟩ := g
   have e0' : wr.cell? ⟨b, off + k * 3, none⟩ = some (.bool gh) := e0
   have e1' : wr.cell? ⟨b, off + k * 3 + 1, none⟩ = some (.slice gta gtn gtc) := e1
   have e2' : wr.cell? ⟨b, off + k * 3 + 2, none⟩ = some (.slice gua gun guc) := e2
   have hI : Ints wr gta gtn gtx := hr.1.1
   have zI : gtn <= 1048576 := hr.1.2
   have hJ : Ints wr gua gun gux := hr.2.1.1
   have zJ : gun <= 1048576 := hr.2.1.2
   clear e0 e1 e2 hc hr
   have hlt' : (k : Int) < (en : Int) := by omega
   have HN : Hid (gh = true -> hasN ex ≠ 0) := fun h => has_none (k := k) (by rw [LE.out]; exact hlt) (by rw [HG'.out]; exact h)
   have HS : Hid (gh = false -> hasN (ex.take (k + 1)) = 0) := fun h => by rw [has_snoc (by rw [LE.out]; exact hlt), HA.out, HG'.out, h]; rfl
   clear HG'
   go_wp2_with fail
   refine (ihas_any).mono ?_
   rintro e w1 ⟨rfl, b1⟩
   have B1 := btq hb b1
   cases gh
   ·go_wp2
    go_roundw
    case rel => exact ⟨k + 1, by omega, by go_num, B1, HS.out (by first | rfl | trivial)⟩
    case measure => simp [intOf]; omega
   ·go_wp2
    go_ret
    exact ⟨_, rfl, by have := HN.out (by first | rfl | trivial); simp [this], B1⟩
  ·obtain rfl : k = en := by omega
   go_wp2
   go_ret
   exact ⟨-1, rfl, by have h := HA.out; rw [qI (by rw [LE.out]; exact qJ _)] at h; simp [h], hb⟩
theorem icontains_any (ex : List GV) {w : World} (hE : GSG w ea ex) (lE : ex.length = en) (zE : en <= 1048576) :
  Calls Tryz.prog 197 #[.slice ea en ec, .func (.func 198) #[] #[]] w fun e w' => e = .returned (.bool (decide (hasN ex ≠ 0))) /\ Below w.heap.size w w' := by
 go_enter Tryz.func197, Tryz.ntmps197
 go_wp2_with fail
 refine (iindex_any ex hE lE zE).mono ?_
 rintro e w1 ⟨x, rfl, hx, b1⟩
 have HX : Hid _ := hx
 clear hx
 go_wp2
 go_ret
 exact ⟨ret_bool HX.out, b1⟩
theorem ineeds_any {ba : Option Addr} {bc : Nat} {da : Option Addr} {dc : Nat} {ka : Option Addr} {kc : Nat} (ex : List GV) {w : World} (hE : GSG w ea ex) (lE : ex.length = en) (zE : en <= 1048576) :
  Calls Tryz.prog 135 #[ckV u r ba bn bc da dn dc ka kn kc ea en ec] w fun e w' => e = .returned (.bool (decide (0 < kn) || decide (hasN ex ≠ 0))) /\ Below w.heap.size w w' := by
 have B0 := (Below.refl w.heap.size w).alloc (qJ _) (.cells #[.bool u, .int .i64 r, .slice ba bn bc, .slice da dn dc, .slice ka kn kc, .slice ea en ec] 47)
 by_cases hk : 0 < kn
 ·have hd1 : decide ((0 : Int) < (kn : Int)) = true := by simp; omega
  have hd2 : decide (0 < kn) = true := by simp; omega
  have HK : Hid _ := hd2
  clear hk
  go_enter Tryz.func135, Tryz.ntmps135
  go_wp2
  go_ret
  exact ⟨ret_bool (by rw [HK.out]; rfl), B0⟩
 ·obtain rfl : kn = 0 := by omega
  go_enter Tryz.func135, Tryz.ntmps135
  go_wp2_with fail
  refine (icontains_any ex (hE.below B0) lE zE).mono ?_
  rintro e w1 ⟨rfl, b1⟩
  go_wp2
  go_ret
  exact ⟨ret_bool (by simp), btq B0 b1⟩
theorem igots_any (ss : List L2V) (G S : List Int) {u : Bool} {r : Int} {ba : Option Addr} {bn bc : Nat} {da : Option Addr} {dn dc : Nat} {ka : Option Addr} {kn kc : Nat} {ea : Option Addr} {en ec : Nat} (bx : List Int) (ex : List GV) {w : World} (hp : PlAt w ad N ss ga gn G sa sn S) (hcat : catB N ss = true) (hB : Ints w ba bn bx) (zb : bn <= 1048576) (hE : GSG w ea ex) (lE : ex.length = en) (zE : en <= 1048576) :
  Calls Tryz.prog 134 #[ckV u r ba bn bc da dn dc ka kn kc ea en ec, plV cl ad N cap ga gn gc sa sn sc] w fun e w' => e = .returned (.bool (gotsB cl gn bn bx G (catP ss) (pinsA ss) en ex)) /\ Below w.heap.size w w' := by
 have LE : Hid (ex.length = en) := lE
 have HCT : Hid _ := hcat
 clear lE hcat
 have y0 := (Cel.new w [.bool u, .int .i64 r, .slice ba bn bc, .slice da dn dc, .slice ka kn kc, .slice ea en ec] 47).alloc (.cells #[.int .i64 cl, .slice ad N cap, .slice ga gn gc, .slice sa sn sc] 41)
 have q0 := Cel.new (w.alloc (.cells #[.bool u, .int .i64 r, .slice ba bn bc, .slice da dn dc, .slice ka kn kc, .slice ea en ec] 47)) [.int .i64 cl, .slice ad N cap, .slice ga gn gc, .slice sa sn sc] 41
 rw [World.size_alloc] at q0
 have B0 := ((Below.refl w.heap.size w).alloc (qJ _) (.cells #[.bool u, .int .i64 r, .slice ba bn bc, .slice da dn dc, .slice ka kn kc, .slice ea en ec] 47)).alloc (by simp) (.cells #[.int .i64 cl, .slice ad N cap, .slice ga gn gc, .slice sa sn sc] 41)
 by_cases hc : en = gn
 ·have hc' : ((en : Int) != (gn : Int)) = false := by simp [hc]
  have HC : Hid _ := hc
  clear hc
  go_enter Tryz.func134, Tryz.ntmps134
  go_wp2_with fail
  obtain ⟨W0, hW0⟩ : ∃ W, W = (w.alloc (.cells #[.bool u, .int .i64 r, .slice ba bn bc, .slice da dn dc, .slice ka kn kc, .slice ea en ec] 47)).alloc (.cells #[.int .i64 cl, .slice ad N cap, .slice ga gn gc, .slice sa sn sc] 41) := ⟨_, rfl⟩
  rw [<- hW0] at q0 y0 B0 ⊢
  clear hW0
  go_loopw [5, 6, 7, 18] (fun _ _ _ i wr => ∃ k : Nat, k <= en /\ i = .int .i64 k /\ Below W0.heap.size W0 wr /\ gotsTo cl gn bn bx G (catP ss) (pinsA ss) ex k = true) (fun _ _ _ i _ => en - (intOf i).toNat)
  case atStart => exact ⟨0, qK _, rfl, Below.refl _ _, rfl⟩
  case round =>
   obtain ⟨k, hk, rfl, hb0, hall⟩ := hrel
   have HA : Hid _ := hall
   clear hall
   have hb := btq B0 hb0
   obtain ⟨c0, c1, c2, c3⟩ := (q0.below hb0).quadP
   obtain ⟨d0, d1, d2, d3, d4, d5⟩ := (y0.below hb0).sixP
   by_cases hlt : k < en
   ·obtain ⟨b, off, rfl, hc, hr⟩ := (hE.below hb) k (by rw [LE.out]; exact hlt)
    generalize HG : ex[k]?.getD noG = g at *
    have HG' : Hid (ex[k]?.getD noG = g) := HG
    clear HG
    obtain ⟨e0, e1, e2⟩ := cellsG hc
    obtain ⟨gh, ⟨gta, gtn, gtc, gtx⟩, ⟨gua, gun, guc, gux⟩⟩ := g
    have e0' : wr.cell? ⟨b, off + k * 3, none⟩ = some (.bool gh) := e0
    have e1' : wr.cell? ⟨b, off + k * 3 + 1, none⟩ = some (.slice gta gtn gtc) := e1
    have e2' : wr.cell? ⟨b, off + k * 3 + 2, none⟩ = some (.slice gua gun guc) := e2
    have hI : Ints wr gta gtn gtx := hr.1.1
    have zI : gtn <= 1048576 := hr.1.2
    have hJ : Ints wr gua gun gux := hr.2.1.1
    have zJ : gun <= 1048576 := hr.2.1.2
    clear e0 e1 e2 hc hr
    have hlt' : (k : Int) < (en : Int) := by omega
    have NO : Hid (gotP cl gn bn bx G (catP ss) (pinsA ss) k ⟨gh, ⟨gta, gtn, gtc, gtx⟩, ⟨gua, gun, guc, gux⟩⟩ = false -> gotsB cl gn bn bx G (catP ss) (pinsA ss) en ex = false) := fun h => by rw [gotsB, gotsTo, range_no hlt (by rw [HG'.out]; exact h)]; simp
    have YES : Hid (gotP cl gn bn bx G (catP ss) (pinsA ss) k ⟨gh, ⟨gta, gtn, gtc, gtx⟩, ⟨gua, gun, guc, gux⟩⟩ = true -> gotsTo cl gn bn bx G (catP ss) (pinsA ss) ex (k + 1) = true) := fun h => range_go HA.out (by rw [HG'.out]; exact h)
    have bA := hb0.alloc hb0.size (.cells #[.bool gh, .slice gta gtn gtc, .slice gua gun guc] 222)
    have BA := hb.alloc hb.size (.cells #[.bool gh, .slice gta gtn gtc, .slice gua gun guc] 222)
    have qA := (q0.below hb0).alloc (.cells #[.bool gh, .slice gta gtn gtc, .slice gua gun guc] 222)
    have yA := (y0.below hb0).alloc (.cells #[.bool gh, .slice gta gtn gtc, .slice gua gun guc] 222)
    obtain ⟨v0, v1, v2, v3⟩ := qA.quadP
    obtain ⟨r0, r1, r2, r3, r4, r5⟩ := yA.sixP
    clear qA yA
    cases gh
    ·obtain ⟨x, hx⟩ : ∃ x, x = (decide (gtn = 0) && decide (gun = 0)) := ⟨_, rfl⟩
     have HX : Hid (x = (decide (gtn = 0) && decide (gun = 0))) := hx
     clear hx
     go_wp2_with fail
     refine (inone_any).mono ?_
     rintro e w1 ⟨rfl, b1⟩
     rw [<- HX.out]
     have B1 := btq BA b1
     have b01 := btq bA b1
     cases x
     ·have HV : Hid _ := NO.out (by rw [got_no]; exact HX.out.symm)
      go_wp2
      go_ret
      exact ⟨ret_bool (by rw [HV.out]), B1⟩
     ·have HY : Hid _ := YES.out (by rw [got_no]; exact HX.out.symm)
      go_wp2
      go_roundw
      case rel => exact ⟨k + 1, by omega, by go_num, b01, HY.out⟩
      case measure => simp [intOf]; omega
    ·obtain ⟨x1, hx1⟩ : ∃ x, x = seqsB cl gun gux := ⟨_, rfl⟩
     have H1 : Hid (x1 = seqsB cl gun gux) := hx1
     obtain ⟨x2, hx2⟩ : ∃ x, x = (keepT bn gn bx G (catP ss) k gtn gtx && stillB (pinsA ss) gtx) := ⟨_, rfl⟩
     have H2 : Hid (x2 = (keepT bn gn bx G (catP ss) k gtn gtx && stillB (pinsA ss) gtx)) := hx2
     have HP2 : Hid (gotP cl gn bn bx G (catP ss) (pinsA ss) k ⟨true, ⟨gta, gtn, gtc, gtx⟩, ⟨gua, gun, guc, gux⟩⟩ = (x2 && x1)) := by
      show _ = _
      rw [got_yes, hx1, hx2]
      show (keepT bn gn bx G (catP ss) k gtn gtx && (stillB (pinsA ss) gtx && seqsB cl gun gux)) = _
      rw [Bool.and_assoc]
     clear hx1 hx2
     go_wp2_with fail
     refine (iseqs_any gux (hJ.alloc _) zJ).mono ?_
     rintro e w1 ⟨rfl, b1⟩
     rw [<- H1.out]
     have bg := (Cel.new wr [.bool true, .slice gta gtn gtc, .slice gua gun guc] 222).below b1
     have B1 := btq BA b1
     have b01 := btq bA b1
     have q1 := q0.below b01
     have y1 := y0.below b01
     obtain ⟨i0, i1, i2⟩ := bg.three
     obtain ⟨j0, j1, j2, j3⟩ := q1.quadP
     obtain ⟨l0, l1, l2, l3, l4, l5⟩ := y1.sixP
     cases x1
     ·have HV : Hid _ := NO.out (by rw [HP2.out]; simp)
      go_wp2_with fail
      refine (inone_any).mono ?_
      rintro e w2 ⟨rfl, b2⟩
      go_wp2
      go_ret
      exact ⟨ret_bool (by rw [HV.out]), btq B1 b2⟩
     ·go_wp2_with fail
      refine (ikeeps_any ss G S bx gtx (hp.below B1) HCT.out (hB.below B1) zb ((hI.alloc _).below b1) zI).mono ?_
      rintro e w2 ⟨rfl, b2⟩
      rw [<- H2.out]
      have bg2 := bg.below b2
      have B2 := btq B1 b2
      have b02 := btq b01 b2
      obtain ⟨m0, m1, m2⟩ := bg2.three
      cases x2
      ·have HV : Hid _ := NO.out (by rw [HP2.out]; rfl)
       go_wp2_with fail
       refine (inone_any).mono ?_
       rintro e w3 ⟨rfl, b3⟩
       go_wp2
       go_ret
       exact ⟨ret_bool (by rw [HV.out]), btq B2 b3⟩
      ·have HY : Hid _ := YES.out (by rw [HP2.out]; rfl)
       go_wp2
       go_roundw
       case rel => exact ⟨k + 1, by omega, by go_num, b02, HY.out⟩
       case measure => simp [intOf]; omega
   ·obtain rfl : k = en := by omega
    go_wp2
    go_ret
    exact ⟨ret_bool (by rw [gotsB, HA.out, HC.out]; simp), hb⟩
 ·have hc' : ((en : Int) != (gn : Int)) = true := by simp; omega
  go_enter Tryz.func134, Tryz.ntmps134
  go_wp2
  go_ret
  exact ⟨ret_bool (by rw [gotsB]; simp [hc]), B0⟩
def lastQ (fs : List QV) (k : Nat) : Int := if k = 0 then -1 else (fs[k - 1]?.getD noQ).x
theorem want_low {fs : List QV} (h : (fs[k]?.getD noQ).x <= lastQ fs k) : wantP cl N fs k = false := by
 unfold lastQ at h
 by_cases hk : k = 0
 ·rw [if_pos hk] at h
  rw [wantP, inCallB, inB_not.2 (by omega)]; rfl
 ·rw [if_neg hk] at h
  rw [wantP]
  have : decide (k = 0 \/ (fs[k - 1]?.getD noQ).x < (fs[k]?.getD noQ).x) = false := by simp; omega
  rw [this]; simp
theorem want_high {fs : List QV} (h : ¬ (fs[k]?.getD noQ).x <= lastQ fs k) : wantP cl N fs k = inCallB cl N (fs[k]?.getD noQ).x (fs[k]?.getD noQ).q (fs[k]?.getD noQ).c (fs[k]?.getD noQ).t.n (fs[k]?.getD noQ).t.x := by
 rw [wantP]
 have : decide (k = 0 \/ (fs[k - 1]?.getD noQ).x < (fs[k]?.getD noQ).x) = true := by
  unfold lastQ at h
  by_cases hk : k = 0
  ·simp [hk]
  ·rw [if_neg hk] at h
   simp; omega
 rw [this]; simp
theorem last_succ (fs : List QV) (k : Nat) : lastQ fs (k + 1) = (fs[k]?.getD noQ).x := by rw [lastQ, if_neg (by omega)]; rfl
theorem iwants_any (ss : List L2V) (G S : List Int) {u : Bool} {r : Int} {ba : Option Addr} {bn bc : Nat} {da : Option Addr} {dn dc : Nat} {ka : Option Addr} {kn kc : Nat} {ea : Option Addr} {en ec : Nat} (kx : List QV) {w : World} (hp : PlAt w ad N ss ga gn G sa sn S) (hpl : plnB cl N ss gn G sn S = true) (hK : QSG w ka kx) (lK : kx.length = kn) (zK : kn <= 1048576) (hTB : Lib.TabBelow Tryz.prog w.heap.size w "internal/strconv.uint64pow10" .u64 Lib.pow10Tab) :
  Calls Tryz.prog 133 #[ckV u r ba bn bc da dn dc ka kn kc ea en ec, plV cl ad N cap ga gn gc sa sn sc] w fun e w' => e = .returned (.bool (wantsB cl N kn kx)) /\ Below w.heap.size w w' := by
 have LK : Hid (kx.length = kn) := lK
 have HPL : Hid _ := hpl
 have HTB : Hid _ := hTB
 clear lK hpl hTB
 have y0 := (Cel.new w [.bool u, .int .i64 r, .slice ba bn bc, .slice da dn dc, .slice ka kn kc, .slice ea en ec] 47).alloc (.cells #[.int .i64 cl, .slice ad N cap, .slice ga gn gc, .slice sa sn sc] 41)
 have q0 := Cel.new (w.alloc (.cells #[.bool u, .int .i64 r, .slice ba bn bc, .slice da dn dc, .slice ka kn kc, .slice ea en ec] 47)) [.int .i64 cl, .slice ad N cap, .slice ga gn gc, .slice sa sn sc] 41
 rw [World.size_alloc] at q0
 have B0 := ((Below.refl w.heap.size w).alloc (qJ _) (.cells #[.bool u, .int .i64 r, .slice ba bn bc, .slice da dn dc, .slice ka kn kc, .slice ea en ec] 47)).alloc (by simp) (.cells #[.int .i64 cl, .slice ad N cap, .slice ga gn gc, .slice sa sn sc] 41)
 go_enter Tryz.func133, Tryz.ntmps133
 go_wp2_with fail
 obtain ⟨W0, hW0⟩ : ∃ W, W = (w.alloc (.cells #[.bool u, .int .i64 r, .slice ba bn bc, .slice da dn dc, .slice ka kn kc, .slice ea en ec] 47)).alloc (.cells #[.int .i64 cl, .slice ad N cap, .slice ga gn gc, .slice sa sn sc] 41) := ⟨_, rfl⟩
 rw [<- hW0] at q0 y0 B0 ⊢
 clear hW0
 go_loopw [5, 7, 11] (fun la _ i wr => ∃ k : Nat, k <= kn /\ i = .int .i64 k /\ la = .int .i64 (lastQ kx k) /\ Below W0.heap.size W0 wr /\ (List.range k).all (wantP cl N kx) = true) (fun _ _ i _ => kn - (intOf i).toNat)
 case atStart => exact ⟨0, qK _, rfl, rfl, Below.refl _ _, rfl⟩
 case round =>
  obtain ⟨k, hk, rfl, rfl, hb0, hall⟩ := hrel
  have HA : Hid _ := hall
  clear hall
  have hb := btq B0 hb0
  by_cases hlt : k < kn
  ·obtain ⟨b, off, rfl, hc, hr⟩ := (hK.below hb) k (by rw [LK.out]; exact hlt)
   have LOW : Hid _ := want_low (cl := cl) (N := N) (fs := kx) (k := k)
   have HIGH : Hid _ := want_high (cl := cl) (N := N) (fs := kx) (k := k)
   have LS : Hid _ := last_succ kx k
   generalize HG : kx[k]?.getD noQ = g at *
   have HG' : Hid (kx[k]?.getD noQ = g) := HG
   clear HG
   obtain ⟨e0, e1, e2, e3⟩ := cellsQ hc
   obtain ⟨gx, gq, gz, ⟨gta, gtn, gtc, gtx⟩⟩ := g
   have e0' : wr.cell? ⟨b, off + k * 4, none⟩ = some (.int .i64 gx) := e0
   have e1' : wr.cell? ⟨b, off + k * 4 + 1, none⟩ = some (.int .i64 gq) := e1
   have e2' : wr.cell? ⟨b, off + k * 4 + 2, none⟩ = some (.int .i64 gz) := e2
   have e3' : wr.cell? ⟨b, off + k * 4 + 3, none⟩ = some (.slice gta gtn gtc) := e3
   have hI : Ints wr gta gtn gtx := hr.1.1
   have zI : gtn <= 1048576 := hr.1.2
   clear e0 e1 e2 e3 hc hr
   have hlt' : (k : Int) < (kn : Int) := by omega
   obtain ⟨la, hla⟩ : ∃ la, la = lastQ kx k := ⟨_, rfl⟩
   have HLA : Hid (la = lastQ kx k) := hla
   rw [<- hla]
   clear hla
   have NO : Hid (wantP cl N kx k = false -> wantsB cl N kn kx = false) := fun h => range_no hlt h
   have YES : Hid (wantP cl N kx k = true -> (List.range (k + 1)).all (wantP cl N kx) = true) := fun h => range_go HA.out h
   have bA := hb0.alloc hb0.size (.cells #[.int .i64 gx, .int .i64 gq, .int .i64 gz, .slice gta gtn gtc] 106)
   have BA := hb.alloc hb.size (.cells #[.int .i64 gx, .int .i64 gq, .int .i64 gz, .slice gta gtn gtc] 106)
   have qA := (q0.below hb0).alloc (.cells #[.int .i64 gx, .int .i64 gq, .int .i64 gz, .slice gta gtn gtc] 106)
   obtain ⟨v0, v1, v2, v3⟩ := qA.quadP
   by_cases hle : gx <= la
   ·have HV : Hid _ := NO.out (LOW.out (by rw [<- HLA.out]; exact hle))
    clear qA
    go_wp2
    go_ret
    exact ⟨ret_bool (by rw [HV.out]), BA⟩
   ·have HE : Hid (wantP cl N kx k = inCallB cl N gx gq gz gtn gtx) := HIGH.out (by rw [<- HLA.out]; exact hle)
    obtain ⟨x, hx⟩ : ∃ x, x = inCallB cl N gx gq gz gtn gtx := ⟨_, rfl⟩
    have HX : Hid (x = inCallB cl N gx gq gz gtn gtx) := hx
    have hle' : decide (gx <= la) = false := by simpa using hle
    clear hx hle LOW HIGH qA
    go_wp2_with fail
    refine (icallok_any ss G S gtx (hp.below BA) (hI.alloc _) zI (fun w' h' => HTB.out w' (btq BA h'))).mono ?_
    rintro e w1 ⟨rfl, b1⟩
    rw [HPL.out, <- HX.out]
    have bg := (Cel.new wr [.int .i64 gx, .int .i64 gq, .int .i64 gz, .slice gta gtn gtc] 106).below b1
    have B1 := btq BA b1
    have b01 := btq bA b1
    obtain ⟨i0, i1, i2, i3⟩ := bg.quadP
    cases x
    ·have HV : Hid _ := NO.out (by rw [HE.out, <- HX.out])
     go_wp2
     go_ret
     exact ⟨ret_bool (by rw [HV.out]), B1⟩
    ·have HY : Hid _ := YES.out (by rw [HE.out, <- HX.out])
     go_wp2
     go_roundw
     case rel => exact ⟨k + 1, by omega, by go_num, by rw [LS.out], b01, HY.out⟩
     case measure => simp [intOf]; omega
  ·obtain rfl : k = kn := by omega
   go_wp2
   go_ret
   exact ⟨ret_bool (by rw [wantsB, HA.out]), hb⟩
theorem shasn_any {ba : Option Addr} {bc : Nat} {da : Option Addr} {dc : Nat} {ka : Option Addr} {kc : Nat} (ex : List GV) {w : World} (hE : GSG w ea ex) (lE : ex.length = en) (zE : en <= 1048576) :
  Calls Tryz.prog 190 #[ckV u r ba bn bc da dn dc ka kn kc ea en ec] w fun e w' => e = .returned (.int .i64 (hasN ex)) /\ Below w.heap.size w w' := by
 have LE : Hid (ex.length = en) := lE
 clear lE
 have y0 := Cel.new w [.bool u, .int .i64 r, .slice ba bn bc, .slice da dn dc, .slice ka kn kc, .slice ea en ec] 47
 have B0 := (Below.refl w.heap.size w).alloc (qJ _) (.cells #[.bool u, .int .i64 r, .slice ba bn bc, .slice da dn dc, .slice ka kn kc, .slice ea en ec] 47)
 go_enter Tryz.func190, Tryz.ntmps190
 go_wp2_with fail
 obtain ⟨W0, hW0⟩ : ∃ W, W = w.alloc (.cells #[.bool u, .int .i64 r, .slice ba bn bc, .slice da dn dc, .slice ka kn kc, .slice ea en ec] 47) := ⟨_, rfl⟩
 rw [<- hW0] at y0 B0 ⊢
 clear hW0
 have hE' := hE.below B0
 clear hE
 obtain ⟨d0, d1, d2, d3, d4, d5⟩ := y0.sixP
 go_loop [3, 4] (fun n i => ∃ k : Nat, k <= en /\ i = .int .i64 k /\ n = .int .i64 (hasN (ex.take k))) (fun _ i => en - (intOf i).toNat)
 case atStart => exact ⟨0, qK _, rfl, by simp [hasN]⟩
 case round =>
  obtain ⟨k, hk, rfl, rfl⟩ := hrel
  by_cases hlt : k < en
  ·obtain ⟨b, off, rfl, hc, hr⟩ := hE' k (by rw [LE.out]; exact hlt)
   have hs := has_snoc (fs := ex) (k := k) (by rw [LE.out]; exact hlt)
   have HS : Hid _ := hs
   have hle := has_le (ex.take k)
   rw [List.length_take] at hle
   obtain ⟨n0, hn0⟩ : ∃ n, n = hasN (ex.take k) := ⟨_, rfl⟩
   have HN0 : Hid _ := hn0
   rw [<- hn0] at hle ⊢
   have hle' : n0 <= 1048576 := by omega
   clear hs hn0 hle
   obtain ⟨e0, -, -⟩ := cellsG hc
   have hlt' : (k : Int) < (en : Int) := by omega
   cases hh : (ex[k]?.getD noG).h
   ·rw [hh] at e0
    go_wp2
    go_round
    case rel => exact ⟨k + 1, by omega, by go_num, by rw [HS.out, hh, <- HN0.out]; simp⟩
    case measure => simp [intOf]; omega
   ·rw [hh] at e0
    go_wp2
    go_round
    case rel => exact ⟨k + 1, by omega, by go_num, by rw [HS.out, hh, <- HN0.out]; go_num⟩
    case measure => simp [intOf]; omega
  ·obtain rfl : k = en := by omega
   go_wp2
   go_ret
   exact ⟨ret_int (by rw [qI (by rw [LE.out]; exact qJ _)]), B0⟩
theorem sgots_any (G : List Int) {pa : Option Addr} {pn pc : Nat} (ts : List IV) (T : List (List Int)) {na : Option Addr} {nc : Nat} (R : Nat -> Bool) {u : Bool} {r : Int} {ba : Option Addr} {bn bc : Nat} {da : Option Addr} {dn dc : Nat} {ka : Option Addr} {kn kc : Nat} {ea : Option Addr} {en ec : Nat} (bx : List Int) (ex : List GV) {w : World} (hG : Ints w ga gn G) (zg : gn <= 1048576) (hP : ISG w pa ts) (lP : ts.length = pn) (zP : pn <= 1048576) (hT : ts.map IV.x = T) (hR : BA w na 3 R) (hB : Ints w ba bn bx) (zb : bn <= 1048576) (hE : GSG w ea ex) (lE : ex.length = en) (zE : en <= 1048576) :
  Calls Tryz.prog 189 #[plV cl ad N cap ga gn gc sa sn sc, .slice pa pn pc, .slice na 3 nc, ckV u r ba bn bc da dn dc ka kn kc ea en ec] w fun e w' => e = .returned (.bool (gotsB cl gn bn bx G T R en ex)) /\ Below w.heap.size w w' := by
 have LE : Hid (ex.length = en) := lE
 have HT : Hid (ts.map IV.x = T) := hT
 clear lE hT
 have q0 := (Cel.new w [.int .i64 cl, .slice ad N cap, .slice ga gn gc, .slice sa sn sc] 41).alloc (.cells #[.bool u, .int .i64 r, .slice ba bn bc, .slice da dn dc, .slice ka kn kc, .slice ea en ec] 47)
 have y0 := Cel.new (w.alloc (.cells #[.int .i64 cl, .slice ad N cap, .slice ga gn gc, .slice sa sn sc] 41)) [.bool u, .int .i64 r, .slice ba bn bc, .slice da dn dc, .slice ka kn kc, .slice ea en ec] 47
 rw [World.size_alloc] at y0
 have B0 := ((Below.refl w.heap.size w).alloc (qJ _) (.cells #[.int .i64 cl, .slice ad N cap, .slice ga gn gc, .slice sa sn sc] 41)).alloc (by simp) (.cells #[.bool u, .int .i64 r, .slice ba bn bc, .slice da dn dc, .slice ka kn kc, .slice ea en ec] 47)
 by_cases hc : en = gn
 ·have hc' : ((en : Int) != (gn : Int)) = false := by simp [hc]
  have HC : Hid _ := hc
  clear hc
  have T0 := Cel.new ((w.alloc (.cells #[.int .i64 cl, .slice ad N cap, .slice ga gn gc, .slice sa sn sc] 41)).alloc (.cells #[.bool u, .int .i64 r, .slice ba bn bc, .slice da dn dc, .slice ka kn kc, .slice ea en ec] 47)) [.slice ba bn bc, .slice ga gn gc] 149
  rw [World.size_alloc, World.size_alloc] at T0
  replace q0 := q0.alloc (.cells #[.slice ba bn bc, .slice ga gn gc] 149)
  replace y0 := y0.alloc (.cells #[.slice ba bn bc, .slice ga gn gc] 149)
  replace B0 := B0.alloc B0.size (.cells #[.slice ba bn bc, .slice ga gn gc] 149)
  go_enter Tryz.func189, Tryz.ntmps189
  go_wp2_with fail
  obtain ⟨W0, hW0⟩ : ∃ W, W = ((w.alloc (.cells #[.int .i64 cl, .slice ad N cap, .slice ga gn gc, .slice sa sn sc] 41)).alloc (.cells #[.bool u, .int .i64 r, .slice ba bn bc, .slice da dn dc, .slice ka kn kc, .slice ea en ec] 47)).alloc (.cells #[.slice ba bn bc, .slice ga gn gc] 149) := ⟨_, rfl⟩
  rw [<- hW0] at q0 y0 T0 B0 ⊢
  clear hW0
  go_loopw [10, 11] (fun i _ wr => ∃ k : Nat, k <= en /\ i = .int .i64 k /\ Below W0.heap.size W0 wr /\ gotsTo cl gn bn bx G T R ex k = true) (fun i _ _ => en - (intOf i).toNat)
  case atStart => exact ⟨0, qK _, rfl, Below.refl _ _, rfl⟩
  case round =>
   obtain ⟨k, hk, rfl, hb0, hall⟩ := hrel
   have HA : Hid _ := hall
   clear hall
   have hb := btq B0 hb0
   obtain ⟨c0, c1, c2, c3⟩ := (q0.below hb0).quadP
   obtain ⟨d0, d1, d2, d3, d4, d5⟩ := (y0.below hb0).sixP
   obtain ⟨t0, t1⟩ := (T0.below hb0).two
   by_cases hlt : k < en
   ·obtain ⟨b, off, rfl, hc, hr⟩ := (hE.below hb) k (by rw [LE.out]; exact hlt)
    generalize HG : ex[k]?.getD noG = g at *
    have HG' : Hid (ex[k]?.getD noG = g) := HG
    clear HG
    obtain ⟨e0, e1, e2⟩ := cellsG hc
    obtain ⟨gh, ⟨gta, gtn, gtc, gtx⟩, ⟨gua, gun, guc, gux⟩⟩ := g
    have e0' : wr.cell? ⟨b, off + k * 3, none⟩ = some (.bool gh) := e0
    have e1' : wr.cell? ⟨b, off + k * 3 + 1, none⟩ = some (.slice gta gtn gtc) := e1
    have e2' : wr.cell? ⟨b, off + k * 3 + 2, none⟩ = some (.slice gua gun guc) := e2
    have hI : Ints wr gta gtn gtx := hr.1.1
    have zI : gtn <= 1048576 := hr.1.2
    have hJ : Ints wr gua gun gux := hr.2.1.1
    have zJ : gun <= 1048576 := hr.2.1.2
    clear e0 e1 e2 hc hr
    have hlt' : (k : Int) < (en : Int) := by omega
    have NO : Hid (gotP cl gn bn bx G T R k ⟨gh, ⟨gta, gtn, gtc, gtx⟩, ⟨gua, gun, guc, gux⟩⟩ = false -> gotsB cl gn bn bx G T R en ex = false) := fun h => by rw [gotsB, gotsTo, range_no hlt (by rw [HG'.out]; exact h)]; simp
    have YES : Hid (gotP cl gn bn bx G T R k ⟨gh, ⟨gta, gtn, gtc, gtx⟩, ⟨gua, gun, guc, gux⟩⟩ = true -> gotsTo cl gn bn bx G T R ex (k + 1) = true) := fun h => range_go HA.out (by rw [HG'.out]; exact h)
    have bA := hb0.alloc hb0.size (.cells #[.bool gh, .slice gta gtn gtc, .slice gua gun guc] 222)
    have BA := hb.alloc hb.size (.cells #[.bool gh, .slice gta gtn gtc, .slice gua gun guc] 222)
    have qA := (q0.below hb0).alloc (.cells #[.bool gh, .slice gta gtn gtc, .slice gua gun guc] 222)
    have tA := (T0.below hb0).alloc (.cells #[.bool gh, .slice gta gtn gtc, .slice gua gun guc] 222)
    obtain ⟨v0, v1, v2, v3⟩ := qA.quadP
    obtain ⟨r0, r1⟩ := tA.two
    clear qA tA
    cases gh
    ·by_cases hz : gtn = 0 /\ gun = 0
     ·obtain ⟨rfl, rfl⟩ := hz
      have HY : Hid _ := YES.out (by rw [got_no]; rfl)
      clear NO YES
      go_wp2
      go_roundw
      case rel => exact ⟨k + 1, by omega, by go_num, bA, HY.out⟩
      case measure => simp [intOf]; omega
     ·have HV : Hid _ := NO.out (by rw [got_no]; simp; omega)
      have hd1 : decide ((0 : Int) < (gtn : Int) + (gun : Int)) = true := by simp; omega
      have hd2 : decide (0 < gtn + gun) = true := by simp; omega
      clear NO YES hz
      go_wp2
      go_ret
      exact ⟨ret_bool (by rw [HV.out]), BA⟩
    ·cases h3 : keepT bn gn bx G T k gtn gtx
     ·have HV : Hid _ := NO.out (by rw [got_yes]; show (keepT bn gn bx G T k gtn gtx && _) = false; rw [h3]; rfl)
      clear NO YES
      go_wp2_with fail
      refine (skeep_any bx G gtx ts (hB.below BA) (hG.below BA) (hI.alloc _) lP (hP.below BA) zb zg zI zP).mono ?_
      rintro e w1 ⟨rfl, b1⟩
      rw [keep_of hP HT.out, h3]
      go_wp2
      go_ret
      exact ⟨ret_bool (by rw [HV.out]), btq BA b1⟩
     ·obtain rfl : gtn = 3 := (keepT_elim h3).2.2
      cases h4 : stillB R gtx
      ·have HV : Hid _ := NO.out (by rw [got_yes]; show (_ && (stillB R gtx && _)) = false; rw [h4]; simp)
       clear NO YES
       go_wp2_with fail
       refine (skeep_any bx G gtx ts (hB.below BA) (hG.below BA) (hI.alloc _) lP (hP.below BA) zb zg zI zP).mono ?_
       rintro e w1 ⟨rfl, b1⟩
       rw [keep_of hP HT.out, h3]
       have bg := (Cel.new wr [.bool true, .slice gta 3 gtc, .slice gua gun guc] 222).below b1
       have B1 := btq BA b1
       obtain ⟨i0, i1, i2⟩ := bg.three
       go_wp2_with fail
       refine (sstill_any R gtx (hR.below B1) ((hI.alloc _).below b1)).mono ?_
       rintro e wq ⟨rfl, rfl⟩
       rw [h4]
       go_wp2
       go_ret
       exact ⟨ret_bool (by rw [HV.out]), B1⟩
      ·obtain ⟨x5, h5⟩ : ∃ x, x = seqsB cl gun gux := ⟨_, rfl⟩
       have H5 : Hid (x5 = seqsB cl gun gux) := h5
       have HP5 : Hid (gotP cl gn bn bx G T R k ⟨true, ⟨gta, 3, gtc, gtx⟩, ⟨gua, gun, guc, gux⟩⟩ = x5) := by show _ = _; rw [got_yes]; show (keepT bn gn bx G T k 3 gtx && (stillB R gtx && seqsB cl gun gux)) = x5; rw [h3, h4, h5]; rfl
       clear h5
       go_wp2_with fail
       refine (skeep_any bx G gtx ts (hB.below BA) (hG.below BA) (hI.alloc _) lP (hP.below BA) zb zg zI zP).mono ?_
       rintro e w1 ⟨rfl, b1⟩
       rw [keep_of hP HT.out, h3]
       have bg := (Cel.new wr [.bool true, .slice gta 3 gtc, .slice gua gun guc] 222).below b1
       have B1 := btq BA b1
       have b01 := btq bA b1
       have q1 := q0.below b01
       obtain ⟨i0, i1, i2⟩ := bg.three
       obtain ⟨j0, j1, j2, j3⟩ := q1.quadP
       go_wp2_with fail
       refine (sstill_any R gtx (hR.below B1) ((hI.alloc _).below b1)).mono ?_
       rintro e wq ⟨rfl, rfl⟩
       rw [h4]
       go_wp2_with fail
       refine (sseqs_any gux ((hJ.alloc _).below b1) zJ).mono ?_
       rintro e w2 ⟨rfl, b2⟩
       rw [<- H5.out]
       have B2 := btq B1 b2
       have b02 := btq b01 b2
       cases x5
       ·go_wp2
        go_ret
        exact ⟨ret_bool (by rw [NO.out HP5.out]), B2⟩
       ·go_wp2
        go_roundw
        case rel => exact ⟨k + 1, by omega, by go_num, b02, YES.out HP5.out⟩
        case measure => simp [intOf]; omega
   ·obtain rfl : k = en := by omega
    go_wp2
    go_ret
    exact ⟨ret_bool (by rw [gotsB, HA.out, HC.out]; simp), hb⟩
 ·have hc' : ((en : Int) != (gn : Int)) = true := by simp; omega
  go_enter Tryz.func189, Tryz.ntmps189
  go_wp2
  go_ret
  exact ⟨ret_bool (by rw [gotsB]; simp [hc]), B0⟩
theorem sl9_any (G : List Int) {pa : Option Addr} {pn pc : Nat} (ts : List IV) (T : List (List Int)) {na : Option Addr} {nc : Nat} (R : Nat -> Bool) {u : Bool} {r : Int} {ba : Option Addr} {bn bc : Nat} (bx : List Int) {da : Option Addr} {dn dc : Nat} (dx : List DV) {ka : Option Addr} {kn kc : Nat} (kx : List QV) {ea : Option Addr} {en ec : Nat} (ex : List GV) {w : World} (hG : Ints w ga gn G) (zg : gn <= 1048576) (hcl : 1 <= cl /\ cl <= 4) (hN4 : 1 <= N /\ N <= 4) (hP : ISG w pa ts) (lP : ts.length = pn) (zP : pn <= 1048576) (hT : ts.map IV.x = T) (hR : BA w na 3 R) (h : CkAt w ba bn bx da dn dx ka kn kx ea en ex) :
  Calls Tryz.prog 118 #[plV cl ad N cap ga gn gc sa sn sc, .slice pa pn pc, .slice na 3 nc, ckV u r ba bn bc da dn dc ka kn kc ea en ec] w fun e w' => e = .returned (.bool (clerkB cl N gn G T R u r bn bx dn dx kn kx en ex)) /\ Below w.heap.size w w' := by
 have q0 := (Cel.new w [.int .i64 cl, .slice ad N cap, .slice ga gn gc, .slice sa sn sc] 41).alloc (.cells #[.bool u, .int .i64 r, .slice ba bn bc, .slice da dn dc, .slice ka kn kc, .slice ea en ec] 47)
 have y0 := Cel.new (w.alloc (.cells #[.int .i64 cl, .slice ad N cap, .slice ga gn gc, .slice sa sn sc] 41)) [.bool u, .int .i64 r, .slice ba bn bc, .slice da dn dc, .slice ka kn kc, .slice ea en ec] 47
 rw [World.size_alloc] at y0
 have B0 := ((Below.refl w.heap.size w).alloc (qJ _) (.cells #[.int .i64 cl, .slice ad N cap, .slice ga gn gc, .slice sa sn sc] 41)).alloc (by simp) (.cells #[.bool u, .int .i64 r, .slice ba bn bc, .slice da dn dc, .slice ka kn kc, .slice ea en ec] 47)
 obtain ⟨x1, hx1⟩ : ∃ y, y = inB r 0 200 := ⟨_, rfl⟩
 obtain ⟨x2, hx2⟩ : ∃ y, y = okN 3 10000 bn bx := ⟨_, rfl⟩
 obtain ⟨x3, hx3⟩ : ∃ y, y = donesB cl dn dx := ⟨_, rfl⟩
 obtain ⟨x4, hx4⟩ : ∃ y, y = gotsB cl gn bn bx G T R en ex := ⟨_, rfl⟩
 have HV : Hid (clerkB cl N gn G T R u r bn bx dn dx kn kx en ex = (x1 && (x2 && (x3 && (wantsB cl N kn kx && (x4 && (u || (decide (kn = 0) && decide (hasN ex = 0))))))))) := by show _ = _; rw [clerkB, hx1, hx2, hx3, hx4]
 have H1 : Hid _ := hx1
 have H2 : Hid _ := hx2
 have H3 : Hid _ := hx3
 have H4 : Hid _ := hx4
 clear hx1 hx2 hx3 hx4
 have zk := h.zk
 obtain ⟨d0, d1, d2, d3, d4, d5⟩ := y0.sixP
 go_enter Tryz.func118, Tryz.ntmps118
 go_wp2_with fail
 refine (in_any).mono ?_
 rintro e wq ⟨rfl, rfl⟩
 rw [<- H1.out]
 cases x1
 ·go_wp2
  go_ret
  exact ⟨ret_bool (by rw [HV.out]; rfl), B0⟩
 go_wp2_with fail
 refine (sval_any bx (h.below B0).b h.zb).mono ?_
 rintro e wq ⟨rfl, rfl⟩
 rw [<- H2.out]
 cases x2
 ·go_wp2
  go_ret
  exact ⟨ret_bool (by rw [HV.out]; rfl), B0⟩
 clear d0 d1 d2 d3 d4 d5
 go_wp2_with fail
 refine (sdones_any dx h.ld (h.below B0).d h.zd).mono ?_
 rintro e w1 ⟨rfl, b1⟩
 rw [<- H3.out]
 have B1 := btq B0 b1
 have q1 := q0.below b1
 have y1 := y0.below b1
 clear q0 y0 B0 b1
 cases x3
 ·go_wp2
  go_ret
  exact ⟨ret_bool (by rw [HV.out]; rfl), B1⟩
 obtain ⟨c0, c1, c2, c3⟩ := q1.quadP
 obtain ⟨d0, d1, d2, d3, d4, d5⟩ := y1.sixP
 go_wp2_with fail
 refine (sgots_any G ts T R bx ex (hG.below B1) zg (hP.below B1) lP zP hT (hR.below B1) (h.below B1).b h.zb (h.below B1).g h.lg h.zg).mono ?_
 rintro e w2 ⟨rfl, b2⟩
 rw [<- H4.out]
 have B2 := btq B1 b2
 have q2 := q1.below b2
 have y2 := y1.below b2
 clear q1 y1 B1 b2 c0 c1 c2 c3 d0 d1 d2 d3 d4 d5
 cases x4
 ·go_wp2
  go_ret
  exact ⟨ret_bool (by rw [HV.out]; simp), B2⟩
 go_wp2_with fail
 go_loopw [9] (fun i wr => ∃ k : Nat, k <= kn /\ i = .int .i64 k /\ Below w2.heap.size w2 wr /\ (List.range k).all (wantP cl N kx) = true) (fun i _ => kn - (intOf i).toNat)
 case atStart => exact ⟨0, qK _, rfl, Below.refl _ _, rfl⟩
 case round =>
  obtain ⟨k, hk, rfl, hb0, hall⟩ := hrel
  have HA : Hid _ := hall
  clear hall
  have hb := btq B2 hb0
  obtain ⟨d0, d1, d2, d3, d4, d5⟩ := (y2.below hb0).sixP
  by_cases hlt : k < kn
  ·obtain ⟨b, off, rfl, hc, hr⟩ := (h.below hb).k k (by rw [h.lk]; exact hlt)
   have PREV : Hid (0 < k -> wr.cell? ⟨b, off + (k - 1) * 4, none⟩ = some (.int .i64 (kx[k - 1]?.getD noQ).x)) := fun hk0 => by
    obtain ⟨b', off', e, hc', -⟩ := (h.below hb).k (k - 1) (by rw [h.lk]; omega)
    simp only [Option.some.injEq, Addr.mk.injEq, and_true] at e
    obtain ⟨rfl, rfl⟩ := e
    exact (cellsQ hc').1
   generalize HG : kx[k]?.getD noQ = g at *
   have HG' : Hid (kx[k]?.getD noQ = g) := HG
   clear HG
   obtain ⟨e0, e1, e2, e3⟩ := cellsQ hc
   obtain ⟨gx, gq, gz, ⟨gta, gtn, gtc, gtx⟩⟩ := g
   have e0' : wr.cell? ⟨b, off + k * 4, none⟩ = some (.int .i64 gx) := e0
   have e1' : wr.cell? ⟨b, off + k * 4 + 1, none⟩ = some (.int .i64 gq) := e1
   have e2' : wr.cell? ⟨b, off + k * 4 + 2, none⟩ = some (.int .i64 gz) := e2
   have e3' : wr.cell? ⟨b, off + k * 4 + 3, none⟩ = some (.slice gta gtn gtc) := e3
   have hI : Ints wr gta gtn gtx := hr.1.1
   have zI : gtn <= 1048576 := hr.1.2
   clear e0 e1 e2 e3 hc hr
   have hlt' : (k : Int) < (kn : Int) := by omega
   have NO : Hid (wantP cl N kx k = false -> clerkB cl N gn G T R u r bn bx dn dx kn kx en ex = false) := fun h => by rw [HV.out, wantsB, range_no hlt h]; rfl
   have YES : Hid (wantP cl N kx k = true -> (List.range (k + 1)).all (wantP cl N kx) = true) := fun h => range_go HA.out h
   have HE : Hid (wantP cl N kx k = (inCallB cl N gx gq gz gtn gtx && decide (k = 0 \/ (kx[k - 1]?.getD noQ).x < gx))) := by show _ = _; rw [wantP, HG'.out]
   obtain ⟨x, hx⟩ : ∃ x, x = inCallB cl N gx gq gz gtn gtx := ⟨_, rfl⟩
   have HX : Hid (x = inCallB cl N gx gq gz gtn gtx) := hx
   clear hx
   have q3 := q2.below hb0
   have y3 := y2.below hb0
   by_cases hk0 : k = 0
   ·subst hk0
    cases x
    ·have FX : Hid _ := HX.out
     have KP : Hid (∀ W, Below wr.heap.size wr W -> W.cell? ⟨w.heap.size, 0, none⟩ = some (.int .i64 cl) /\ W.cell? ⟨w.heap.size, 1, none⟩ = some (.slice ad N cap) /\ W.cell? ⟨w.heap.size, 2, none⟩ = some (.slice ga gn gc) /\ W.cell? ⟨w.heap.size, 3, none⟩ = some (.slice sa sn sc) /\ W.cell? ⟨w.heap.size + 1, 4, none⟩ = some (.slice (some ⟨b, off, none⟩) kn kc) /\ W.cell? ⟨b, off, none⟩ = some (.int .i64 gx) /\ W.cell? ⟨b, off + 1, none⟩ = some (.int .i64 gq) /\ W.cell? ⟨b, off + 2, none⟩ = some (.int .i64 gz) /\ W.cell? ⟨b, off + 3, none⟩ = some (.slice gta gtn gtc)) := fun W hW => ⟨(q3.below hW).cell 0, (q3.below hW).cell 1, (q3.below hW).cell 2, (q3.below hW).cell 3, (y3.below hW).cell 4, (hW.cell (p := ⟨b, off + 0 * 4, none⟩) (block_lt e0')).trans e0', (hW.cell (p := ⟨b, off + 0 * 4 + 1, none⟩) (block_lt e1')).trans e1', (hW.cell (p := ⟨b, off + 0 * 4 + 2, none⟩) (block_lt e2')).trans e2', (hW.cell (p := ⟨b, off + 0 * 4 + 3, none⟩) (block_lt e3')).trans e3'⟩
     have hSS := And.intro (KP.out _ (Below.refl _ _).drew) True.intro
     clear e0' e1' e2' e3'
     go_upto_region 6 with fail
     refine wp_region_ends (fun w' => w'.cell? ⟨w.heap.size, 0, none⟩ = some (.int .i64 cl) /\ w'.cell? ⟨w.heap.size, 1, none⟩ = some (.slice ad N cap) /\ w'.cell? ⟨w.heap.size, 2, none⟩ = some (.slice ga gn gc) /\ w'.cell? ⟨w.heap.size, 3, none⟩ = some (.slice sa sn sc) /\ w'.cell? ⟨w.heap.size + 1, 4, none⟩ = some (.slice (some ⟨b, off, none⟩) kn kc) /\ w'.cell? ⟨b, off, none⟩ = some (.int .i64 gx) /\ w'.cell? ⟨b, off + 1, none⟩ = some (.int .i64 gq) /\ w'.cell? ⟨b, off + 2, none⟩ = some (.int .i64 gz) /\ w'.cell? ⟨b, off + 3, none⟩ = some (.slice gta gtn gtc)) (fun _ => True) 27 (by kernel_rfl) ?_
     refine tkl 0 rfl hSS ?_
     refine tkl 1 rfl hSS ?_
     refine tkl 2 rfl hSS ?_
     refine tkl 3 rfl hSS ?_
     simp only [Act.put, qB, qD, qC, qH, qG, qF]
     refine tkl 4 rfl hSS ?_
     refine tkl 5 rfl hSS ?_
     refine wo1 6 rfl fun K hK => ?_
     go_simp
     refine (l6call_any gtx (hI.below (Below.refl _ _).drew) zI hcl hN4).mono ?_
     rintro ee w5 ⟨rfl, bd5⟩
     rw [<- HX.out]
     have b5 := below_of_drew bd5
     have b05 := btq hb0 b5
     have B5 := btq hb b5
     (try dsimp only)
     replace hSS := And.intro (KP.out w5 b5) True.intro
     refine kk0 hK (hSS.1) ?_
     refine tkl 7 rfl hSS ?_
     refine tkl 8 rfl hSS ?_
     refine tku 9 rfl hSS ?_
     refine tku 10 rfl hSS ?_
     simp only [Act.put, qB, qD, qC, qH, qG, qF]
     refine tku 11 rfl hSS ?_
     refine tku 12 rfl hSS ?_
     refine tku 13 rfl hSS ?_
     refine tku 14 rfl hSS ?_
     simp only [Act.put, qB, qD, qC, qH, qG, qF]
     refine tku 15 rfl hSS ?_
     refine tku 16 rfl hSS ?_
     refine tku 17 rfl hSS ?_
     refine tku 18 rfl hSS ?_
     simp only [Act.put, qB, qD, qC, qH, qG, qF]
     refine tku 19 rfl hSS ?_
     refine tku 20 rfl hSS ?_
     refine tku 21 rfl hSS ?_
     refine tku 22 rfl hSS ?_
     simp only [Act.put, qB, qD, qC, qH, qG, qF]
     refine tku 23 rfl hSS ?_
     refine tku 24 rfl hSS ?_
     refine tku 25 rfl hSS ?_
     refine tku 26 rfl hSS ?_
     simp only [Act.put, qB, qD, qC, qH, qG, qF]
     refine wo1 27 rfl fun K hK => ?_
     go_simp
     refine kk0 hK (hSS.1) ?_
     refine wod ?_ _
     clear hSS
     go_wp2
     go_ret
     exact ⟨ret_bool (by rw [NO.out (by rw [HE.out, <- HX.out]; simp)]), B5⟩
    ·have FX : Hid _ := HX.out
     have KP : Hid (∀ W, Below wr.heap.size wr W -> W.cell? ⟨w.heap.size, 0, none⟩ = some (.int .i64 cl) /\ W.cell? ⟨w.heap.size, 1, none⟩ = some (.slice ad N cap) /\ W.cell? ⟨w.heap.size, 2, none⟩ = some (.slice ga gn gc) /\ W.cell? ⟨w.heap.size, 3, none⟩ = some (.slice sa sn sc) /\ W.cell? ⟨w.heap.size + 1, 4, none⟩ = some (.slice (some ⟨b, off, none⟩) kn kc) /\ W.cell? ⟨b, off, none⟩ = some (.int .i64 gx) /\ W.cell? ⟨b, off + 1, none⟩ = some (.int .i64 gq) /\ W.cell? ⟨b, off + 2, none⟩ = some (.int .i64 gz) /\ W.cell? ⟨b, off + 3, none⟩ = some (.slice gta gtn gtc)) := fun W hW => ⟨(q3.below hW).cell 0, (q3.below hW).cell 1, (q3.below hW).cell 2, (q3.below hW).cell 3, (y3.below hW).cell 4, (hW.cell (p := ⟨b, off + 0 * 4, none⟩) (block_lt e0')).trans e0', (hW.cell (p := ⟨b, off + 0 * 4 + 1, none⟩) (block_lt e1')).trans e1', (hW.cell (p := ⟨b, off + 0 * 4 + 2, none⟩) (block_lt e2')).trans e2', (hW.cell (p := ⟨b, off + 0 * 4 + 3, none⟩) (block_lt e3')).trans e3'⟩
     have hSS := And.intro (KP.out _ (Below.refl _ _).drew) True.intro
     clear e0' e1' e2' e3'
     go_upto_region 6 with fail
     refine wp_region_ends (fun w' => w'.cell? ⟨w.heap.size, 0, none⟩ = some (.int .i64 cl) /\ w'.cell? ⟨w.heap.size, 1, none⟩ = some (.slice ad N cap) /\ w'.cell? ⟨w.heap.size, 2, none⟩ = some (.slice ga gn gc) /\ w'.cell? ⟨w.heap.size, 3, none⟩ = some (.slice sa sn sc) /\ w'.cell? ⟨w.heap.size + 1, 4, none⟩ = some (.slice (some ⟨b, off, none⟩) kn kc) /\ w'.cell? ⟨b, off, none⟩ = some (.int .i64 gx) /\ w'.cell? ⟨b, off + 1, none⟩ = some (.int .i64 gq) /\ w'.cell? ⟨b, off + 2, none⟩ = some (.int .i64 gz) /\ w'.cell? ⟨b, off + 3, none⟩ = some (.slice gta gtn gtc)) (fun _ => True) 27 (by kernel_rfl) ?_
     refine tkl 0 rfl hSS ?_
     refine tkl 1 rfl hSS ?_
     refine tkl 2 rfl hSS ?_
     refine tkl 3 rfl hSS ?_
     simp only [Act.put, qB, qD, qC, qH, qG, qF]
     refine tkl 4 rfl hSS ?_
     refine tkl 5 rfl hSS ?_
     refine wo1 6 rfl fun K hK => ?_
     go_simp
     refine (l6call_any gtx (hI.below (Below.refl _ _).drew) zI hcl hN4).mono ?_
     rintro ee w5 ⟨rfl, bd5⟩
     rw [<- HX.out]
     have b5 := below_of_drew bd5
     have b05 := btq hb0 b5
     have B5 := btq hb b5
     (try dsimp only)
     replace hSS := And.intro (KP.out w5 b5) True.intro
     refine kk0 hK (hSS.1) ?_
     refine tkl 7 rfl hSS ?_
     refine tkl 8 rfl hSS ?_
     refine tkl 9 rfl hSS ?_
     refine tkl 10 rfl hSS ?_
     simp only [Act.put, qB, qD, qC, qH, qG, qF]
     refine tkl 11 rfl hSS ?_
     refine tku 12 rfl hSS ?_
     refine tku 13 rfl hSS ?_
     refine tku 14 rfl hSS ?_
     simp only [Act.put, qB, qD, qC, qH, qG, qF]
     refine tku 15 rfl hSS ?_
     refine tku 16 rfl hSS ?_
     refine tku 17 rfl hSS ?_
     refine tku 18 rfl hSS ?_
     simp only [Act.put, qB, qD, qC, qH, qG, qF]
     refine tku 19 rfl hSS ?_
     refine tku 20 rfl hSS ?_
     refine tku 21 rfl hSS ?_
     refine tku 22 rfl hSS ?_
     simp only [Act.put, qB, qD, qC, qH, qG, qF]
     refine tku 23 rfl hSS ?_
     refine tku 24 rfl hSS ?_
     refine tku 25 rfl hSS ?_
     refine tkl 26 rfl hSS ?_
     simp only [Act.put, qB, qD, qC, qH, qG, qF]
     refine wo1 27 rfl fun K hK => ?_
     go_simp
     refine kk0 hK (hSS.1) ?_
     refine wod ?_ _
     clear hSS
     go_wp2
     go_roundw
     case rel => exact ⟨0 + 1, by omega, by go_num, b05, YES.out (by rw [HE.out, <- HX.out]; simp)⟩
     case measure => simp [intOf]; omega
   ·have hkp : 0 < k := by omega
    have eP := PREV.out hkp
    generalize HPX : (kx[k - 1]?.getD noQ).x = px at *
    have HPX' : Hid ((kx[k - 1]?.getD noQ).x = px) := HPX
    clear HPX
    have hk1 : ((k : Int) - 1) = ((k - 1 : Nat) : Int) := by omega
    have hkd1 : decide ((0 : Int) < (k : Int)) = true := by simp; omega
    have hkd2 : decide (0 < k) = true := by simp; omega
    have hk2 : ((k - 1 : Nat) : Int) < (kn : Int) := by omega
    have hk3 : (0 : Int) <= ((k - 1 : Nat) : Int) := by omega
    have hk4 : ((k - 1 : Nat) : Int).toNat = k - 1 := by omega
    have hk5 : IntKind.i64.wrap ((k - 1 : Nat) : Int) = ((k - 1 : Nat) : Int) := wrap_id (by have := h.zk; omega) (by have := h.zk; omega)
    cases x
    ·have FX : Hid _ := HX.out
     have KP : Hid (∀ W, Below wr.heap.size wr W -> W.cell? ⟨w.heap.size, 0, none⟩ = some (.int .i64 cl) /\ W.cell? ⟨w.heap.size, 1, none⟩ = some (.slice ad N cap) /\ W.cell? ⟨w.heap.size, 2, none⟩ = some (.slice ga gn gc) /\ W.cell? ⟨w.heap.size, 3, none⟩ = some (.slice sa sn sc) /\ W.cell? ⟨w.heap.size + 1, 4, none⟩ = some (.slice (some ⟨b, off, none⟩) kn kc) /\ W.cell? ⟨b, off + k * 4, none⟩ = some (.int .i64 gx) /\ W.cell? ⟨b, off + k * 4 + 1, none⟩ = some (.int .i64 gq) /\ W.cell? ⟨b, off + k * 4 + 2, none⟩ = some (.int .i64 gz) /\ W.cell? ⟨b, off + k * 4 + 3, none⟩ = some (.slice gta gtn gtc) /\ W.cell? ⟨b, off + (k - 1) * 4, none⟩ = some (.int .i64 px)) := fun W hW => ⟨(q3.below hW).cell 0, (q3.below hW).cell 1, (q3.below hW).cell 2, (q3.below hW).cell 3, (y3.below hW).cell 4, (hW.cell (p := ⟨b, off + k * 4, none⟩) (block_lt e0')).trans e0', (hW.cell (p := ⟨b, off + k * 4 + 1, none⟩) (block_lt e1')).trans e1', (hW.cell (p := ⟨b, off + k * 4 + 2, none⟩) (block_lt e2')).trans e2', (hW.cell (p := ⟨b, off + k * 4 + 3, none⟩) (block_lt e3')).trans e3', (hW.cell (p := ⟨b, off + (k - 1) * 4, none⟩) (block_lt eP)).trans eP⟩
     have hSS := And.intro (KP.out _ (Below.refl _ _).drew) True.intro
     clear e0' e1' e2' e3' eP
     go_upto_region 6 with fail
     refine wp_region_ends (fun w' => w'.cell? ⟨w.heap.size, 0, none⟩ = some (.int .i64 cl) /\ w'.cell? ⟨w.heap.size, 1, none⟩ = some (.slice ad N cap) /\ w'.cell? ⟨w.heap.size, 2, none⟩ = some (.slice ga gn gc) /\ w'.cell? ⟨w.heap.size, 3, none⟩ = some (.slice sa sn sc) /\ w'.cell? ⟨w.heap.size + 1, 4, none⟩ = some (.slice (some ⟨b, off, none⟩) kn kc) /\ w'.cell? ⟨b, off + k * 4, none⟩ = some (.int .i64 gx) /\ w'.cell? ⟨b, off + k * 4 + 1, none⟩ = some (.int .i64 gq) /\ w'.cell? ⟨b, off + k * 4 + 2, none⟩ = some (.int .i64 gz) /\ w'.cell? ⟨b, off + k * 4 + 3, none⟩ = some (.slice gta gtn gtc) /\ w'.cell? ⟨b, off + (k - 1) * 4, none⟩ = some (.int .i64 px)) (fun _ => True) 27 (by kernel_rfl) ?_
     refine tkl 0 rfl hSS ?_
     refine tkl 1 rfl hSS ?_
     refine tkl 2 rfl hSS ?_
     refine tkl 3 rfl hSS ?_
     simp only [Act.put, qB, qD, qC, qH, qG, qF]
     refine tkl 4 rfl hSS ?_
     refine tkl 5 rfl hSS ?_
     refine wo1 6 rfl fun K hK => ?_
     go_simp
     refine (l6call_any gtx (hI.below (Below.refl _ _).drew) zI hcl hN4).mono ?_
     rintro ee w5 ⟨rfl, bd5⟩
     rw [<- HX.out]
     have b5 := below_of_drew bd5
     have b05 := btq hb0 b5
     have B5 := btq hb b5
     (try dsimp only)
     replace hSS := And.intro (KP.out w5 b5) True.intro
     refine kk0 hK (hSS.1) ?_
     refine tkl 7 rfl hSS ?_
     refine tkl 8 rfl hSS ?_
     refine tku 9 rfl hSS ?_
     refine tku 10 rfl hSS ?_
     simp only [Act.put, qB, qD, qC, qH, qG, qF]
     refine tku 11 rfl hSS ?_
     refine tku 12 rfl hSS ?_
     refine tku 13 rfl hSS ?_
     refine tku 14 rfl hSS ?_
     simp only [Act.put, qB, qD, qC, qH, qG, qF]
     refine tku 15 rfl hSS ?_
     refine tku 16 rfl hSS ?_
     refine tku 17 rfl hSS ?_
     refine tku 18 rfl hSS ?_
     simp only [Act.put, qB, qD, qC, qH, qG, qF]
     refine tku 19 rfl hSS ?_
     refine tku 20 rfl hSS ?_
     refine tku 21 rfl hSS ?_
     refine tku 22 rfl hSS ?_
     simp only [Act.put, qB, qD, qC, qH, qG, qF]
     refine tku 23 rfl hSS ?_
     refine tku 24 rfl hSS ?_
     refine tku 25 rfl hSS ?_
     refine tku 26 rfl hSS ?_
     simp only [Act.put, qB, qD, qC, qH, qG, qF]
     refine wo1 27 rfl fun K hK => ?_
     go_simp
     refine kk0 hK (hSS.1) ?_
     refine wod ?_ _
     clear hSS
     go_wp2
     go_ret
     exact ⟨ret_bool (by rw [NO.out (by rw [HE.out, <- HX.out]; simp)]), B5⟩
    ·by_cases hle : gx <= px
     ·have hle' : decide (gx <= px) = true := by simpa using hle
      have KP : Hid (∀ W, Below wr.heap.size wr W -> W.cell? ⟨w.heap.size, 0, none⟩ = some (.int .i64 cl) /\ W.cell? ⟨w.heap.size, 1, none⟩ = some (.slice ad N cap) /\ W.cell? ⟨w.heap.size, 2, none⟩ = some (.slice ga gn gc) /\ W.cell? ⟨w.heap.size, 3, none⟩ = some (.slice sa sn sc) /\ W.cell? ⟨w.heap.size + 1, 4, none⟩ = some (.slice (some ⟨b, off, none⟩) kn kc) /\ W.cell? ⟨b, off + k * 4, none⟩ = some (.int .i64 gx) /\ W.cell? ⟨b, off + k * 4 + 1, none⟩ = some (.int .i64 gq) /\ W.cell? ⟨b, off + k * 4 + 2, none⟩ = some (.int .i64 gz) /\ W.cell? ⟨b, off + k * 4 + 3, none⟩ = some (.slice gta gtn gtc) /\ W.cell? ⟨b, off + (k - 1) * 4, none⟩ = some (.int .i64 px)) := fun W hW => ⟨(q3.below hW).cell 0, (q3.below hW).cell 1, (q3.below hW).cell 2, (q3.below hW).cell 3, (y3.below hW).cell 4, (hW.cell (p := ⟨b, off + k * 4, none⟩) (block_lt e0')).trans e0', (hW.cell (p := ⟨b, off + k * 4 + 1, none⟩) (block_lt e1')).trans e1', (hW.cell (p := ⟨b, off + k * 4 + 2, none⟩) (block_lt e2')).trans e2', (hW.cell (p := ⟨b, off + k * 4 + 3, none⟩) (block_lt e3')).trans e3', (hW.cell (p := ⟨b, off + (k - 1) * 4, none⟩) (block_lt eP)).trans eP⟩
      have hSS := And.intro (KP.out _ (Below.refl _ _).drew) True.intro
      clear e0' e1' e2' e3' eP
      go_upto_region 6 with fail
      refine wp_region_ends (fun w' => w'.cell? ⟨w.heap.size, 0, none⟩ = some (.int .i64 cl) /\ w'.cell? ⟨w.heap.size, 1, none⟩ = some (.slice ad N cap) /\ w'.cell? ⟨w.heap.size, 2, none⟩ = some (.slice ga gn gc) /\ w'.cell? ⟨w.heap.size, 3, none⟩ = some (.slice sa sn sc) /\ w'.cell? ⟨w.heap.size + 1, 4, none⟩ = some (.slice (some ⟨b, off, none⟩) kn kc) /\ w'.cell? ⟨b, off + k * 4, none⟩ = some (.int .i64 gx) /\ w'.cell? ⟨b, off + k * 4 + 1, none⟩ = some (.int .i64 gq) /\ w'.cell? ⟨b, off + k * 4 + 2, none⟩ = some (.int .i64 gz) /\ w'.cell? ⟨b, off + k * 4 + 3, none⟩ = some (.slice gta gtn gtc) /\ w'.cell? ⟨b, off + (k - 1) * 4, none⟩ = some (.int .i64 px)) (fun _ => True) 27 (by kernel_rfl) ?_
      refine tkl 0 rfl hSS ?_
      refine tkl 1 rfl hSS ?_
      refine tkl 2 rfl hSS ?_
      refine tkl 3 rfl hSS ?_
      simp only [Act.put, qB, qD, qC, qH, qG, qF]
      refine tkl 4 rfl hSS ?_
      refine tkl 5 rfl hSS ?_
      refine wo1 6 rfl fun K hK => ?_
      go_simp
      refine (l6call_any gtx (hI.below (Below.refl _ _).drew) zI hcl hN4).mono ?_
      rintro ee w5 ⟨rfl, bd5⟩
      rw [<- HX.out]
      have b5 := below_of_drew bd5
      have b05 := btq hb0 b5
      have B5 := btq hb b5
      (try dsimp only)
      replace hSS := And.intro (KP.out w5 b5) True.intro
      refine kk0 hK (hSS.1) ?_
      refine tkl 7 rfl hSS ?_
      refine tkl 8 rfl hSS ?_
      refine tkl 9 rfl hSS ?_
      refine tkl 10 rfl hSS ?_
      simp only [Act.put, qB, qD, qC, qH, qG, qF]
      refine tkl 11 rfl hSS ?_
      refine tkl 12 rfl hSS ?_
      refine tkl 13 rfl hSS ?_
      refine tkl 14 rfl hSS ?_
      simp only [Act.put, qB, qD, qC, qH, qG, qF]
      refine tkl 15 rfl hSS ?_
      refine tkl 16 rfl hSS ?_
      refine tkl 17 rfl hSS ?_
      refine tkl 18 rfl hSS ?_
      simp only [Act.put, qB, qD, qC, qH, qG, qF]
      refine tkl 19 rfl hSS ?_
      refine tkl 20 rfl hSS ?_
      refine tkl 21 rfl hSS ?_
      refine tkl 22 rfl hSS ?_
      simp only [Act.put, qB, qD, qC, qH, qG, qF]
      refine tkl 23 rfl hSS ?_
      refine tkl 24 rfl hSS ?_
      refine tkl 25 rfl hSS ?_
      refine tkl 26 rfl hSS ?_
      simp only [Act.put, qB, qD, qC, qH, qG, qF]
      refine wo1 27 rfl fun K hK => ?_
      go_simp
      refine kk0 hK (hSS.1) ?_
      refine wod ?_ _
      clear hSS
      go_wp2
      go_ret
      exact ⟨ret_bool (by rw [NO.out (by rw [HE.out, <- HX.out]; simp; omega)]), B5⟩
     ·have hle' : decide (gx <= px) = false := by simpa using hle
      have KP : Hid (∀ W, Below wr.heap.size wr W -> W.cell? ⟨w.heap.size, 0, none⟩ = some (.int .i64 cl) /\ W.cell? ⟨w.heap.size, 1, none⟩ = some (.slice ad N cap) /\ W.cell? ⟨w.heap.size, 2, none⟩ = some (.slice ga gn gc) /\ W.cell? ⟨w.heap.size, 3, none⟩ = some (.slice sa sn sc) /\ W.cell? ⟨w.heap.size + 1, 4, none⟩ = some (.slice (some ⟨b, off, none⟩) kn kc) /\ W.cell? ⟨b, off + k * 4, none⟩ = some (.int .i64 gx) /\ W.cell? ⟨b, off + k * 4 + 1, none⟩ = some (.int .i64 gq) /\ W.cell? ⟨b, off + k * 4 + 2, none⟩ = some (.int .i64 gz) /\ W.cell? ⟨b, off + k * 4 + 3, none⟩ = some (.slice gta gtn gtc) /\ W.cell? ⟨b, off + (k - 1) * 4, none⟩ = some (.int .i64 px)) := fun W hW => ⟨(q3.below hW).cell 0, (q3.below hW).cell 1, (q3.below hW).cell 2, (q3.below hW).cell 3, (y3.below hW).cell 4, (hW.cell (p := ⟨b, off + k * 4, none⟩) (block_lt e0')).trans e0', (hW.cell (p := ⟨b, off + k * 4 + 1, none⟩) (block_lt e1')).trans e1', (hW.cell (p := ⟨b, off + k * 4 + 2, none⟩) (block_lt e2')).trans e2', (hW.cell (p := ⟨b, off + k * 4 + 3, none⟩) (block_lt e3')).trans e3', (hW.cell (p := ⟨b, off + (k - 1) * 4, none⟩) (block_lt eP)).trans eP⟩
      have hSS := And.intro (KP.out _ (Below.refl _ _).drew) True.intro
      clear e0' e1' e2' e3' eP
      go_upto_region 6 with fail
      refine wp_region_ends (fun w' => w'.cell? ⟨w.heap.size, 0, none⟩ = some (.int .i64 cl) /\ w'.cell? ⟨w.heap.size, 1, none⟩ = some (.slice ad N cap) /\ w'.cell? ⟨w.heap.size, 2, none⟩ = some (.slice ga gn gc) /\ w'.cell? ⟨w.heap.size, 3, none⟩ = some (.slice sa sn sc) /\ w'.cell? ⟨w.heap.size + 1, 4, none⟩ = some (.slice (some ⟨b, off, none⟩) kn kc) /\ w'.cell? ⟨b, off + k * 4, none⟩ = some (.int .i64 gx) /\ w'.cell? ⟨b, off + k * 4 + 1, none⟩ = some (.int .i64 gq) /\ w'.cell? ⟨b, off + k * 4 + 2, none⟩ = some (.int .i64 gz) /\ w'.cell? ⟨b, off + k * 4 + 3, none⟩ = some (.slice gta gtn gtc) /\ w'.cell? ⟨b, off + (k - 1) * 4, none⟩ = some (.int .i64 px)) (fun _ => True) 27 (by kernel_rfl) ?_
      refine tkl 0 rfl hSS ?_
      refine tkl 1 rfl hSS ?_
      refine tkl 2 rfl hSS ?_
      refine tkl 3 rfl hSS ?_
      simp only [Act.put, qB, qD, qC, qH, qG, qF]
      refine tkl 4 rfl hSS ?_
      refine tkl 5 rfl hSS ?_
      refine wo1 6 rfl fun K hK => ?_
      go_simp
      refine (l6call_any gtx (hI.below (Below.refl _ _).drew) zI hcl hN4).mono ?_
      rintro ee w5 ⟨rfl, bd5⟩
      rw [<- HX.out]
      have b5 := below_of_drew bd5
      have b05 := btq hb0 b5
      have B5 := btq hb b5
      (try dsimp only)
      replace hSS := And.intro (KP.out w5 b5) True.intro
      refine kk0 hK (hSS.1) ?_
      refine tkl 7 rfl hSS ?_
      refine tkl 8 rfl hSS ?_
      refine tkl 9 rfl hSS ?_
      refine tkl 10 rfl hSS ?_
      simp only [Act.put, qB, qD, qC, qH, qG, qF]
      refine tkl 11 rfl hSS ?_
      refine tkl 12 rfl hSS ?_
      refine tkl 13 rfl hSS ?_
      refine tkl 14 rfl hSS ?_
      simp only [Act.put, qB, qD, qC, qH, qG, qF]
      refine tkl 15 rfl hSS ?_
      refine tkl 16 rfl hSS ?_
      refine tkl 17 rfl hSS ?_
      refine tkl 18 rfl hSS ?_
      simp only [Act.put, qB, qD, qC, qH, qG, qF]
      refine tkl 19 rfl hSS ?_
      refine tkl 20 rfl hSS ?_
      refine tkl 21 rfl hSS ?_
      refine tkl 22 rfl hSS ?_
      simp only [Act.put, qB, qD, qC, qH, qG, qF]
      refine tkl 23 rfl hSS ?_
      refine tkl 24 rfl hSS ?_
      refine tkl 25 rfl hSS ?_
      refine tkl 26 rfl hSS ?_
      simp only [Act.put, qB, qD, qC, qH, qG, qF]
      refine wo1 27 rfl fun K hK => ?_
      go_simp
      refine kk0 hK (hSS.1) ?_
      refine wod ?_ _
      clear hSS
      go_wp2
      go_roundw
      case rel => exact ⟨k + 1, by omega, by go_num, b05, YES.out (by rw [HE.out, <- HX.out]; simp; omega)⟩
      case measure => simp [intOf]; omega
  ·obtain rfl : k = kn := by omega
   have HW : Hid (wantsB cl N k kx = true) := HA.out
   have y3 := y2.below hb0
   obtain ⟨d0, d1, d2, d3, d4, d5⟩ := y3.sixP
   cases u
   ·by_cases hk0 : k = 0
    ·subst hk0
     go_wp2_with fail
     refine (shasn_any ex (h.below hb).g h.lg h.zg).mono ?_
     rintro e w4 ⟨rfl, b4⟩
     have e2 : ((hasN ex : Int) == 0) = decide (hasN ex = 0) := by by_cases hn : hasN ex = 0 <;> simp [hn]
     have E2 : Hid _ := e2
     go_wp2
     go_ret
     exact ⟨ret_bool (by rw [HV.out, HW.out]; simp), btq hb b4⟩
    ·have hk0' : ((k : Int) == 0) = false := by simp; omega
     go_wp2
     go_ret
     exact ⟨ret_bool (by rw [HV.out, HW.out]; simp [hk0]), hb⟩
   ·go_wp2
    go_ret
    exact ⟨ret_bool (by rw [HV.out, HW.out]; simp), hb⟩
theorem sclkok_any (ss : List L2V) (G S : List Int) {u : Bool} {r : Int} {ba : Option Addr} {bn bc : Nat} (bx : List Int) {da : Option Addr} {dn dc : Nat} (dx : List DV) {ka : Option Addr} {kn kc : Nat} (kx : List QV) {ea : Option Addr} {en ec : Nat} (ex : List GV) {w : World} (hp : PlAt w ad N ss ga gn G sa sn S) (h : CkAt w ba bn bx da dn dx ka kn kx ea en ex) :
  Calls Tryz.prog 80 #[plV cl ad N cap ga gn gc sa sn sc, ckV u r ba bn bc da dn dc ka kn kc ea en ec] w fun e w' => e = .returned (.bool (clkB cl N ss gn G sn S u r bn bx dn dx kn kx en ex)) /\ Below w.heap.size w w' := by
 have q0 := (Cel.new w [.int .i64 cl, .slice ad N cap, .slice ga gn gc, .slice sa sn sc] 41).alloc (.cells #[.bool u, .int .i64 r, .slice ba bn bc, .slice da dn dc, .slice ka kn kc, .slice ea en ec] 47)
 have y0 := Cel.new (w.alloc (.cells #[.int .i64 cl, .slice ad N cap, .slice ga gn gc, .slice sa sn sc] 41)) [.bool u, .int .i64 r, .slice ba bn bc, .slice da dn dc, .slice ka kn kc, .slice ea en ec] 47
 rw [World.size_alloc] at y0
 have B0 := ((Below.refl w.heap.size w).alloc (qJ _) (.cells #[.int .i64 cl, .slice ad N cap, .slice ga gn gc, .slice sa sn sc] 41)).alloc (by simp) (.cells #[.bool u, .int .i64 r, .slice ba bn bc, .slice da dn dc, .slice ka kn kc, .slice ea en ec] 47)
 cases hpl : plnB cl N ss gn G sn S
 ·go_enter Tryz.func80, Tryz.ntmps80
  go_wp2_with fail
  refine (splnok_any ss G S (hp.below B0)).mono ?_
  rintro e w1 ⟨rfl, b1⟩
  rw [hpl]
  go_wp2
  go_ret
  exact ⟨ret_bool (by rw [clkB, hpl]; rfl), btq B0 b1⟩
 have pp := (pln_parts hpl).1
 have pa := pln_acts hpl
 have HC : Hid _ := catB_parts (pln_catC hpl)
 have HP : Hid _ := hpl
 clear hpl
 go_enter Tryz.func80, Tryz.ntmps80
 go_wp2_with fail
 refine (splnok_any ss G S (hp.below B0)).mono ?_
 rintro e w1 ⟨rfl, b1⟩
 rw [HP.out]
 have B1 := btq B0 b1
 have q1 := q0.below b1
 have y1 := y0.below b1
 clear q0 y0 B0 b1
 obtain ⟨c0, c1, c2, c3⟩ := q1.quadP
 go_wp2_with fail
 refine (sboth_any ss hp.ha (hp.below B1).a HC.out.2 HC.out.1).mono ?_
 rintro e w2 ⟨G', cG, ts, nt, Gp, cp, rfl, hl, jp, hx, hnt, o, lGp⟩
 have B2 := btq B1 jp.b
 have q2 := q1.below jp.b
 have y2 := y1.below jp.b
 have hg := jp.g
 have HX : Hid _ := hx
 have HL : Hid _ := hl
 have hR := o.bools.ba
 clear jp hx hl o q1 y1 B1 c0 c1 c2 c3
 obtain ⟨c0, c1, c2, c3⟩ := q2.quadP
 obtain ⟨d0, d1, d2, d3, d4, d5⟩ := y2.sixP
 go_wp2_with fail
 refine (sl9_any G ts (catP ss) (pinsA ss) bx dx kx ex (hp.below B2).g hp.zg pp pa hg HL.out (by omega) HX.out hR (h.below B2)).mono ?_
 rintro e w3 ⟨rfl, b3⟩
 go_wp2
 go_ret
 exact ⟨ret_bool (by rw [clkB, HP.out]; rfl), btq B2 b3⟩
theorem iclkok_any (ss : List L2V) (G S : List Int) {u : Bool} {r : Int} {ba : Option Addr} {bn bc : Nat} (bx : List Int) {da : Option Addr} {dn dc : Nat} (dx : List DV) {ka : Option Addr} {kn kc : Nat} (kx : List QV) {ea : Option Addr} {en ec : Nat} (ex : List GV) {w : World} (hp : PlAt w ad N ss ga gn G sa sn S) (h : CkAt w ba bn bx da dn dx ka kn kx ea en ex) (hTB : Lib.TabBelow Tryz.prog w.heap.size w "internal/strconv.uint64pow10" .u64 Lib.pow10Tab) :
  Calls Tryz.prog 50 #[plV cl ad N cap ga gn gc sa sn sc, ckV u r ba bn bc da dn dc ka kn kc ea en ec] w fun e w' => e = .returned (.bool (clkB cl N ss gn G sn S u r bn bx dn dx kn kx en ex)) /\ Below w.heap.size w w' := by
 have HTB : Hid _ := hTB
 clear hTB
 have q0 := (Cel.new w [.int .i64 cl, .slice ad N cap, .slice ga gn gc, .slice sa sn sc] 41).alloc (.cells #[.bool u, .int .i64 r, .slice ba bn bc, .slice da dn dc, .slice ka kn kc, .slice ea en ec] 47)
 have y0 := Cel.new (w.alloc (.cells #[.int .i64 cl, .slice ad N cap, .slice ga gn gc, .slice sa sn sc] 41)) [.bool u, .int .i64 r, .slice ba bn bc, .slice da dn dc, .slice ka kn kc, .slice ea en ec] 47
 rw [World.size_alloc] at y0
 have B0 := ((Below.refl w.heap.size w).alloc (qJ _) (.cells #[.int .i64 cl, .slice ad N cap, .slice ga gn gc, .slice sa sn sc] 41)).alloc (by simp) (.cells #[.bool u, .int .i64 r, .slice ba bn bc, .slice da dn dc, .slice ka kn kc, .slice ea en ec] 47)
 cases hpl : plnB cl N ss gn G sn S
 ·go_enter Tryz.func50, Tryz.ntmps50
  go_wp2_with fail
  refine (iplnok_any ss G S (hp.below B0)).mono ?_
  rintro e w1 ⟨rfl, b1⟩
  rw [hpl]
  go_wp2
  go_ret
  exact ⟨ret_bool (by rw [clkB, hpl]; rfl), btq B0 b1⟩
 have HC : Hid _ := pln_catC hpl
 have HP : Hid _ := hpl
 clear hpl
 obtain ⟨x1, hx1⟩ : ∃ y, y = inB r 0 200 := ⟨_, rfl⟩
 obtain ⟨x2, hx2⟩ : ∃ y, y = okN 3 10000 bn bx := ⟨_, rfl⟩
 obtain ⟨x3, hx3⟩ : ∃ y, y = donesB cl dn dx := ⟨_, rfl⟩
 obtain ⟨x4, hx4⟩ : ∃ y, y = wantsB cl N kn kx := ⟨_, rfl⟩
 obtain ⟨x5, hx5⟩ : ∃ y, y = gotsB cl gn bn bx G (catP ss) (pinsA ss) en ex := ⟨_, rfl⟩
 have HB : Hid (clkB cl N ss gn G sn S u r bn bx dn dx kn kx en ex = (x1 && (x2 && (x3 && (x4 && (x5 && (u || (decide (kn = 0) && decide (hasN ex = 0))))))))) := by show _ = _; rw [clkB, clerkB, HP.out, hx1, hx2, hx3, hx4, hx5]; rfl
 have H1 : Hid _ := hx1
 have H2 : Hid _ := hx2
 have H3 : Hid _ := hx3
 have H4 : Hid _ := hx4
 have H5 : Hid _ := hx5
 clear hx1 hx2 hx3 hx4 hx5
 go_enter Tryz.func50, Tryz.ntmps50
 go_wp2_with fail
 refine (iplnok_any ss G S (hp.below B0)).mono ?_
 rintro e w1 ⟨rfl, b1⟩
 rw [HP.out]
 have B1 := btq B0 b1
 have q1 := q0.below b1
 have y1 := y0.below b1
 clear q0 y0 B0 b1
 obtain ⟨c0, c1, c2, c3⟩ := q1.quadP
 obtain ⟨d0, d1, d2, d3, d4, d5⟩ := y1.sixP
 go_wp2_with fail
 refine (iroundC_any).mono ?_
 rintro e w2 ⟨rfl, b2⟩
 rw [<- H1.out]
 have B2 := btq B1 b2
 have q2 := q1.below b2
 have y2 := y1.below b2
 clear q1 y1 B1 b2 c0 c1 c2 c3 d0 d1 d2 d3 d4 d5
 cases x1
 ·go_wp2
  go_ret
  exact ⟨ret_bool (by rw [HB.out]; rfl), B2⟩
 obtain ⟨c0, c1, c2, c3⟩ := q2.quadP
 obtain ⟨d0, d1, d2, d3, d4, d5⟩ := y2.sixP
 go_wp2_with fail
 refine (ival_any bx (h.below B2).b h.zb).mono ?_
 rintro e wq ⟨rfl, rfl⟩
 rw [<- H2.out]
 cases x2
 ·go_wp2
  go_ret
  exact ⟨ret_bool (by rw [HB.out]; rfl), B2⟩
 go_wp2_with fail
 refine (idones_any dx h.ld (h.below B2).d h.zd (fun w' h' => HTB.out w' (btq B2 h'))).mono ?_
 rintro e w3 ⟨rfl, b3⟩
 rw [<- H3.out]
 have B3 := btq B2 b3
 have q3 := q2.below b3
 have y3 := y2.below b3
 clear q2 y2 B2 b3 c0 c1 c2 c3 d0 d1 d2 d3 d4 d5
 cases x3
 ·go_wp2
  go_ret
  exact ⟨ret_bool (by rw [HB.out]; rfl), B3⟩
 obtain ⟨c0, c1, c2, c3⟩ := q3.quadP
 obtain ⟨d0, d1, d2, d3, d4, d5⟩ := y3.sixP
 go_wp2_with fail
 refine (iwants_any ss G S kx (hp.below B3) HP.out (h.below B3).k h.lk h.zk (fun w' h' => HTB.out w' (btq B3 h'))).mono ?_
 rintro e w4 ⟨rfl, b4⟩
 rw [<- H4.out]
 have B4 := btq B3 b4
 have q4 := q3.below b4
 have y4 := y3.below b4
 clear q3 y3 B3 b4 c0 c1 c2 c3 d0 d1 d2 d3 d4 d5
 cases x4
 ·go_wp2
  go_ret
  exact ⟨ret_bool (by rw [HB.out]; rfl), B4⟩
 obtain ⟨c0, c1, c2, c3⟩ := q4.quadP
 obtain ⟨d0, d1, d2, d3, d4, d5⟩ := y4.sixP
 go_wp2_with fail
 refine (igots_any ss G S bx ex (hp.below B4) HC.out (h.below B4).b h.zb (h.below B4).g h.lg h.zg).mono ?_
 rintro e w5 ⟨rfl, b5⟩
 rw [<- H5.out]
 have B5 := btq B4 b5
 have q5 := q4.below b5
 have y5 := y4.below b5
 clear q4 y4 B4 b5 c0 c1 c2 c3 d0 d1 d2 d3 d4 d5
 cases x5
 ·go_wp2
  go_ret
  exact ⟨ret_bool (by rw [HB.out]; rfl), B5⟩
 obtain ⟨c0, c1, c2, c3⟩ := q5.quadP
 obtain ⟨d0, d1, d2, d3, d4, d5⟩ := y5.sixP
 cases u
 ·go_wp2_with fail
  refine (ineeds_any ex (h.below B5).g h.lg h.zg).mono ?_
  rintro e w6 ⟨rfl, b6⟩
  go_wp2
  go_ret
  refine ⟨ret_bool ?_, btq B5 b6⟩
  rw [HB.out]
  by_cases hk : kn = 0
  ·subst hk; by_cases hh : hasN ex = 0 <;> simp [hh]
  ·have : 0 < kn := by omega
   simp [hk, this]
 ·go_wp2
  go_ret
  exact ⟨ret_bool (by rw [HB.out]; rfl), B5⟩
end Go.Proofs.YtacfoeekmcnpjaaGreatDoor
