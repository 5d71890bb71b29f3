/-
  The walk of FnExactClkFall: it returns true.
-/
import Derived.Test.YtacfoeekmcnpjaaGreatDoorQO
namespace Go.Proofs.YtacfoeekmcnpjaaGreatDoor.fnExactClkFall
open Go.ChangeShapes Go.WideShapes Go.ChangeAt Go.RowKit Go.Deep
open List renaming set_cons_zero → qA, set_cons_succ → qB
set_option linter.unusedVariables false
set_option maxRecDepth 100000
set_option maxHeartbeats 25600000
theorem walk (w : World) (cl : Int) (ad : Option Addr) (N cap : Nat) (ss : List L2V) (ga : Option Addr) (gn gc : Nat) (G : List Int) (sa : Option Addr) (sn sc : Nat) (S : List Int) (hl : ss.length = N) (hM : LSM w ad ss) (hN : N <= maxLen) (hG : Ints w ga gn G) (hg : gn <= maxLen) (hS : Ints w sa sn S) (hs : sn <= maxLen)
  (u : Bool) (r : Int) (ba : Option Addr) (bn bc : Nat) (bx : List Int) (da : Option Addr) (dn dc : Nat) (dx : List DV) (ka : Option Addr) (kn kc : Nat) (kx : List QV) (ea : Option Addr) (en ec : Nat) (ex : List GV) (hb : Ints w ba bn bx) (mb : bn <= maxLen) (ld : dx.length = dn) (hd : DSM w da dx) (md : dn <= maxLen) (lk : kx.length = kn) (hk : QSM w ka kx) (mk : kn <= maxLen) (le : ex.length = en) (he : GSM w ea ex) (me : en <= maxLen) (up : Bool) (hT : Lib.TabBelow Tryz.prog w.heap.size w "internal/strconv.uint64pow10" .u64 Lib.pow10Tab) :
  Calls Tryz.prog 8 #[plV cl ad N cap ga gn gc sa sn sc, ckV u r ba bn bc da dn dc ka kn kc ea en ec, .bool up] w fun r w' => r = .returned (.bool true) /\ Below w.heap.size w w' := by
 have HTB : Hid _ := hT
 clear hT
 have ld' : Hid (dx.length = dn) := ld
 have lk' : Hid (kx.length = kn) := lk
 have le' : Hid (ex.length = en) := le
 clear ld lk le
 have q_0 := (Cel.new w [.int .i64 cl, .slice ad N cap, .slice ga gn gc, .slice sa sn sc] 25).alloc (.cells #[.bool u, .int .i64 r, .slice ba bn bc, .slice da dn dc, .slice ka kn kc, .slice ea en ec] 31)
 have r_0 := Cel.new (w.alloc (.cells #[.int .i64 cl, .slice ad N cap, .slice ga gn gc, .slice sa sn sc] 25)) [.bool u, .int .i64 r, .slice ba bn bc, .slice da dn dc, .slice ka kn kc, .slice ea en ec] 31
 rw [World.size_alloc] at r_0
 have B_0 := ((Below.refl w.heap.size w).alloc (Nat.le_refl _) (.cells #[.int .i64 cl, .slice ad N cap, .slice ga gn gc, .slice sa sn sc] 25)).alloc (by simp) (.cells #[.bool u, .int .i64 r, .slice ba bn bc, .slice da dn dc, .slice ka kn kc, .slice ea en ec] 31)
 have HL : Hid (ss.length = N) := hl
 clear hl
 go_enter Tryz.func8, Tryz.ntmps8
 go_wp2_with fail
 refine (szP_any ss G S HL.out (hM.below B_0) hN (hG.below B_0) hg (hS.below B_0) hs (by omega) (by omega)).mono ?_
 rintro rr w1 ⟨x, rfl, x1, x2, x3, b_1⟩
 have B_1 := btq B_0 b_1
 have q_1 := q_0.below b_1
 have r_1 := r_0.below b_1
 by_cases hx : x < 0
 ·go_wp2
  go_ret
  exact ⟨rfl, B_1⟩
 have hx' : 0 <= x := by omega
 have A_1 := (x3 hx').below b_1
 clear q_0 r_0 B_0 b_1 x3 hx hM hG hS hN hg hs
 obtain ⟨d0, d1, d2, d3, d4, d5⟩ := r_1.sixP
 go_wp2_with fail
 refine (szCk_any bx dx kx ex (hb.below B_1) mb ld'.out (hd.below B_1) md lk'.out (hk.below B_1) mk le'.out (he.below B_1) me hx' x2).mono ?_
 rintro rr w2 ⟨y, rfl, y1, y2, y3, b_2⟩
 have B_2 := btq B_1 b_2
 have q_2 := q_1.below b_2
 have r_2 := r_1.below b_2
 have A_2 := A_1.below b_2
 clear q_1 r_1 A_1 B_1 d0 d1 d2 d3 d4 d5
 by_cases hy0 : y < 0
 ·go_wp2
  go_ret
  exact ⟨rfl, B_2⟩
 have hy' : 0 <= y := by omega
 have hA := y3 hy'
 have E_2 := hA.below b_2
 clear hy0 y1 y2 y3 x1 x2 hx' b_2
 have HH : Hid (∀ (ts : List L2V) (yd : List DV) (yk : List QV) (ye : List GV), ts.length = N -> copiesL2S ss ts -> yd.length = dn -> copiesDS dx yd -> yk.length = kn -> copiesQS kx yk -> ye.length = en -> copiesGS ex ye -> clkB cl N ts gn G sn S u r bn bx dn yd kn yk en ye = clkB cl N ss gn G sn S u r bn bx dn dx kn kx en ex) := fun ts yd yk ye h1 h2 hd cd hk ck hg cg => by exact clkB_copy (by rw [h1, HL.out]) h2 (by rw [hd, hA.ld]) cd hk ck hg hA.lg cg
 obtain ⟨v, hv⟩ : ∃ v, v = (clkB cl N ss gn G sn S u r bn bx dn dx kn kx en ex) := ⟨_, rfl⟩
 have HW : Hid (v = (clkB cl N ss gn G sn S u r bn bx dn dx kn kx en ex)) := hv
 have zb := hA.zb
 have zd := hA.zd
 have zk := hA.zk
 have ze := hA.zg
 obtain ⟨U, R, nb, LB, nd, LD, nk, LK, ne, LG, LE, znb, znd, znk, zne⟩ := Let.mk' u r bn bx dn dx kn kx en ex up v zb zd zk ze
 have HLE : Hid _ := LE
 have HbL : Hid (bx.length = bn) := hA.b.1
 clear hv hb mb hd md ld' hk mk lk' he me le' hA LE
 go_upto_region 8 with fail
 go_cut [8] (fun s wx => ∃ sZ sba scb sda scd sds ska sck sks sea scg sgs, s = .pointer (some ⟨sZ, 0, none⟩) /\ Cel wx sZ [.bool U, .int .i64 R, .slice sba nb scb, .slice sda nd scd, .slice ska nk sck, .slice sea ne scg] 47 /\ CkAt wx sba nb LB sda nd sds ska nk sks sea ne sgs /\ Hid (∀ i, i < nd -> sameD (LD[i]?.getD noD) (sds[i]?.getD noD)) /\ Hid (∀ i, i < nk -> sameQ (LK[i]?.getD noQ) (sks[i]?.getD noQ)) /\ Hid (∀ i, i < ne -> sameG (LG[i]?.getD noG) (sgs[i]?.getD noG)) /\ Below w2.heap.size w2 wx)
 case first =>
  have KP : Hid (∀ W, Below w2.heap.size w2 W -> (W.cell? ⟨w.heap.size, 0, none⟩ = some (.int .i64 cl) /\ W.cell? ⟨w.heap.size, 1, none⟩ = some (.slice ad N cap) /\ W.cell? ⟨w.heap.size, 2, none⟩ = some (.slice ga gn gc) /\ W.cell? ⟨w.heap.size, 3, none⟩ = some (.slice sa sn sc)) /\ (W.cell? ⟨(w.heap.size + 1), 0, none⟩ = some (.bool u) /\ W.cell? ⟨(w.heap.size + 1), 1, none⟩ = some (.int .i64 r) /\ W.cell? ⟨(w.heap.size + 1), 2, none⟩ = some (.slice ba bn bc) /\ W.cell? ⟨(w.heap.size + 1), 3, none⟩ = some (.slice da dn dc) /\ W.cell? ⟨(w.heap.size + 1), 4, none⟩ = some (.slice ka kn kc) /\ W.cell? ⟨(w.heap.size + 1), 5, none⟩ = some (.slice ea en ec))) := fun W hW => ⟨(q_2.below hW).quadP, (r_2.below hW).sixP⟩
  have d0 : Below w2.heap.size w2 w2.drew := (Below.refl _ _).drew
  have hSS := And.intro (KP.out _ d0) True.intro
  refine wp_region_ends (fun w' => (w'.cell? ⟨w.heap.size, 0, none⟩ = some (.int .i64 cl) /\ w'.cell? ⟨w.heap.size, 1, none⟩ = some (.slice ad N cap) /\ w'.cell? ⟨w.heap.size, 2, none⟩ = some (.slice ga gn gc) /\ w'.cell? ⟨w.heap.size, 3, none⟩ = some (.slice sa sn sc)) /\ (w'.cell? ⟨(w.heap.size + 1), 0, none⟩ = some (.bool u) /\ w'.cell? ⟨(w.heap.size + 1), 1, none⟩ = some (.int .i64 r) /\ w'.cell? ⟨(w.heap.size + 1), 2, none⟩ = some (.slice ba bn bc) /\ w'.cell? ⟨(w.heap.size + 1), 3, none⟩ = some (.slice da dn dc) /\ w'.cell? ⟨(w.heap.size + 1), 4, none⟩ = some (.slice ka kn kc) /\ w'.cell? ⟨(w.heap.size + 1), 5, none⟩ = some (.slice ea en ec))) (fun _ => True) 7 (by kernel_rfl) ?_
  obtain ⟨V0, hV0⟩ : ∃ V, V = w2.drew := ⟨_, rfl⟩
  rw [<- hV0] at hSS d0 ⊢
  clear hV0
  refine tkl 0 rfl hSS ?_
  refine tkl 2 rfl hSS ?_
  refine tkl 4 rfl hSS ?_
  clear hSS
  (try simp only [Act.put, List.setIfInBounds_toArray, qB, qA, List.getElem_toArray, List.getElem_cons_succ, List.getElem_cons_zero])
  refine wo2 1 6 rfl rfl (fun K hK => ?_) fun K hK => ?_
  ·skip
   go_simp
   refine (toP_any ss G S (A_2.below d0)).mono ?_
   rintro ee V1 ⟨Y1, Y2, Y3, us, rfl, lu, cu, AV1, my, ky, ly⟩
   have PY : PlAt V1 (some ⟨Y1, 0, none⟩) N us (some ⟨Y2, 0, none⟩) gn G (some ⟨Y3, 0, none⟩) sn S := ⟨my.g, lu, A_2.za, ky.ints' A_2.g.1, A_2.zg, ly.ints' A_2.s.1, A_2.zs⟩
   have LU : Hid _ := lu
   have CU : Hid _ := cu
   clear my ky ly lu cu
   (try dsimp only)
   have dV1 := btq d0 AV1
   have eV1 := d0.size
   have sV1 := AV1.size
   refine kk0 hK (KP.out _ dV1) ?_
   refine wo2 3 6 rfl rfl (fun K hK => ?_) fun K hK => ?_
   ·skip
    go_simp
    refine (toCk_any bx dx kx ex (E_2.below dV1)).mono ?_
    rintro ee V2 ⟨Zb, Zd, yZd, Zk, yZk, Ze, yZe, rfl, lgZd, cpZd, lgZk, cpZk, lgZe, cpZe, AV2, kZb, kZd, kZk, kZe, -⟩
    have LD1 : Hid _ := lgZd
    have CD1 : Hid _ := cpZd
    have LK1 : Hid _ := lgZk
    have CK1 : Hid _ := cpZk
    have LG1 : Hid _ := lgZe
    have CG1 : Hid _ := cpZe
    clear lgZd cpZd lgZk cpZk lgZe cpZe
    (try dsimp only)
    have PY := PY.below AV2
    have dV2 := btq dV1 AV2
    have eV2 := dV1.size
    have sV2 := AV2.size
    refine kk0 hK (KP.out _ dV2) ?_
    refine wo2 5 6 rfl rfl (fun K hK => ?_) fun K hK => ?_
    ·skip
     go_simp
     refine (sclkfall_of scopy9_any us G S bx yZd yZk yZe v PY kZb HbL.out zb kZd LD1.out zd kZk LK1.out zk kZe LG1.out ze ((HH.out us yZd yZk yZe LU.out CU.out LD1.out CD1.out LK1.out CK1.out LG1.out CG1.out).trans HW.out.symm)).mono ?_
     intro ee V3 hSF
     obtain ⟨sba, scb, sda, scd, sds, ska, sck, sks, sea, scg, sgs, rfl, AV3, SA, m1, m2, m3⟩ := hSF.get HLE.out LD1.out CD1.out LK1.out CK1.out LG1.out CG1.out
     have SX : Hid _ := SA
     clear SA
     have M1 : Hid _ := m1
     have M2 : Hid _ := m2
     have M3 : Hid _ := m3
     clear m1 m2 m3
     (try dsimp only)
     have PY := PY.below AV3
     have kZb := kZb.below AV3
     have kZd := kZd.below AV3
     have kZk := kZk.below AV3
     have kZe := kZe.below AV3
     have dV3 := btq dV2 AV3
     have eV3 := dV2.size
     have sV3 := AV3.size
     refine kk0 hK (KP.out _ dV3) ?_
     clear PY kZb kZd kZk kZe
     refine wo1 6 rfl fun K hK => ?_
     go_simp
     obtain ⟨V4, hV4⟩ : ∃ W, W = V3.alloc (.cells #[.bool false, .int .i64 0, .slice none 0 0, .slice none 0 0, .slice none 0 0, .slice none 0 0] 47) := ⟨_, rfl⟩
     have AV4 : Below V3.heap.size V3 V4 := by rw [hV4]; exact bal
     have xb : Cel V4 V3.heap.size [.bool false, .int .i64 0, .slice none 0 0, .slice none 0 0, .slice none 0 0, .slice none 0 0] 47 := by rw [hV4]; exact Cel.new V3 _ _
     have sX := xb.lt
     have dV4 := btq dV3 AV4
     have eV4 := dV3.size
     have sV4 := AV4.size
     rw [<- hV4]
     refine kk0 hK (KP.out _ dV4) ?_
     clear hK K hV4
     have xS := ((((((xb.set 0 (.bool U)).set 1 (.int .i64 R)).set 2 (.slice sba nb scb)).set 3 (.slice sda nd scd)).set 4 (.slice ska nk sck)).set 5 (.slice sea ne scg))
     simp only [qA, qB] at xS
     have T := ((((((Touch.refl (fun z => z = V3.heap.size) V4).setCell (B := V3.heap.size) (i := 0) rfl (.bool U)).setCell (B := V3.heap.size) (i := 1) rfl (.int .i64 R)).setCell (B := V3.heap.size) (i := 2) rfl (.slice sba nb scb)).setCell (B := V3.heap.size) (i := 3) rfl (.slice sda nd scd)).setCell (B := V3.heap.size) (i := 4) rfl (.slice ska nk sck)).setCell (B := V3.heap.size) (i := 5) rfl (.slice sea ne scg)
     obtain ⟨y0, y1, y2, y3, y4, y5⟩ := xb.sixP
     obtain ⟨z0, z1, z2, z3, z4, z5⟩ := xb.frees
     have SB := SX.out _ _ ((Touch.of AV4).trans T) (fun z hz => by have hz : z = V3.heap.size := hz; omega)
     have dS := dV4.trans (T.below (B := w2.heap.size) (by omega) (fun z hz => by have hz : z = V3.heap.size := hz; omega))
     refine wo1 7 rfl fun K hK => ?_
     go_simp
     refine kk0 hK (KP.out _ dS) ?_
     refine wod ?_ _
     clear y0 y1 y2 y3 y4 y5 z0 z1 z2 z3 z4 z5 T xb
     go_wp2_with fail
     go_meet
     case rel => exact ⟨_, sba, scb, sda, scd, sds, ska, sck, sks, sea, scg, sgs, rfl, xS, SB, M1, M2, M3, dS⟩
    ·skip
     go_simp
     obtain ⟨V5, hV5⟩ : ∃ W, W = V2.alloc (.cells #[.bool false, .int .i64 0, .slice none 0 0, .slice none 0 0, .slice none 0 0, .slice none 0 0] 47) := ⟨_, rfl⟩
     have AV5 : Below V2.heap.size V2 V5 := by rw [hV5]; exact bal
     have xb : Cel V5 V2.heap.size [.bool false, .int .i64 0, .slice none 0 0, .slice none 0 0, .slice none 0 0, .slice none 0 0] 47 := by rw [hV5]; exact Cel.new V2 _ _
     have sX := xb.lt
     have PY := PY.below AV5
     have kZb := kZb.below AV5
     have kZd := kZd.below AV5
     have kZk := kZk.below AV5
     have kZe := kZe.below AV5
     have dV5 := btq dV2 AV5
     have eV5 := dV2.size
     have sV5 := AV5.size
     rw [<- hV5]
     refine kk0 hK (KP.out _ dV5) ?_
     clear hK K hV5
     refine wo1 5 rfl fun K hK => ?_
     go_simp
     refine (sclkfall_of scopy9_any us G S bx yZd yZk yZe v PY kZb HbL.out zb kZd LD1.out zd kZk LK1.out zk kZe LG1.out ze ((HH.out us yZd yZk yZe LU.out CU.out LD1.out CD1.out LK1.out CK1.out LG1.out CG1.out).trans HW.out.symm)).mono ?_
     intro ee V6 hSF
     obtain ⟨sba, scb, sda, scd, sds, ska, sck, sks, sea, scg, sgs, rfl, AV6, SA, m1, m2, m3⟩ := hSF.get HLE.out LD1.out CD1.out LK1.out CK1.out LG1.out CG1.out
     have SX : Hid _ := SA
     clear SA
     have M1 : Hid _ := m1
     have M2 : Hid _ := m2
     have M3 : Hid _ := m3
     clear m1 m2 m3
     (try dsimp only)
     have xb := xb.below AV6
     have PY := PY.below AV6
     have kZb := kZb.below AV6
     have kZd := kZd.below AV6
     have kZk := kZk.below AV6
     have kZe := kZe.below AV6
     have dV6 := btq dV5 AV6
     have eV6 := dV5.size
     have sV6 := AV6.size
     refine kk0 hK (KP.out _ dV6) ?_
     clear PY kZb kZd kZk kZe
     have xS := ((((((xb.set 0 (.bool U)).set 1 (.int .i64 R)).set 2 (.slice sba nb scb)).set 3 (.slice sda nd scd)).set 4 (.slice ska nk sck)).set 5 (.slice sea ne scg))
     simp only [qA, qB] at xS
     have T := ((((((Touch.refl (fun z => z = V2.heap.size) V6).setCell (B := V2.heap.size) (i := 0) rfl (.bool U)).setCell (B := V2.heap.size) (i := 1) rfl (.int .i64 R)).setCell (B := V2.heap.size) (i := 2) rfl (.slice sba nb scb)).setCell (B := V2.heap.size) (i := 3) rfl (.slice sda nd scd)).setCell (B := V2.heap.size) (i := 4) rfl (.slice ska nk sck)).setCell (B := V2.heap.size) (i := 5) rfl (.slice sea ne scg)
     obtain ⟨y0, y1, y2, y3, y4, y5⟩ := xb.sixP
     obtain ⟨z0, z1, z2, z3, z4, z5⟩ := xb.frees
     have SB := SX.out _ _ (T) (fun z hz => by have hz : z = V2.heap.size := hz; omega)
     have dS := dV6.trans (T.below (B := w2.heap.size) (by omega) (fun z hz => by have hz : z = V2.heap.size := hz; omega))
     refine wo1 7 rfl fun K hK => ?_
     go_simp
     refine kk0 hK (KP.out _ dS) ?_
     refine wod ?_ _
     clear y0 y1 y2 y3 y4 y5 z0 z1 z2 z3 z4 z5 T xb
     go_wp2_with fail
     go_meet
     case rel => exact ⟨_, sba, scb, sda, scd, sds, ska, sck, sks, sea, scg, sgs, rfl, xS, SB, M1, M2, M3, dS⟩
   ·skip
    go_simp
    obtain ⟨V7, hV7⟩ : ∃ W, W = V1.alloc (.cells #[.bool false, .int .i64 0, .slice none 0 0, .slice none 0 0, .slice none 0 0, .slice none 0 0] 47) := ⟨_, rfl⟩
    have AV7 : Below V1.heap.size V1 V7 := by rw [hV7]; exact bal
    have xb : Cel V7 V1.heap.size [.bool false, .int .i64 0, .slice none 0 0, .slice none 0 0, .slice none 0 0, .slice none 0 0] 47 := by rw [hV7]; exact Cel.new V1 _ _
    have sX := xb.lt
    have PY := PY.below AV7
    have dV7 := btq dV1 AV7
    have eV7 := dV1.size
    have sV7 := AV7.size
    rw [<- hV7]
    refine kk0 hK (KP.out _ dV7) ?_
    clear hK K hV7
    refine wo1 3 rfl fun K hK => ?_
    go_simp
    refine (toCk_any bx dx kx ex (E_2.below dV7)).mono ?_
    rintro ee V8 ⟨Zb, Zd, yZd, Zk, yZk, Ze, yZe, rfl, lgZd, cpZd, lgZk, cpZk, lgZe, cpZe, AV8, kZb, kZd, kZk, kZe, -⟩
    have LD1 : Hid _ := lgZd
    have CD1 : Hid _ := cpZd
    have LK1 : Hid _ := lgZk
    have CK1 : Hid _ := cpZk
    have LG1 : Hid _ := lgZe
    have CG1 : Hid _ := cpZe
    clear lgZd cpZd lgZk cpZk lgZe cpZe
    (try dsimp only)
    have xb := xb.below AV8
    have PY := PY.below AV8
    have dV8 := btq dV7 AV8
    have eV8 := dV7.size
    have sV8 := AV8.size
    refine kk0 hK (KP.out _ dV8) ?_
    refine wo1 5 rfl fun K hK => ?_
    go_simp
    refine (sclkfall_of scopy9_any us G S bx yZd yZk yZe v PY kZb HbL.out zb kZd LD1.out zd kZk LK1.out zk kZe LG1.out ze ((HH.out us yZd yZk yZe LU.out CU.out LD1.out CD1.out LK1.out CK1.out LG1.out CG1.out).trans HW.out.symm)).mono ?_
    intro ee V9 hSF
    obtain ⟨sba, scb, sda, scd, sds, ska, sck, sks, sea, scg, sgs, rfl, AV9, SA, m1, m2, m3⟩ := hSF.get HLE.out LD1.out CD1.out LK1.out CK1.out LG1.out CG1.out
    have SX : Hid _ := SA
    clear SA
    have M1 : Hid _ := m1
    have M2 : Hid _ := m2
    have M3 : Hid _ := m3
    clear m1 m2 m3
    (try dsimp only)
    have xb := xb.below AV9
    have PY := PY.below AV9
    have kZb := kZb.below AV9
    have kZd := kZd.below AV9
    have kZk := kZk.below AV9
    have kZe := kZe.below AV9
    have dV9 := btq dV8 AV9
    have eV9 := dV8.size
    have sV9 := AV9.size
    refine kk0 hK (KP.out _ dV9) ?_
    clear PY kZb kZd kZk kZe
    have xS := ((((((xb.set 0 (.bool U)).set 1 (.int .i64 R)).set 2 (.slice sba nb scb)).set 3 (.slice sda nd scd)).set 4 (.slice ska nk sck)).set 5 (.slice sea ne scg))
    simp only [qA, qB] at xS
    have T := ((((((Touch.refl (fun z => z = V1.heap.size) V9).setCell (B := V1.heap.size) (i := 0) rfl (.bool U)).setCell (B := V1.heap.size) (i := 1) rfl (.int .i64 R)).setCell (B := V1.heap.size) (i := 2) rfl (.slice sba nb scb)).setCell (B := V1.heap.size) (i := 3) rfl (.slice sda nd scd)).setCell (B := V1.heap.size) (i := 4) rfl (.slice ska nk sck)).setCell (B := V1.heap.size) (i := 5) rfl (.slice sea ne scg)
    obtain ⟨y0, y1, y2, y3, y4, y5⟩ := xb.sixP
    obtain ⟨z0, z1, z2, z3, z4, z5⟩ := xb.frees
    have SB := SX.out _ _ (T) (fun z hz => by have hz : z = V1.heap.size := hz; omega)
    have dS := dV9.trans (T.below (B := w2.heap.size) (by omega) (fun z hz => by have hz : z = V1.heap.size := hz; omega))
    refine wo1 7 rfl fun K hK => ?_
    go_simp
    refine kk0 hK (KP.out _ dS) ?_
    refine wod ?_ _
    clear y0 y1 y2 y3 y4 y5 z0 z1 z2 z3 z4 z5 T xb
    go_wp2_with fail
    go_meet
    case rel => exact ⟨_, sba, scb, sda, scd, sds, ska, sck, sks, sea, scg, sgs, rfl, xS, SB, M1, M2, M3, dS⟩
  ·skip
   go_simp
   obtain ⟨V10, hV10⟩ : ∃ W, W = V0.alloc (.cells #[.bool false, .int .i64 0, .slice none 0 0, .slice none 0 0, .slice none 0 0, .slice none 0 0] 47) := ⟨_, rfl⟩
   have AV10 : Below V0.heap.size V0 V10 := by rw [hV10]; exact bal
   have xb : Cel V10 V0.heap.size [.bool false, .int .i64 0, .slice none 0 0, .slice none 0 0, .slice none 0 0, .slice none 0 0] 47 := by rw [hV10]; exact Cel.new V0 _ _
   have sX := xb.lt
   have dV10 := btq d0 AV10
   have eV10 := d0.size
   have sV10 := AV10.size
   rw [<- hV10]
   refine kk0 hK (KP.out _ dV10) ?_
   clear hK K hV10
   refine wo1 1 rfl fun K hK => ?_
   go_simp
   refine (toP_any ss G S (A_2.below dV10)).mono ?_
   rintro ee V11 ⟨Y1, Y2, Y3, us, rfl, lu, cu, AV11, my, ky, ly⟩
   have PY : PlAt V11 (some ⟨Y1, 0, none⟩) N us (some ⟨Y2, 0, none⟩) gn G (some ⟨Y3, 0, none⟩) sn S := ⟨my.g, lu, A_2.za, ky.ints' A_2.g.1, A_2.zg, ly.ints' A_2.s.1, A_2.zs⟩
   have LU : Hid _ := lu
   have CU : Hid _ := cu
   clear my ky ly lu cu
   (try dsimp only)
   have xb := xb.below AV11
   have dV11 := btq dV10 AV11
   have eV11 := dV10.size
   have sV11 := AV11.size
   refine kk0 hK (KP.out _ dV11) ?_
   refine wo1 3 rfl fun K hK => ?_
   go_simp
   refine (toCk_any bx dx kx ex (E_2.below dV11)).mono ?_
   rintro ee V12 ⟨Zb, Zd, yZd, Zk, yZk, Ze, yZe, rfl, lgZd, cpZd, lgZk, cpZk, lgZe, cpZe, AV12, kZb, kZd, kZk, kZe, -⟩
   have LD1 : Hid _ := lgZd
   have CD1 : Hid _ := cpZd
   have LK1 : Hid _ := lgZk
   have CK1 : Hid _ := cpZk
   have LG1 : Hid _ := lgZe
   have CG1 : Hid _ := cpZe
   clear lgZd cpZd lgZk cpZk lgZe cpZe
   (try dsimp only)
   have xb := xb.below AV12
   have PY := PY.below AV12
   have dV12 := btq dV11 AV12
   have eV12 := dV11.size
   have sV12 := AV12.size
   refine kk0 hK (KP.out _ dV12) ?_
   refine wo1 5 rfl fun K hK => ?_
   go_simp
   refine (sclkfall_of scopy9_any us G S bx yZd yZk yZe v PY kZb HbL.out zb kZd LD1.out zd kZk LK1.out zk kZe LG1.out ze ((HH.out us yZd yZk yZe LU.out CU.out LD1.out CD1.out LK1.out CK1.out LG1.out CG1.out).trans HW.out.symm)).mono ?_
   intro ee V13 hSF
   obtain ⟨sba, scb, sda, scd, sds, ska, sck, sks, sea, scg, sgs, rfl, AV13, SA, m1, m2, m3⟩ := hSF.get HLE.out LD1.out CD1.out LK1.out CK1.out LG1.out CG1.out
   have SX : Hid _ := SA
   clear SA
   have M1 : Hid _ := m1
   have M2 : Hid _ := m2
   have M3 : Hid _ := m3
   clear m1 m2 m3
   (try dsimp only)
   have xb := xb.below AV13
   have PY := PY.below AV13
   have kZb := kZb.below AV13
   have kZd := kZd.below AV13
   have kZk := kZk.below AV13
   have kZe := kZe.below AV13
   have dV13 := btq dV12 AV13
   have eV13 := dV12.size
   have sV13 := AV13.size
   refine kk0 hK (KP.out _ dV13) ?_
   clear PY kZb kZd kZk kZe
   have xS := ((((((xb.set 0 (.bool U)).set 1 (.int .i64 R)).set 2 (.slice sba nb scb)).set 3 (.slice sda nd scd)).set 4 (.slice ska nk sck)).set 5 (.slice sea ne scg))
   simp only [qA, qB] at xS
   have T := ((((((Touch.refl (fun z => z = V0.heap.size) V13).setCell (B := V0.heap.size) (i := 0) rfl (.bool U)).setCell (B := V0.heap.size) (i := 1) rfl (.int .i64 R)).setCell (B := V0.heap.size) (i := 2) rfl (.slice sba nb scb)).setCell (B := V0.heap.size) (i := 3) rfl (.slice sda nd scd)).setCell (B := V0.heap.size) (i := 4) rfl (.slice ska nk sck)).setCell (B := V0.heap.size) (i := 5) rfl (.slice sea ne scg)
   obtain ⟨y0, y1, y2, y3, y4, y5⟩ := xb.sixP
   obtain ⟨z0, z1, z2, z3, z4, z5⟩ := xb.frees
   have SB := SX.out _ _ (T) (fun z hz => by have hz : z = V0.heap.size := hz; omega)
   have dS := dV13.trans (T.below (B := w2.heap.size) (by omega) (fun z hz => by have hz : z = V0.heap.size := hz; omega))
   refine wo1 7 rfl fun K hK => ?_
   go_simp
   refine kk0 hK (KP.out _ dS) ?_
   refine wod ?_ _
   clear y0 y1 y2 y3 y4 y5 z0 z1 z2 z3 z4 z5 T xb
   go_wp2_with fail
   go_meet
   case rel => exact ⟨_, sba, scb, sda, scd, sds, ska, sck, sks, sea, scg, sgs, rfl, xS, SB, M1, M2, M3, dS⟩
 case rest =>
  obtain ⟨sZ, sba, scb, sda, scd, sds, ska, sck, sks, sea, scg, sgs, rfl, zb8, SA, M1, M2, M3, b8⟩ := hcut
  obtain ⟨w5, rfl⟩ : ∃ W, W = wc := ⟨wc, rfl⟩
  have B_5 := btq B_2 b8
  have HQ : Hid (Cel w5 w.heap.size [.int .i64 cl, .slice ad N cap, .slice ga gn gc, .slice sa sn sc] 25) := q_2.below b8
  have HR : Hid (Cel w5 (w.heap.size + 1) [.bool u, .int .i64 r, .slice ba bn bc, .slice da dn dc, .slice ka kn kc, .slice ea en ec] 31) := r_2.below b8
  have HA : Hid _ := A_2.below b8
  have HE : Hid _ := E_2.below b8
  have HZ : Hid (Cel w5 sZ [.bool U, .int .i64 R, .slice sba nb scb, .slice sda nd scd, .slice ska nk sck, .slice sea ne scg] 47) := zb8
  have HSA : Hid _ := SA
  have zw5 := B_5.size
  have zN := A_2.za
  have zg := A_2.zg
  have zs := A_2.zs
  have LGs : Hid (G.length = gn) := A_2.g.1
  have LSs : Hid (S.length = sn) := A_2.s.1
  clear b8 B_2 q_2 r_2 A_2 E_2 zb8 SA
  obtain ⟨c0, c1, c2, c3⟩ := HQ.out.quadP
  go_wp2_with fail
  refine (toP_sep _ _ _ _ ss _ _ _ G _ _ _ S _ HA.out).mono ?_
  rintro rr w6 ⟨D1, D2, D3, ts, rfl, lt, cp, b_6, m_6, k_6, l_6, sep1, sep2, sep3, cc, cc0, cc1, cc2⟩
  have HT : Hid (ts.length = N) := lt
  have HC : Hid (copiesL2S ss ts) := cp
  have HLN : Hid _ := m_6.lens lt
  have HCC : Hid _ := cc2
  have P_6 : PlAt w6 (some ⟨D1, 0, none⟩) N ts (some ⟨D2, 0, none⟩) gn G (some ⟨D3, 0, none⟩) sn S := ⟨m_6.g, lt, zN, k_6.ints' LGs.out, zg, l_6.ints' LSs.out, zs⟩
  obtain ⟨W7, hW7⟩ : ∃ W, W = w6.alloc (.cells #[.int .i64 cl, .slice (some ⟨D1, 0, none⟩) N N, .slice (some ⟨D2, 0, none⟩) gn gn, .slice (some ⟨D3, 0, none⟩) sn sn] 41) := ⟨_, rfl⟩
  have a7 : Below w6.heap.size w6 W7 := by rw [hW7]; exact bal
  have xb7 : Cel W7 w6.heap.size [.int .i64 cl, .slice (some ⟨D1, 0, none⟩) N N, .slice (some ⟨D2, 0, none⟩) gn gn, .slice (some ⟨D3, 0, none⟩) sn sn] 41 := by rw [hW7]; exact Cel.new w6 _ _
  have V_7 := btq b_6 a7
  have B_7 := btq B_5 V_7
  have s67 := xb7.lt
  have s56 := b_6.size
  have HX : Hid (Cel W7 w6.heap.size [.int .i64 cl, .slice (some ⟨D1, 0, none⟩) N N, .slice (some ⟨D2, 0, none⟩) gn gn, .slice (some ⟨D3, 0, none⟩) sn sn] 41) := xb7
  have HP : Hid _ := P_6.below a7
  have HM7 : Hid _ := m_6.below a7
  have HK7 : Hid (Blk W7 D2 G) := k_6.below a7
  have HL7 : Hid (Blk W7 D3 S) := l_6.below a7
  obtain ⟨d0, d1, d2, d3, d4, d5⟩ := (HR.out.below V_7).sixP
  rw [hW7] at d0 d1 d2 d3 d4 d5
  clear c0 c1 c2 c3 B_5 b_6 m_6 k_6 l_6 lt cp P_6 cc2 a7 xb7
  go_wp2_with fail
  rw [<- hW7]
  clear hW7 d0 d1 d2 d3 d4 d5
  refine (toCk_any bx dx kx ex (HE.out.below V_7)).mono ?_
  rintro rr w8 ⟨Fb, Fd, yFd, Fk, yFk, Fe, yFe, rfl, lgFd, cpFd, lgFk, cpFk, lgFe, cpFe, b_8, kFb, kFd, kFk, kFe, of1, of2, of3, of4⟩
  have LGFd : Hid _ := lgFd
  have CPFd : Hid _ := cpFd
  have LGFk : Hid _ := lgFk
  have CPFk : Hid _ := cpFk
  have LGFe : Hid _ := lgFe
  have CPFe : Hid _ := cpFe
  have EF : CkAt w8 (some ⟨Fb, 0, none⟩) bn bx (some ⟨Fd, 0, none⟩) dn yFd (some ⟨Fk, 0, none⟩) kn yFk (some ⟨Fe, 0, none⟩) en yFe := ⟨kFb.ints' HbL.out, zb, kFd.g, lgFd, zd, kFk.g, lgFk, zk, kFe.g, lgFe, ze⟩
  obtain ⟨W9, hW9⟩ : ∃ W, W = w8.alloc (.cells #[.bool u, .int .i64 r, .slice (some ⟨Fb, 0, none⟩) bn bn, .slice (some ⟨Fd, 0, none⟩) dn dn, .slice (some ⟨Fk, 0, none⟩) kn kn, .slice (some ⟨Fe, 0, none⟩) en en] 47) := ⟨_, rfl⟩
  have a9 : Below w8.heap.size w8 W9 := by rw [hW9]; exact bal
  have yb9 : Cel W9 w8.heap.size [.bool u, .int .i64 r, .slice (some ⟨Fb, 0, none⟩) bn bn, .slice (some ⟨Fd, 0, none⟩) dn dn, .slice (some ⟨Fk, 0, none⟩) kn kn, .slice (some ⟨Fe, 0, none⟩) en en] 47 := by rw [hW9]; exact Cel.new w8 _ _
  have U_9 := btq b_8 a9
  have B_9 := btq B_7 U_9
  have V_9 := btq V_7 U_9
  have s89 := yb9.lt
  have s78 := b_8.size
  have HY : Hid (Cel W9 w8.heap.size [.bool u, .int .i64 r, .slice (some ⟨Fb, 0, none⟩) bn bn, .slice (some ⟨Fd, 0, none⟩) dn dn, .slice (some ⟨Fk, 0, none⟩) kn kn, .slice (some ⟨Fe, 0, none⟩) en en] 47) := yb9
  have HF : Hid _ := EF.below a9
  have A9 : Hid _ := a9
  have kb8 : Hid (Blk w8 Fb bx) := kFb
  have kd8 : Hid _ := kFd
  have kk8 : Hid _ := kFk
  have ke8 : Hid _ := kFe
  have lFe := kFe.lt
  have HOK : Hid _ := (HH.out ts yFd yFk yFe HT.out HC.out LGFd.out CPFd.out LGFk.out CPFk.out LGFe.out CPFe.out).trans HW.out.symm
  obtain ⟨e0, e1, e2, e3⟩ := (HX.out.below U_9).quadP
  obtain ⟨f0, f1, f2, f3, f4, f5⟩ := HY.out.sixP
  rw [hW9] at e0 e1 e2 e3 f0 f1 f2 f3 f4 f5
  clear B_7 V_7 b_8 EF lgFd cpFd lgFk cpFk lgFe cpFe a9 yb9 kFb kFd kFk kFe
  go_wp2_with fail
  rw [<- hW9]
  clear hW9 e0 e1 e2 e3 f0 f1 f2 f3 f4 f5
  refine (iclkfall_any ts G S bx yFd yFk yFe v (HP.out.below U_9) (kb8.out.below A9.out) HbL.out zb (kd8.out.below A9.out) LGFd.out zd (kk8.out.below A9.out) LGFk.out zk (ke8.out.below A9.out) LGFe.out ze (fun w' h' => HTB.out w' (btq B_9 h')) HOK.out).mono ?_
  intro rr w10 hIF
  obtain ⟨iba, icb, iB, ida, icd, iG1, ids, ib1, ika, ick, iG2, iks, ib2, iea, icg, iG3, igs, ib3, ib4, n1, n2, n3, n4, rfl, b_10, hn4, CL, ll1, sd1, ll2, sk1, ll3, sg1⟩ := hIF.get HLE.out LGFd.out CPFd.out LGFk.out CPFk.out LGFe.out CPFe.out
  have hmk := CL.marks znb znd znk zne
  have HMK : Hid _ := hmk
  have hoo := CL.o
  obtain ⟨FO, hFO⟩ : ∃ F : Int, F = 1 + nb + offD (fun i => ids[i]?.getD noD) nd + offQ (fun i => iks[i]?.getD noQ) nk + offG (fun i => igs[i]?.getD noG) ne := ⟨_, rfl⟩
  have HFO : Hid _ := hFO
  have hFO0 : ¬ FO < 0 := by omega
  have hEqq : (FO != FO) = false := by simp
  have SD : Hid (∀ i, i < nd -> sameD (ids[i]?.getD noD) (sds[i]?.getD noD)) := fun i hi => sameD_trans (sameD_symm (sd1 i hi)) (M1.out i hi)
  have SK : Hid (∀ i, i < nk -> sameQ (iks[i]?.getD noQ) (sks[i]?.getD noQ)) := fun i hi => sameQ_trans (sameQ_symm (sk1 i hi)) (M2.out i hi)
  have SG : Hid (∀ i, i < ne -> sameG (igs[i]?.getD noG) (sgs[i]?.getD noG)) := fun i hi => sameG_trans (sameG_symm (sg1 i hi)) (M3.out i hi)
  have Ll1 : Hid _ := ll1
  have Ll2 : Hid _ := ll2
  have Ll3 : Hid _ := ll3
  obtain ⟨W11, hW11⟩ : ∃ W, W = w10.alloc (.cells #[.bool U, .int .i64 R, .slice iba nb icb, .slice ida nd icd, .slice ika nk ick, .slice iea ne icg] 47) := ⟨_, rfl⟩
  have a11 : Below w10.heap.size w10 W11 := by rw [hW11]; exact bal
  have gb11 : Cel W11 w10.heap.size [.bool U, .int .i64 R, .slice iba nb icb, .slice ida nd icd, .slice ika nk ick, .slice iea ne icg] 47 := by rw [hW11]; exact Cel.new w10 _ _
  have N_11 := btq b_10 a11
  have B_11 := btq B_9 N_11
  have V_11 := btq V_9 N_11
  have U_11 := btq U_9 N_11
  have HG : Hid (Cel W11 w10.heap.size [.bool U, .int .i64 R, .slice iba nb icb, .slice ida nd icd, .slice ika nk ick, .slice iea ne icg] 47) := gb11
  have HCL : Hid _ := CL.below a11
  have s1011 := gb11.lt
  have s910 := b_10.size
  obtain ⟨g0, g1, g2, g3, g4, g5⟩ := HG.out.sixP
  obtain ⟨h0, h1, h2, h3, h4, h5⟩ := (HZ.out.below V_11).sixP
  rw [hW11] at g0 g1 g2 g3 g4 g5 h0 h1 h2 h3 h4 h5
  clear U_9 V_9 B_9 CL a11 b_10 hFO hmk sd1 sk1 sg1 ll1 ll2 ll3 gb11 hIF
  go_wp2_with fail
  rw [<- hW11]
  clear hW11 g0 g1 g2 g3 g4 g5 h0 h1 h2 h3 h4 h5
  refine (eqCk_same LB ids iks igs sds sks sgs (HCL.out.at znb Ll1.out znd Ll2.out znk Ll3.out zne) (HSA.out.below V_11) SD.out SK.out SG.out).mono ?_
  rintro rr w12 ⟨rfl, O_12⟩
  have B_12 := btq B_11 O_12
  have V_12 := btq V_11 O_12
  have U_12 := btq U_11 O_12
  have N_12 := btq N_11 O_12
  clear B_11 V_11 U_11 N_11
  have hn10 := And.intro (HQ.out.below V_12).quadP (HX.out.below U_12).quadP
  go_upto_region 14 with fail
  go_region_held3 (fun w' => (w'.cell? ⟨w.heap.size, 0, none⟩ = some (.int .i64 cl) /\ w'.cell? ⟨w.heap.size, 1, none⟩ = some (.slice ad N cap) /\ w'.cell? ⟨w.heap.size, 2, none⟩ = some (.slice ga gn gc) /\ w'.cell? ⟨w.heap.size, 3, none⟩ = some (.slice sa sn sc)) /\ (w'.cell? ⟨w6.heap.size, 0, none⟩ = some (.int .i64 cl) /\ w'.cell? ⟨w6.heap.size, 1, none⟩ = some (.slice (some ⟨D1, 0, none⟩) N N) /\ w'.cell? ⟨w6.heap.size, 2, none⟩ = some (.slice (some ⟨D2, 0, none⟩) gn gn) /\ w'.cell? ⟨w6.heap.size, 3, none⟩ = some (.slice (some ⟨D3, 0, none⟩) sn sn))) (first | with_reducible assumption | exact hn10)
   (first
    | (go_at_call 29
       refine (toP_any ss G S (by exact (HA.out.below V_12).drewP)).mono ?_
       rintro ee w13 ⟨Y1, Y2, Y3, us, rfl, lu, cu, bd_13, my, ky, ly⟩
       have b_13 := below_of_drew bd_13
       have B_13 := btq B_12 b_13
       have V_13 := btq V_12 b_13
       have U_13 := btq U_12 b_13
       have N_13 := btq N_12 b_13
       have O_13 := btq O_12 b_13
       have PY : PlAt w13 (some ⟨Y1, 0, none⟩) N us (some ⟨Y2, 0, none⟩) gn G (some ⟨Y3, 0, none⟩) sn S := ⟨my.g, lu, zN, ky.ints' LGs.out, zg, ly.ints' LSs.out, zs⟩
       have HU : Hid _ := copies_sameP HT.out lu HC.out cu HLN.out
       have hn11 := And.intro (HQ.out.below V_13).quadP (HX.out.below U_13).quadP)
    | (go_at_call 33
       refine (eqP_same ts G S us (by exact HP.out.below U_13) (by exact PY) (by exact HU.out)).mono ?_
       rintro ee w14 ⟨rfl, b_14⟩
       have B_14 := btq B_13 b_14
       have V_14 := btq V_13 b_14
       have U_14 := btq U_13 b_14
       have N_14 := btq N_13 b_14
       have O_14 := btq O_13 b_14
       have hn12 := And.intro (HQ.out.below V_14).quadP (HX.out.below U_14).quadP))
  clear hn10 hn11 hn12 b_13 bd_13 PY my ky ly HU lu cu us b_14 B_12 V_12 U_12 N_12 O_12 B_13 V_13 U_13 N_13 O_13
  have hm12 := And.intro (HR.out.below V_14).sixP (HY.out.below N_14).sixP
  go_upto_region 16 with fail
  go_region_held3 (fun w' => (w'.cell? ⟨(w.heap.size + 1), 0, none⟩ = some (.bool u) /\ w'.cell? ⟨(w.heap.size + 1), 1, none⟩ = some (.int .i64 r) /\ w'.cell? ⟨(w.heap.size + 1), 2, none⟩ = some (.slice ba bn bc) /\ w'.cell? ⟨(w.heap.size + 1), 3, none⟩ = some (.slice da dn dc) /\ w'.cell? ⟨(w.heap.size + 1), 4, none⟩ = some (.slice ka kn kc) /\ w'.cell? ⟨(w.heap.size + 1), 5, none⟩ = some (.slice ea en ec)) /\ (w'.cell? ⟨w8.heap.size, 0, none⟩ = some (.bool u) /\ w'.cell? ⟨w8.heap.size, 1, none⟩ = some (.int .i64 r) /\ w'.cell? ⟨w8.heap.size, 2, none⟩ = some (.slice (some ⟨Fb, 0, none⟩) bn bn) /\ w'.cell? ⟨w8.heap.size, 3, none⟩ = some (.slice (some ⟨Fd, 0, none⟩) dn dn) /\ w'.cell? ⟨w8.heap.size, 4, none⟩ = some (.slice (some ⟨Fk, 0, none⟩) kn kn) /\ w'.cell? ⟨w8.heap.size, 5, none⟩ = some (.slice (some ⟨Fe, 0, none⟩) en en))) (first | with_reducible assumption | exact hm12)
   (first
    | (go_at_call 30
       refine (toCk_any bx dx kx ex (by exact (HE.out.below V_14).drewS)).mono ?_
       rintro ee w15 ⟨Ub, Ud, yUd, Uk, yUk, Ue, yUe, rfl, lgUd, cpUd, lgUk, cpUk, lgUe, cpUe, bd_15, kUb, kUd, kUk, kUe, -⟩
       have b_15 := below_of_drew bd_15
       have B_15 := btq B_14 b_15
       have V_15 := btq V_14 b_15
       have U_15 := btq U_14 b_15
       have N_15 := btq N_14 b_15
       have O_15 := btq O_14 b_15
       have EU : CkAt w15 (some ⟨Ub, 0, none⟩) bn bx (some ⟨Ud, 0, none⟩) dn yUd (some ⟨Uk, 0, none⟩) kn yUk (some ⟨Ue, 0, none⟩) en yUe := ⟨kUb.ints' HbL.out, zb, kUd.g, lgUd, zd, kUk.g, lgUk, zk, kUe.g, lgUe, ze⟩
       have SMd : Hid _ := same_copyD LGFd.out lgUd CPFd.out cpUd
       have SMk : Hid _ := same_copyQ LGFk.out lgUk CPFk.out cpUk
       have SMe : Hid _ := same_copyG LGFe.out lgUe CPFe.out cpUe
       have hm13 := And.intro (HR.out.below V_15).sixP (HY.out.below N_15).sixP)
    | (go_at_call 32
       refine (eqCk_same bx yFd yFk yFe yUd yUk yUe (by exact HF.out.below N_15) (by exact EU) (by exact SMd.out) (by exact SMk.out) (by exact SMe.out)).mono ?_
       rintro ee w16 ⟨rfl, b_16⟩
       have B_16 := btq B_15 b_16
       have V_16 := btq V_15 b_16
       have U_16 := btq U_15 b_16
       have N_16 := btq N_15 b_16
       have O_16 := btq O_15 b_16
       have hm14 := And.intro (HR.out.below V_16).sixP (HY.out.below N_16).sixP))
  clear hm12 hm13 hm14 b_15 bd_15 EU b_16 SMd SMk SMe kUb kUd kUk kUe lgUd cpUd lgUk cpUk lgUe cpUe B_14 V_14 U_14 N_14 O_14 B_15 V_15 U_15 N_15 O_15
  obtain ⟨e0, e1, e2, e3⟩ := (HX.out.below U_16).quadP
  go_wp2_with fail
  refine (markPb_any ts G S cc (HM7.out.below U_16) HT.out zN cc0 cc1 HCC.out (HK7.out.below U_16) LGs.out zg (HL7.out.below U_16) LSs.out zs sep2).mono ?_
  rintro rr w17 ⟨k1, rfl, k10, k11, t17⟩
  clear e0 e1 e2 e3
  have lU := U_16.size
  have lN := N_16.size
  have lO := O_16.size
  have B_17 := B_16.trans (t17.below B_16.size (fun z hz => by have := hz.1; omega))
  have V_17 := V_16.trans (t17.below V_16.size (fun z hz => by have := hz.1; omega))
  have yb17 := (HY.out.below N_16).touch t17 (fun hz => by have := hz.2; omega)
  have gb17 := (HG.out.below O_16).touch t17 (fun hz => by have := hz.2; omega)
  have CL17 := (HCL.out.below O_16).touch t17 (fun z hz => by have := hz.2; omega)
  have N8 : Touch (fun x => D1 < x /\ x <= D3) w8 w17 := (Touch.of (btq A9.out N_16)).trans t17
  obtain ⟨v8, sv8, tv8, bv8⟩ := N8.cut
  have kb' := kb8.out.touch tv8 (fun hz => by have := hz.2; omega)
  have kd' := kd8.out.touch tv8 (fun z hz => by have := hz.2; omega)
  have kk' := kk8.out.touch tv8 (fun z hz => by have := hz.2; omega)
  have ke' := ke8.out.touch tv8 (fun z hz => by have := hz.2; omega)
  have l17 := t17.size
  clear B_16 V_16 U_16 N_16 O_16 t17 N8 tv8
  obtain ⟨f0, f1, f2, f3, f4, f5⟩ := yb17.sixP
  go_wp2_with fail
  refine (markCkM_any bx yFd yFk yFe v8 bv8 kb' HbL.out zb kd' LGFd.out zd kk' LGFk.out zk ke' LGFe.out ze of2 of3 of4 k10 k11).mono ?_
  rintro rr w18 ⟨k2, rfl, k20, t18⟩
  clear f0 f1 f2 f3 f4 f5 kb' kd' kk' ke' bv8 yb17
  have hk2 : ¬ k2 < 0 := by omega
  have B_18 := B_17.trans (t18.below B_17.size (fun z hz => by have := hz.1; omega))
  have V_18 := V_17.trans (t18.below V_17.size (fun z hz => by have := hz.1; omega))
  have gb18 := gb17.touch t18 (fun hz => by have := hz.2; omega)
  have CL18 := CL17.touch t18 (fun z hz => by have := hz.2; omega)
  have l18 := t18.size
  clear B_17 V_17 gb17 CL17 t18
  obtain ⟨g0, g1, g2, g3, g4, g5⟩ := gb18.sixP
  obtain ⟨h0, h1, h2, h3, h4, h5⟩ := (HZ.out.below V_18).sixP
  go_wp2_with fail
  refine (eqCk_same LB ids iks igs sds sks sgs (CL18.at znb Ll1.out znd Ll2.out znk Ll3.out zne) (HSA.out.below V_18) SD.out SK.out SG.out).mono ?_
  rintro rr w19 ⟨rfl, b_19⟩
  clear g0 g1 g2 g3 g4 g5 h0 h1 h2 h3 h4 h5
  have B_19 := btq B_18 b_19
  have V_19 := btq V_18 b_19
  have gb19 := gb18.below b_19
  have CL19 := CL18.below b_19
  have l19 := b_19.size
  clear B_18 V_18 gb18 CL18 b_19
  obtain ⟨g0, g1, g2, g3, g4, g5⟩ := gb19.sixP
  go_wp2_with fail
  refine (markCkL_any LB (fun i => ids[i]?.getD noD) ib1 (fun i => iks[i]?.getD noQ) ib2 (fun i => igs[i]?.getD noG) ib3 ib4 n1 n2 n3 n4 CL19 (by omega) znb znd znk zne HMK.out).mono ?_
  rintro rr w20 ⟨rfl, t20, CL20⟩
  rw [<- HFO.out]
  clear g0 g1 g2 g3 g4 g5
  have B_20 := B_19.trans (t20.below B_19.size (fun z hz => by have := hz.1; omega))
  have V_20 := V_19.trans (t20.below V_19.size (fun z hz => by have := hz.1; omega))
  have gb20 := gb19.touch t20 (fun hz => by have := hz.2; omega)
  have l20 := t20.size
  clear B_19 V_19 gb19 CL19 t20
  obtain ⟨g0, g1, g2, g3, g4, g5⟩ := gb20.sixP
  go_wp2_with fail
  refine (heldCkL_any (fun i => ids[i]?.getD noD) ib1 (fun i => iks[i]?.getD noQ) ib2 (fun i => igs[i]?.getD noG) ib3 ib4 n1 n2 n3 n4 CL20 znb znd znk zne HMK.out).mono ?_
  rintro rr w21 ⟨rfl, b_21⟩
  rw [<- HFO.out]
  clear g0 g1 g2 g3 g4 g5
  have B_21 := btq B_20 b_21
  have V_21 := btq V_20 b_21
  have gb21 := gb20.below b_21
  have CL21 := CL20.below b_21
  have q_21 := HQ.out.below V_21
  have r_21 := HR.out.below V_21
  have A_21 := HA.out.below V_21
  have E_21 := HE.out.below V_21
  have HG21 : Hid (Cel w21 w10.heap.size [.bool U, .int .i64 R, .slice iba nb icb, .slice ida nd icd, .slice ika nk ick, .slice iea ne icg] 47) := gb21
  have HC21 : Hid _ := CL21
  clear B_20 V_20 gb20 CL20 b_21 gb21 CL21
  go_upto_region 31 with fail
  go_cut [15] (fun s wx => ∃ tZ tba tcb tda tcd tds tka tck tks tea tcg tgs, s = .pointer (some ⟨tZ, 0, none⟩) /\ Cel wx tZ [.bool U, .int .i64 R, .slice tba nb tcb, .slice tda nd tcd, .slice tka nk tck, .slice tea ne tcg] 47 /\ CkAt wx tba nb LB tda nd tds tka nk tks tea ne tgs /\ Hid (∀ i, i < nd -> sameD (LD[i]?.getD noD) (tds[i]?.getD noD)) /\ Hid (∀ i, i < nk -> sameQ (LK[i]?.getD noQ) (tks[i]?.getD noQ)) /\ Hid (∀ i, i < ne -> sameG (LG[i]?.getD noG) (tgs[i]?.getD noG)) /\ Below w21.heap.size w21 wx)
  case first =>
   have KP : Hid (∀ W, Below w21.heap.size w21 W -> (W.cell? ⟨w.heap.size, 0, none⟩ = some (.int .i64 cl) /\ W.cell? ⟨w.heap.size, 1, none⟩ = some (.slice ad N cap) /\ W.cell? ⟨w.heap.size, 2, none⟩ = some (.slice ga gn gc) /\ W.cell? ⟨w.heap.size, 3, none⟩ = some (.slice sa sn sc)) /\ (W.cell? ⟨(w.heap.size + 1), 0, none⟩ = some (.bool u) /\ W.cell? ⟨(w.heap.size + 1), 1, none⟩ = some (.int .i64 r) /\ W.cell? ⟨(w.heap.size + 1), 2, none⟩ = some (.slice ba bn bc) /\ W.cell? ⟨(w.heap.size + 1), 3, none⟩ = some (.slice da dn dc) /\ W.cell? ⟨(w.heap.size + 1), 4, none⟩ = some (.slice ka kn kc) /\ W.cell? ⟨(w.heap.size + 1), 5, none⟩ = some (.slice ea en ec))) := fun W hW => ⟨(q_21.below hW).quadP, (r_21.below hW).sixP⟩
   have d0 : Below w21.heap.size w21 w21.drew := (Below.refl _ _).drew
   have hSS := And.intro (KP.out _ d0) True.intro
   refine wp_region_ends (fun w' => (w'.cell? ⟨w.heap.size, 0, none⟩ = some (.int .i64 cl) /\ w'.cell? ⟨w.heap.size, 1, none⟩ = some (.slice ad N cap) /\ w'.cell? ⟨w.heap.size, 2, none⟩ = some (.slice ga gn gc) /\ w'.cell? ⟨w.heap.size, 3, none⟩ = some (.slice sa sn sc)) /\ (w'.cell? ⟨(w.heap.size + 1), 0, none⟩ = some (.bool u) /\ w'.cell? ⟨(w.heap.size + 1), 1, none⟩ = some (.int .i64 r) /\ w'.cell? ⟨(w.heap.size + 1), 2, none⟩ = some (.slice ba bn bc) /\ w'.cell? ⟨(w.heap.size + 1), 3, none⟩ = some (.slice da dn dc) /\ w'.cell? ⟨(w.heap.size + 1), 4, none⟩ = some (.slice ka kn kc) /\ w'.cell? ⟨(w.heap.size + 1), 5, none⟩ = some (.slice ea en ec))) (fun _ => True) 7 (by kernel_rfl) ?_
   obtain ⟨V0, hV0⟩ : ∃ V, V = w21.drew := ⟨_, rfl⟩
   rw [<- hV0] at hSS d0 ⊢
   clear hV0
   refine tkl 0 rfl hSS ?_
   refine tkl 2 rfl hSS ?_
   refine tkl 4 rfl hSS ?_
   clear hSS
   (try simp only [Act.put, List.setIfInBounds_toArray, qB, qA, List.getElem_toArray, List.getElem_cons_succ, List.getElem_cons_zero])
   refine wo2 1 6 rfl rfl (fun K hK => ?_) fun K hK => ?_
   ·skip
    go_simp
    refine (toP_any ss G S (A_21.below d0)).mono ?_
    rintro ee V1 ⟨Y1, Y2, Y3, us, rfl, lu, cu, AV1, my, ky, ly⟩
    have PY : PlAt V1 (some ⟨Y1, 0, none⟩) N us (some ⟨Y2, 0, none⟩) gn G (some ⟨Y3, 0, none⟩) sn S := ⟨my.g, lu, A_21.za, ky.ints' A_21.g.1, A_21.zg, ly.ints' A_21.s.1, A_21.zs⟩
    have LU : Hid _ := lu
    have CU : Hid _ := cu
    clear my ky ly lu cu
    (try dsimp only)
    have dV1 := btq d0 AV1
    have eV1 := d0.size
    have sV1 := AV1.size
    refine kk0 hK (KP.out _ dV1) ?_
    refine wo2 3 6 rfl rfl (fun K hK => ?_) fun K hK => ?_
    ·skip
     go_simp
     refine (toCk_any bx dx kx ex (E_21.below dV1)).mono ?_
     rintro ee V2 ⟨Zb, Zd, yZd, Zk, yZk, Ze, yZe, rfl, lgZd, cpZd, lgZk, cpZk, lgZe, cpZe, AV2, kZb, kZd, kZk, kZe, -⟩
     have LD1 : Hid _ := lgZd
     have CD1 : Hid _ := cpZd
     have LK1 : Hid _ := lgZk
     have CK1 : Hid _ := cpZk
     have LG1 : Hid _ := lgZe
     have CG1 : Hid _ := cpZe
     clear lgZd cpZd lgZk cpZk lgZe cpZe
     (try dsimp only)
     have PY := PY.below AV2
     have dV2 := btq dV1 AV2
     have eV2 := dV1.size
     have sV2 := AV2.size
     refine kk0 hK (KP.out _ dV2) ?_
     refine wo2 5 6 rfl rfl (fun K hK => ?_) fun K hK => ?_
     ·skip
      go_simp
      refine (iclkfall_any us G S bx yZd yZk yZe v PY kZb HbL.out zb kZd LD1.out zd kZk LK1.out zk kZe LG1.out ze (fun w' h' => HTB.out w' (B_21.trans ((dV2.mono B_21.size).trans (h'.mono (btq B_21 dV2).size)))) ((HH.out us yZd yZk yZe LU.out CU.out LD1.out CD1.out LK1.out CK1.out LG1.out CG1.out).trans HW.out.symm)).mono ?_
      intro ee V3 hSF
      obtain ⟨sba, scb, sB, sda, scd, sG1, sds, sb1, ska, sck, sG2, sks, sb2, sea, scg, sG3, sgs, sb3, sb4, sn1, sn2, sn3, sn4, rfl, AV3, sh4, SL, ll1, m1, ll2, m2, ll3, m3⟩ := hSF.get HLE.out LD1.out CD1.out LK1.out CK1.out LG1.out CG1.out
      have SX : Hid (∀ (S : Nat -> Prop) (W : World), Touch S V3 W -> (∀ x, S x -> x < V2.heap.size \/ V3.heap.size <= x) -> CkAt W sba nb LB sda nd sds ska nk sks sea ne sgs) := fun S W hT hS => (SL.touch hT (fun x hx => (hS x hx).imp id (fun h => by omega))).at znb ll1 znd ll2 znk ll3 zne
      have M1 : Hid _ := m1
      have M2 : Hid _ := m2
      have M3 : Hid _ := m3
      clear m1 m2 m3
      (try dsimp only)
      have PY := PY.below AV3
      have kZb := kZb.below AV3
      have kZd := kZd.below AV3
      have kZk := kZk.below AV3
      have kZe := kZe.below AV3
      have dV3 := btq dV2 AV3
      have eV3 := dV2.size
      have sV3 := AV3.size
      refine kk0 hK (KP.out _ dV3) ?_
      clear PY kZb kZd kZk kZe
      refine wo1 6 rfl fun K hK => ?_
      go_simp
      obtain ⟨V4, hV4⟩ : ∃ W, W = V3.alloc (.cells #[.bool false, .int .i64 0, .slice none 0 0, .slice none 0 0, .slice none 0 0, .slice none 0 0] 47) := ⟨_, rfl⟩
      have AV4 : Below V3.heap.size V3 V4 := by rw [hV4]; exact bal
      have xb : Cel V4 V3.heap.size [.bool false, .int .i64 0, .slice none 0 0, .slice none 0 0, .slice none 0 0, .slice none 0 0] 47 := by rw [hV4]; exact Cel.new V3 _ _
      have sX := xb.lt
      have dV4 := btq dV3 AV4
      have eV4 := dV3.size
      have sV4 := AV4.size
      rw [<- hV4]
      refine kk0 hK (KP.out _ dV4) ?_
      clear hK K hV4
      have xS := ((((((xb.set 0 (.bool U)).set 1 (.int .i64 R)).set 2 (.slice sba nb scb)).set 3 (.slice sda nd scd)).set 4 (.slice ska nk sck)).set 5 (.slice sea ne scg))
      simp only [qA, qB] at xS
      have T := ((((((Touch.refl (fun z => z = V3.heap.size) V4).setCell (B := V3.heap.size) (i := 0) rfl (.bool U)).setCell (B := V3.heap.size) (i := 1) rfl (.int .i64 R)).setCell (B := V3.heap.size) (i := 2) rfl (.slice sba nb scb)).setCell (B := V3.heap.size) (i := 3) rfl (.slice sda nd scd)).setCell (B := V3.heap.size) (i := 4) rfl (.slice ska nk sck)).setCell (B := V3.heap.size) (i := 5) rfl (.slice sea ne scg)
      obtain ⟨y0, y1, y2, y3, y4, y5⟩ := xb.sixP
      obtain ⟨z0, z1, z2, z3, z4, z5⟩ := xb.frees
      have SB := SX.out _ _ ((Touch.of AV4).trans T) (fun z hz => by have hz : z = V3.heap.size := hz; omega)
      have dS := dV4.trans (T.below (B := w21.heap.size) (by omega) (fun z hz => by have hz : z = V3.heap.size := hz; omega))
      refine wo1 7 rfl fun K hK => ?_
      go_simp
      refine kk0 hK (KP.out _ dS) ?_
      refine wod ?_ _
      clear y0 y1 y2 y3 y4 y5 z0 z1 z2 z3 z4 z5 T xb
      go_wp2_with fail
      go_meet
      case rel => exact ⟨_, sba, scb, sda, scd, sds, ska, sck, sks, sea, scg, sgs, rfl, xS, SB, M1, M2, M3, dS⟩
     ·skip
      go_simp
      obtain ⟨V5, hV5⟩ : ∃ W, W = V2.alloc (.cells #[.bool false, .int .i64 0, .slice none 0 0, .slice none 0 0, .slice none 0 0, .slice none 0 0] 47) := ⟨_, rfl⟩
      have AV5 : Below V2.heap.size V2 V5 := by rw [hV5]; exact bal
      have xb : Cel V5 V2.heap.size [.bool false, .int .i64 0, .slice none 0 0, .slice none 0 0, .slice none 0 0, .slice none 0 0] 47 := by rw [hV5]; exact Cel.new V2 _ _
      have sX := xb.lt
      have PY := PY.below AV5
      have kZb := kZb.below AV5
      have kZd := kZd.below AV5
      have kZk := kZk.below AV5
      have kZe := kZe.below AV5
      have dV5 := btq dV2 AV5
      have eV5 := dV2.size
      have sV5 := AV5.size
      rw [<- hV5]
      refine kk0 hK (KP.out _ dV5) ?_
      clear hK K hV5
      refine wo1 5 rfl fun K hK => ?_
      go_simp
      refine (iclkfall_any us G S bx yZd yZk yZe v PY kZb HbL.out zb kZd LD1.out zd kZk LK1.out zk kZe LG1.out ze (fun w' h' => HTB.out w' (B_21.trans ((dV5.mono B_21.size).trans (h'.mono (btq B_21 dV5).size)))) ((HH.out us yZd yZk yZe LU.out CU.out LD1.out CD1.out LK1.out CK1.out LG1.out CG1.out).trans HW.out.symm)).mono ?_
      intro ee V6 hSF
      obtain ⟨sba, scb, sB, sda, scd, sG1, sds, sb1, ska, sck, sG2, sks, sb2, sea, scg, sG3, sgs, sb3, sb4, sn1, sn2, sn3, sn4, rfl, AV6, sh4, SL, ll1, m1, ll2, m2, ll3, m3⟩ := hSF.get HLE.out LD1.out CD1.out LK1.out CK1.out LG1.out CG1.out
      have SX : Hid (∀ (S : Nat -> Prop) (W : World), Touch S V6 W -> (∀ x, S x -> x < V5.heap.size \/ V6.heap.size <= x) -> CkAt W sba nb LB sda nd sds ska nk sks sea ne sgs) := fun S W hT hS => (SL.touch hT (fun x hx => (hS x hx).imp id (fun h => by omega))).at znb ll1 znd ll2 znk ll3 zne
      have M1 : Hid _ := m1
      have M2 : Hid _ := m2
      have M3 : Hid _ := m3
      clear m1 m2 m3
      (try dsimp only)
      have xb := xb.below AV6
      have PY := PY.below AV6
      have kZb := kZb.below AV6
      have kZd := kZd.below AV6
      have kZk := kZk.below AV6
      have kZe := kZe.below AV6
      have dV6 := btq dV5 AV6
      have eV6 := dV5.size
      have sV6 := AV6.size
      refine kk0 hK (KP.out _ dV6) ?_
      clear PY kZb kZd kZk kZe
      have xS := ((((((xb.set 0 (.bool U)).set 1 (.int .i64 R)).set 2 (.slice sba nb scb)).set 3 (.slice sda nd scd)).set 4 (.slice ska nk sck)).set 5 (.slice sea ne scg))
      simp only [qA, qB] at xS
      have T := ((((((Touch.refl (fun z => z = V2.heap.size) V6).setCell (B := V2.heap.size) (i := 0) rfl (.bool U)).setCell (B := V2.heap.size) (i := 1) rfl (.int .i64 R)).setCell (B := V2.heap.size) (i := 2) rfl (.slice sba nb scb)).setCell (B := V2.heap.size) (i := 3) rfl (.slice sda nd scd)).setCell (B := V2.heap.size) (i := 4) rfl (.slice ska nk sck)).setCell (B := V2.heap.size) (i := 5) rfl (.slice sea ne scg)
      obtain ⟨y0, y1, y2, y3, y4, y5⟩ := xb.sixP
      obtain ⟨z0, z1, z2, z3, z4, z5⟩ := xb.frees
      have SB := SX.out _ _ (T) (fun z hz => by have hz : z = V2.heap.size := hz; omega)
      have dS := dV6.trans (T.below (B := w21.heap.size) (by omega) (fun z hz => by have hz : z = V2.heap.size := hz; omega))
      refine wo1 7 rfl fun K hK => ?_
      go_simp
      refine kk0 hK (KP.out _ dS) ?_
      refine wod ?_ _
      clear y0 y1 y2 y3 y4 y5 z0 z1 z2 z3 z4 z5 T xb
      go_wp2_with fail
      go_meet
      case rel => exact ⟨_, sba, scb, sda, scd, sds, ska, sck, sks, sea, scg, sgs, rfl, xS, SB, M1, M2, M3, dS⟩
    ·skip
     go_simp
     obtain ⟨V7, hV7⟩ : ∃ W, W = V1.alloc (.cells #[.bool false, .int .i64 0, .slice none 0 0, .slice none 0 0, .slice none 0 0, .slice none 0 0] 47) := ⟨_, rfl⟩
     have AV7 : Below V1.heap.size V1 V7 := by rw [hV7]; exact bal
     have xb : Cel V7 V1.heap.size [.bool false, .int .i64 0, .slice none 0 0, .slice none 0 0, .slice none 0 0, .slice none 0 0] 47 := by rw [hV7]; exact Cel.new V1 _ _
     have sX := xb.lt
     have PY := PY.below AV7
     have dV7 := btq dV1 AV7
     have eV7 := dV1.size
     have sV7 := AV7.size
     rw [<- hV7]
     refine kk0 hK (KP.out _ dV7) ?_
     clear hK K hV7
     refine wo1 3 rfl fun K hK => ?_
     go_simp
     refine (toCk_any bx dx kx ex (E_21.below dV7)).mono ?_
     rintro ee V8 ⟨Zb, Zd, yZd, Zk, yZk, Ze, yZe, rfl, lgZd, cpZd, lgZk, cpZk, lgZe, cpZe, AV8, kZb, kZd, kZk, kZe, -⟩
     have LD1 : Hid _ := lgZd
     have CD1 : Hid _ := cpZd
     have LK1 : Hid _ := lgZk
     have CK1 : Hid _ := cpZk
     have LG1 : Hid _ := lgZe
     have CG1 : Hid _ := cpZe
     clear lgZd cpZd lgZk cpZk lgZe cpZe
     (try dsimp only)
     have xb := xb.below AV8
     have PY := PY.below AV8
     have dV8 := btq dV7 AV8
     have eV8 := dV7.size
     have sV8 := AV8.size
     refine kk0 hK (KP.out _ dV8) ?_
     refine wo1 5 rfl fun K hK => ?_
     go_simp
     refine (iclkfall_any us G S bx yZd yZk yZe v PY kZb HbL.out zb kZd LD1.out zd kZk LK1.out zk kZe LG1.out ze (fun w' h' => HTB.out w' (B_21.trans ((dV8.mono B_21.size).trans (h'.mono (btq B_21 dV8).size)))) ((HH.out us yZd yZk yZe LU.out CU.out LD1.out CD1.out LK1.out CK1.out LG1.out CG1.out).trans HW.out.symm)).mono ?_
     intro ee V9 hSF
     obtain ⟨sba, scb, sB, sda, scd, sG1, sds, sb1, ska, sck, sG2, sks, sb2, sea, scg, sG3, sgs, sb3, sb4, sn1, sn2, sn3, sn4, rfl, AV9, sh4, SL, ll1, m1, ll2, m2, ll3, m3⟩ := hSF.get HLE.out LD1.out CD1.out LK1.out CK1.out LG1.out CG1.out
     have SX : Hid (∀ (S : Nat -> Prop) (W : World), Touch S V9 W -> (∀ x, S x -> x < V8.heap.size \/ V9.heap.size <= x) -> CkAt W sba nb LB sda nd sds ska nk sks sea ne sgs) := fun S W hT hS => (SL.touch hT (fun x hx => (hS x hx).imp id (fun h => by omega))).at znb ll1 znd ll2 znk ll3 zne
     have M1 : Hid _ := m1
     have M2 : Hid _ := m2
     have M3 : Hid _ := m3
     clear m1 m2 m3
     (try dsimp only)
     have xb := xb.below AV9
     have PY := PY.below AV9
     have kZb := kZb.below AV9
     have kZd := kZd.below AV9
     have kZk := kZk.below AV9
     have kZe := kZe.below AV9
     have dV9 := btq dV8 AV9
     have eV9 := dV8.size
     have sV9 := AV9.size
     refine kk0 hK (KP.out _ dV9) ?_
     clear PY kZb kZd kZk kZe
     have xS := ((((((xb.set 0 (.bool U)).set 1 (.int .i64 R)).set 2 (.slice sba nb scb)).set 3 (.slice sda nd scd)).set 4 (.slice ska nk sck)).set 5 (.slice sea ne scg))
     simp only [qA, qB] at xS
     have T := ((((((Touch.refl (fun z => z = V1.heap.size) V9).setCell (B := V1.heap.size) (i := 0) rfl (.bool U)).setCell (B := V1.heap.size) (i := 1) rfl (.int .i64 R)).setCell (B := V1.heap.size) (i := 2) rfl (.slice sba nb scb)).setCell (B := V1.heap.size) (i := 3) rfl (.slice sda nd scd)).setCell (B := V1.heap.size) (i := 4) rfl (.slice ska nk sck)).setCell (B := V1.heap.size) (i := 5) rfl (.slice sea ne scg)
     obtain ⟨y0, y1, y2, y3, y4, y5⟩ := xb.sixP
     obtain ⟨z0, z1, z2, z3, z4, z5⟩ := xb.frees
     have SB := SX.out _ _ (T) (fun z hz => by have hz : z = V1.heap.size := hz; omega)
     have dS := dV9.trans (T.below (B := w21.heap.size) (by omega) (fun z hz => by have hz : z = V1.heap.size := hz; omega))
     refine wo1 7 rfl fun K hK => ?_
     go_simp
     refine kk0 hK (KP.out _ dS) ?_
     refine wod ?_ _
     clear y0 y1 y2 y3 y4 y5 z0 z1 z2 z3 z4 z5 T xb
     go_wp2_with fail
     go_meet
     case rel => exact ⟨_, sba, scb, sda, scd, sds, ska, sck, sks, sea, scg, sgs, rfl, xS, SB, M1, M2, M3, dS⟩
   ·skip
    go_simp
    obtain ⟨V10, hV10⟩ : ∃ W, W = V0.alloc (.cells #[.bool false, .int .i64 0, .slice none 0 0, .slice none 0 0, .slice none 0 0, .slice none 0 0] 47) := ⟨_, rfl⟩
    have AV10 : Below V0.heap.size V0 V10 := by rw [hV10]; exact bal
    have xb : Cel V10 V0.heap.size [.bool false, .int .i64 0, .slice none 0 0, .slice none 0 0, .slice none 0 0, .slice none 0 0] 47 := by rw [hV10]; exact Cel.new V0 _ _
    have sX := xb.lt
    have dV10 := btq d0 AV10
    have eV10 := d0.size
    have sV10 := AV10.size
    rw [<- hV10]
    refine kk0 hK (KP.out _ dV10) ?_
    clear hK K hV10
    refine wo1 1 rfl fun K hK => ?_
    go_simp
    refine (toP_any ss G S (A_21.below dV10)).mono ?_
    rintro ee V11 ⟨Y1, Y2, Y3, us, rfl, lu, cu, AV11, my, ky, ly⟩
    have PY : PlAt V11 (some ⟨Y1, 0, none⟩) N us (some ⟨Y2, 0, none⟩) gn G (some ⟨Y3, 0, none⟩) sn S := ⟨my.g, lu, A_21.za, ky.ints' A_21.g.1, A_21.zg, ly.ints' A_21.s.1, A_21.zs⟩
    have LU : Hid _ := lu
    have CU : Hid _ := cu
    clear my ky ly lu cu
    (try dsimp only)
    have xb := xb.below AV11
    have dV11 := btq dV10 AV11
    have eV11 := dV10.size
    have sV11 := AV11.size
    refine kk0 hK (KP.out _ dV11) ?_
    refine wo1 3 rfl fun K hK => ?_
    go_simp
    refine (toCk_any bx dx kx ex (E_21.below dV11)).mono ?_
    rintro ee V12 ⟨Zb, Zd, yZd, Zk, yZk, Ze, yZe, rfl, lgZd, cpZd, lgZk, cpZk, lgZe, cpZe, AV12, kZb, kZd, kZk, kZe, -⟩
    have LD1 : Hid _ := lgZd
    have CD1 : Hid _ := cpZd
    have LK1 : Hid _ := lgZk
    have CK1 : Hid _ := cpZk
    have LG1 : Hid _ := lgZe
    have CG1 : Hid _ := cpZe
    clear lgZd cpZd lgZk cpZk lgZe cpZe
    (try dsimp only)
    have xb := xb.below AV12
    have PY := PY.below AV12
    have dV12 := btq dV11 AV12
    have eV12 := dV11.size
    have sV12 := AV12.size
    refine kk0 hK (KP.out _ dV12) ?_
    refine wo1 5 rfl fun K hK => ?_
    go_simp
    refine (iclkfall_any us G S bx yZd yZk yZe v PY kZb HbL.out zb kZd LD1.out zd kZk LK1.out zk kZe LG1.out ze (fun w' h' => HTB.out w' (B_21.trans ((dV12.mono B_21.size).trans (h'.mono (btq B_21 dV12).size)))) ((HH.out us yZd yZk yZe LU.out CU.out LD1.out CD1.out LK1.out CK1.out LG1.out CG1.out).trans HW.out.symm)).mono ?_
    intro ee V13 hSF
    obtain ⟨sba, scb, sB, sda, scd, sG1, sds, sb1, ska, sck, sG2, sks, sb2, sea, scg, sG3, sgs, sb3, sb4, sn1, sn2, sn3, sn4, rfl, AV13, sh4, SL, ll1, m1, ll2, m2, ll3, m3⟩ := hSF.get HLE.out LD1.out CD1.out LK1.out CK1.out LG1.out CG1.out
    have SX : Hid (∀ (S : Nat -> Prop) (W : World), Touch S V13 W -> (∀ x, S x -> x < V12.heap.size \/ V13.heap.size <= x) -> CkAt W sba nb LB sda nd sds ska nk sks sea ne sgs) := fun S W hT hS => (SL.touch hT (fun x hx => (hS x hx).imp id (fun h => by omega))).at znb ll1 znd ll2 znk ll3 zne
    have M1 : Hid _ := m1
    have M2 : Hid _ := m2
    have M3 : Hid _ := m3
    clear m1 m2 m3
    (try dsimp only)
    have xb := xb.below AV13
    have PY := PY.below AV13
    have kZb := kZb.below AV13
    have kZd := kZd.below AV13
    have kZk := kZk.below AV13
    have kZe := kZe.below AV13
    have dV13 := btq dV12 AV13
    have eV13 := dV12.size
    have sV13 := AV13.size
    refine kk0 hK (KP.out _ dV13) ?_
    clear PY kZb kZd kZk kZe
    have xS := ((((((xb.set 0 (.bool U)).set 1 (.int .i64 R)).set 2 (.slice sba nb scb)).set 3 (.slice sda nd scd)).set 4 (.slice ska nk sck)).set 5 (.slice sea ne scg))
    simp only [qA, qB] at xS
    have T := ((((((Touch.refl (fun z => z = V0.heap.size) V13).setCell (B := V0.heap.size) (i := 0) rfl (.bool U)).setCell (B := V0.heap.size) (i := 1) rfl (.int .i64 R)).setCell (B := V0.heap.size) (i := 2) rfl (.slice sba nb scb)).setCell (B := V0.heap.size) (i := 3) rfl (.slice sda nd scd)).setCell (B := V0.heap.size) (i := 4) rfl (.slice ska nk sck)).setCell (B := V0.heap.size) (i := 5) rfl (.slice sea ne scg)
    obtain ⟨y0, y1, y2, y3, y4, y5⟩ := xb.sixP
    obtain ⟨z0, z1, z2, z3, z4, z5⟩ := xb.frees
    have SB := SX.out _ _ (T) (fun z hz => by have hz : z = V0.heap.size := hz; omega)
    have dS := dV13.trans (T.below (B := w21.heap.size) (by omega) (fun z hz => by have hz : z = V0.heap.size := hz; omega))
    refine wo1 7 rfl fun K hK => ?_
    go_simp
    refine kk0 hK (KP.out _ dS) ?_
    refine wod ?_ _
    clear y0 y1 y2 y3 y4 y5 z0 z1 z2 z3 z4 z5 T xb
    go_wp2_with fail
    go_meet
    case rel => exact ⟨_, sba, scb, sda, scd, sds, ska, sck, sks, sea, scg, sgs, rfl, xS, SB, M1, M2, M3, dS⟩
  case rest =>
   obtain ⟨tZ, tba, tcb, tda, tcd, tds, tka, tck, tks, tea, tcg, tgs, rfl, zb9, TA, K1, K2, K3, b9⟩ := hcut
   obtain ⟨w22, rfl⟩ : ∃ W, W = wc := ⟨wc, rfl⟩
   have B_22 := btq B_21 b9
   have V_22 := btq V_21 b9
   have gb22 := HG21.out.below b9
   have CL22 := HC21.out.below b9
   have TD : Hid (∀ i, i < nd -> sameD (tds[i]?.getD noD) (sds[i]?.getD noD)) := fun i hi => sameD_trans (sameD_symm (K1.out i hi)) (M1.out i hi)
   have TK : Hid (∀ i, i < nk -> sameQ (tks[i]?.getD noQ) (sks[i]?.getD noQ)) := fun i hi => sameQ_trans (sameQ_symm (K2.out i hi)) (M2.out i hi)
   have TG : Hid (∀ i, i < ne -> sameG (tgs[i]?.getD noG) (sgs[i]?.getD noG)) := fun i hi => sameG_trans (sameG_symm (K3.out i hi)) (M3.out i hi)
   clear B_21 V_21 b9 q_21 r_21 A_21 E_21
   obtain ⟨g0, g1, g2, g3, g4, g5⟩ := zb9.sixP
   obtain ⟨h0, h1, h2, h3, h4, h5⟩ := (HZ.out.below V_22).sixP
   go_wp2_with fail
   refine (eqCk_same LB tds tks tgs sds sks sgs TA (HSA.out.below V_22) TD.out TK.out TG.out).mono ?_
   rintro rr w23 ⟨rfl, b_23⟩
   clear g0 g1 g2 g3 g4 g5 h0 h1 h2 h3 h4 h5
   have B_23 := btq B_22 b_23
   have gb23 := gb22.below b_23
   have CL23 := CL22.below b_23
   clear B_22 V_22 gb22 CL22 b_23 TA zb9
   obtain ⟨g0, g1, g2, g3, g4, g5⟩ := gb23.sixP
   go_wp2_with fail
   refine (heldCkL_any (fun i => ids[i]?.getD noD) ib1 (fun i => iks[i]?.getD noQ) ib2 (fun i => igs[i]?.getD noG) ib3 ib4 n1 n2 n3 n4 CL23 znb znd znk zne HMK.out).mono ?_
   rintro rr w24 ⟨rfl, b_24⟩
   rw [<- HFO.out]
   clear g0 g1 g2 g3 g4 g5
   have B_24 := btq B_23 b_24
   clear B_23 gb23 CL23 b_24
   go_wp2
   go_ret
   exact ⟨rfl, B_24⟩
end Go.Proofs.YtacfoeekmcnpjaaGreatDoor.fnExactClkFall
