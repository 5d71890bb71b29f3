/-
  The copy of a clerk as the specification makes it (SCopyP). Lengths at most 1048576.
-/
import Derived.Test.YtacfoeekmcnpjaaGreatDoorQN
namespace Go.Proofs.YtacfoeekmcnpjaaGreatDoor
open Go.RowKit Go.Deep
open List renaming setIfInBounds_toArray → qA, set_cons_zero → qB, set_cons_succ → qC, getElem_cons_zero → qD, getElem_cons_succ → qE, getElem?_cons_zero → qF, getElem?_cons_succ → qG, getElem_toArray → qH, length_append → qI
open Nat renaming le_refl → qJ
set_option linter.unusedVariables false
set_option maxRecDepth 100000
set_option maxHeartbeats 25600000
theorem scopy9_any : SCopyP := by
 intro u r Bb bn bc bx Bd dn dc dx Bk kn kc kx Bg en ec ex w hb lb zb hd ld zd hk lk zk hg lg zg
 have p0 := (Cel.new w [.bool u, .int .i64 r, .slice (some ⟨Bb, 0, none⟩) bn bc, .slice (some ⟨Bd, 0, none⟩) dn dc, .slice (some ⟨Bk, 0, none⟩) kn kc, .slice (some ⟨Bg, 0, none⟩) en ec] 47).alloc (.cells #[.bool false, .int .i64 0, .slice none 0 0, .slice none 0 0, .slice none 0 0, .slice none 0 0] 47)
 have r0 := Cel.new (w.alloc (.cells #[.bool u, .int .i64 r, .slice (some ⟨Bb, 0, none⟩) bn bc, .slice (some ⟨Bd, 0, none⟩) dn dc, .slice (some ⟨Bk, 0, none⟩) kn kc, .slice (some ⟨Bg, 0, none⟩) en ec] 47)) [.bool false, .int .i64 0, .slice none 0 0, .slice none 0 0, .slice none 0 0, .slice none 0 0] 47
 rw [World.size_alloc] at r0
 have B0 := ((Below.refl w.heap.size w).alloc (qJ _) (.cells #[.bool u, .int .i64 r, .slice (some ⟨Bb, 0, none⟩) bn bc, .slice (some ⟨Bd, 0, none⟩) dn dc, .slice (some ⟨Bk, 0, none⟩) kn kc, .slice (some ⟨Bg, 0, none⟩) en ec] 47)).alloc (by simp) (.cells #[.bool false, .int .i64 0, .slice none 0 0, .slice none 0 0, .slice none 0 0, .slice none 0 0] 47)
 have Lb : Hid _ := lb
 have Ld : Hid _ := ld
 have Lk : Hid _ := lk
 have Lg : Hid _ := lg
 have Hd : Hid (MD w Bd dn dx) := hd
 have Hk : Hid (MQ w Bk kn kx) := hk
 have Hg : Hid (MG w Bg en ex) := hg
 clear lb ld lk lg hd hk hg
 go_enter Tryz.func163, Tryz.ntmps163
 go_upto_region 1 with fail
 obtain ⟨W0, hW0⟩ : ∃ W, W = (w.alloc (.cells #[.bool u, .int .i64 r, .slice (some ⟨Bb, 0, none⟩) bn bc, .slice (some ⟨Bd, 0, none⟩) dn dc, .slice (some ⟨Bk, 0, none⟩) kn kc, .slice (some ⟨Bg, 0, none⟩) en ec] 47)).alloc (.cells #[.bool false, .int .i64 0, .slice none 0 0, .slice none 0 0, .slice none 0 0, .slice none 0 0] 47) := ⟨_, rfl⟩
 rw [<- hW0] at p0 r0 B0 ⊢
 have w0s : W0.heap.size <= w.heap.size + 2 /\ w.heap.size + 2 <= W0.heap.size := by rw [hW0]; simp
 clear hW0
 have KP : Hid (∀ W, Below W0.heap.size W0 W -> W.cell? ⟨w.heap.size, 0, none⟩ = some (.bool u) /\ W.cell? ⟨w.heap.size, 1, none⟩ = some (.int .i64 r) /\ W.cell? ⟨w.heap.size, 2, none⟩ = some (.slice (some ⟨Bb, 0, none⟩) bn bc) /\ W.cell? ⟨w.heap.size, 3, none⟩ = some (.slice (some ⟨Bd, 0, none⟩) dn dc) /\ W.cell? ⟨w.heap.size, 4, none⟩ = some (.slice (some ⟨Bk, 0, none⟩) kn kc) /\ W.cell? ⟨w.heap.size, 5, none⟩ = some (.slice (some ⟨Bg, 0, none⟩) en ec)) := fun W hW => (p0.below hW).sixP
 go_cut [3] (fun s wx => ∃ X ba cb Bq da cd G ds bs, s = .pointer (some ⟨X, 0, none⟩) /\ SC9 W0 u r ba bn cb bx Bq da dn cd G ds bs X wx /\ Hid (∀ i, i < dn -> sameD (dx[i]?.getD noD) (ds[i]?.getD noD)))
 case first =>
  have d0 : Below W0.heap.size W0 W0.drew := (Below.refl _ _).drew
  have hSS := And.intro (KP.out _ d0) True.intro
  refine wp_region_ends (fun w' => w'.cell? ⟨w.heap.size, 0, none⟩ = some (.bool u) /\ w'.cell? ⟨w.heap.size, 1, none⟩ = some (.int .i64 r) /\ w'.cell? ⟨w.heap.size, 2, none⟩ = some (.slice (some ⟨Bb, 0, none⟩) bn bc) /\ w'.cell? ⟨w.heap.size, 3, none⟩ = some (.slice (some ⟨Bd, 0, none⟩) dn dc) /\ w'.cell? ⟨w.heap.size, 4, none⟩ = some (.slice (some ⟨Bk, 0, none⟩) kn kc) /\ w'.cell? ⟨w.heap.size, 5, none⟩ = some (.slice (some ⟨Bg, 0, none⟩) en ec)) (fun _ => True) 13 (by kernel_rfl) ?_
  obtain ⟨V0, hV0⟩ : ∃ V, V = W0.drew := ⟨_, rfl⟩
  rw [<- hV0] at hSS d0 ⊢
  clear hV0
  refine tkl 0 rfl hSS ?_
  refine tkl 1 rfl hSS ?_
  refine tkl 2 rfl hSS ?_
  refine tkl 3 rfl hSS ?_
  refine tkl 5 rfl hSS ?_
  refine tkl 6 rfl hSS ?_
  refine tkl 8 rfl hSS ?_
  refine tkl 9 rfl hSS ?_
  clear hSS
  (try simp only [Act.put, qA, qC, qB, qH, qE, qD])
  refine wo2 4 12 rfl rfl (fun K hK => ?_) fun K hK => ?_
  ·skip
   go_simp
   obtain ⟨V1, hV1⟩ : ∃ W, W = V0.alloc (.cells #[] 3) := ⟨_, rfl⟩
   have AV1 : Below V0.heap.size V0 V1 := by rw [hV1]; exact bal
   have hL := (JA.lit V0).o
   have sL : V0.heap.size < V1.heap.size := by rw [hV1]; simp
   rw [<- hV1] at hL
   have dV1 := btq d0 AV1
   have sV1 := AV1.size
   have eV1 := d0.size
   rw [<- hV1]
   refine kk0 hK (KP.out _ dV1) ?_
   clear hK K hV1
   refine wo2 7 12 rfl rfl (fun K hK => ?_) fun K hK => ?_
   ·skip
    rw [if_pos (by rfl)]
    refine wp_copyI (.tmp 10) (.tmp 12) rfl V0.heap.size V0.heap.size Bb bn bc bx (by rfl) hL (by rfl) ((hb.below B0).below dV1) Lb.out zb (by omega) (qJ _) ?_
    intro ba cb Bq V2 hBV2 hkp o1 g1
    have sV2 := hkp.size
    have dV2 := dV1.trans (hBV2.mono (by omega))
    have eV2 := dV1.size
    have lo1 : 0 < bn -> Bq < V2.heap.size := fun h0 => o1.lt h0
    refine kk0 hK (KP.out _ dV2) ?_
    refine wo2 10 12 rfl rfl (fun K hK => ?_) fun K hK => ?_
    ·skip
     go_simp
     refine (scopDone_any dx Ld.out ((Hd.out.below B0).below dV2) zd).mono ?_
     rintro ee V3 ⟨dv, ds, bs, rfl, hdl, jd, hsm⟩
     have AV3 : Below V2.heap.size V2 V3 := jd.b
     have sV3 := AV3.size
     have eV3 := dV2.size
     obtain ⟨da, G, cd, rfl, dl, hG, hbs⟩ := jd.lies hdl
     have lG : 0 < dn -> G < V3.heap.size := fun h0 => dl.lt h0
     have lbs : ∀ i, i < dn -> 0 < (ds[i]?.getD noD).t.n -> bs i < V3.heap.size := fun i hi h0 => (dl.l i hi).1.lt h0
     have HSM : Hid _ := hsm
     have o1 := o1.below AV3
     have dV3 := btq dV2 AV3
     clear hsm jd
     (try dsimp only)
     refine kk0 hK (KP.out _ dV3) ?_
     refine wo2 11 12 rfl rfl (fun K hK => ?_) fun K hK => ?_
     ·skip
      go_simp
      refine kk0 hK (KP.out _ dV3) ?_
      refine wo1 12 rfl fun K hK => ?_
      go_simp
      obtain ⟨V4, hV4⟩ : ∃ W, W = V3.alloc (.cells #[.bool false, .int .i64 0, .slice none 0 0, .slice none 0 0, .slice none 0 0, .slice none 0 0] 47) := ⟨_, rfl⟩
      have AV4 : Below V3.heap.size V3 V4 := by rw [hV4]; exact bal
      have o1 := o1.below AV4
      have dl := dl.below AV4
      have xb : Cel V4 V3.heap.size [.bool false, .int .i64 0, .slice none 0 0, .slice none 0 0, .slice none 0 0, .slice none 0 0] 47 := by rw [hV4]; exact Cel.new V3 _ _
      have sX := xb.lt
      have dV4 := btq dV3 AV4
      have sV4 := AV4.size
      have eV4 := dV3.size
      rw [<- hV4]
      refine kk0 hK (KP.out _ dV4) ?_
      clear hK K hV4
      have xS := ((((((xb.set 0 (.bool u)).set 1 (.int .i64 r)).set 2 (.slice ba bn cb)).set 3 (.slice da dn cd)).set 4 (.slice none 0 0)).set 5 (.slice none 0 0))
      simp only [qB, qC] at xS
      have T := ((((((Touch.refl (fun z => z = V3.heap.size) V4).setCell (B := V3.heap.size) (i := 0) rfl (.bool u)).setCell (B := V3.heap.size) (i := 1) rfl (.int .i64 r)).setCell (B := V3.heap.size) (i := 2) rfl (.slice ba bn cb)).setCell (B := V3.heap.size) (i := 3) rfl (.slice da dn cd)).setCell (B := V3.heap.size) (i := 4) rfl (.slice none 0 0)).setCell (B := V3.heap.size) (i := 5) rfl (.slice none 0 0)
      obtain ⟨y0, y1, y2, y3, y4, y5⟩ := xb.sixP
      obtain ⟨z0, z1, z2, z3, z4, z5⟩ := xb.frees
      have dS := dV4.trans (T.below (B := W0.heap.size) (by omega) (fun z hz => by have hz : z = V3.heap.size := hz; omega))
      have SC := SC9.mk' dS xS T (by omega) o1 (fun h0 => by have := g1 h0; have := lo1 h0; omega) dl (fun h0 => by have := hG h0; have := lG h0; omega) (fun i hi h0 => by have := hbs i hi h0; have := lbs i hi h0; omega) hdl
      refine wo1 13 rfl fun K hK => ?_
      go_simp
      refine kk0 hK (KP.out _ dS) ?_
      refine wod ?_ _
      clear y0 y1 y2 y3 y4 y5 z0 z1 z2 z3 z4 z5 T xS dS o1 dl xb
      go_wp2_with fail
      go_meet
      case rel => exact ⟨_, ba, cb, Bq, da, cd, G, ds, bs, rfl, SC, HSM⟩
     ·skip
      go_simp
      obtain ⟨V5, hV5⟩ : ∃ W, W = V3.alloc (.cells #[.bool false, .int .i64 0, .slice none 0 0, .slice none 0 0, .slice none 0 0, .slice none 0 0] 47) := ⟨_, rfl⟩
      have AV5 : Below V3.heap.size V3 V5 := by rw [hV5]; exact bal
      have o1 := o1.below AV5
      have dl := dl.below AV5
      have xb : Cel V5 V3.heap.size [.bool false, .int .i64 0, .slice none 0 0, .slice none 0 0, .slice none 0 0, .slice none 0 0] 47 := by rw [hV5]; exact Cel.new V3 _ _
      have sX := xb.lt
      have dV5 := btq dV3 AV5
      have sV5 := AV5.size
      have eV5 := dV3.size
      rw [<- hV5]
      refine kk0 hK (KP.out _ dV5) ?_
      clear hK K hV5
      refine wo1 11 rfl fun K hK => ?_
      go_simp
      refine kk0 hK (KP.out _ dV5) ?_
      have xS := ((((((xb.set 0 (.bool u)).set 1 (.int .i64 r)).set 2 (.slice ba bn cb)).set 3 (.slice da dn cd)).set 4 (.slice none 0 0)).set 5 (.slice none 0 0))
      simp only [qB, qC] at xS
      have T := ((((((Touch.refl (fun z => z = V3.heap.size) V5).setCell (B := V3.heap.size) (i := 0) rfl (.bool u)).setCell (B := V3.heap.size) (i := 1) rfl (.int .i64 r)).setCell (B := V3.heap.size) (i := 2) rfl (.slice ba bn cb)).setCell (B := V3.heap.size) (i := 3) rfl (.slice da dn cd)).setCell (B := V3.heap.size) (i := 4) rfl (.slice none 0 0)).setCell (B := V3.heap.size) (i := 5) rfl (.slice none 0 0)
      obtain ⟨y0, y1, y2, y3, y4, y5⟩ := xb.sixP
      obtain ⟨z0, z1, z2, z3, z4, z5⟩ := xb.frees
      have dS := dV5.trans (T.below (B := W0.heap.size) (by omega) (fun z hz => by have hz : z = V3.heap.size := hz; omega))
      have SC := SC9.mk' dS xS T (by omega) o1 (fun h0 => by have := g1 h0; have := lo1 h0; omega) dl (fun h0 => by have := hG h0; have := lG h0; omega) (fun i hi h0 => by have := hbs i hi h0; have := lbs i hi h0; omega) hdl
      refine wo1 13 rfl fun K hK => ?_
      go_simp
      refine kk0 hK (KP.out _ dS) ?_
      refine wod ?_ _
      clear y0 y1 y2 y3 y4 y5 z0 z1 z2 z3 z4 z5 T xS dS o1 dl xb
      go_wp2_with fail
      go_meet
      case rel => exact ⟨_, ba, cb, Bq, da, cd, G, ds, bs, rfl, SC, HSM⟩
    ·skip
     go_simp
     obtain ⟨V6, hV6⟩ : ∃ W, W = V2.alloc (.cells #[.bool false, .int .i64 0, .slice none 0 0, .slice none 0 0, .slice none 0 0, .slice none 0 0] 47) := ⟨_, rfl⟩
     have AV6 : Below V2.heap.size V2 V6 := by rw [hV6]; exact bal
     have o1 := o1.below AV6
     have xb : Cel V6 V2.heap.size [.bool false, .int .i64 0, .slice none 0 0, .slice none 0 0, .slice none 0 0, .slice none 0 0] 47 := by rw [hV6]; exact Cel.new V2 _ _
     have sX := xb.lt
     have dV6 := btq dV2 AV6
     have sV6 := AV6.size
     have eV6 := dV2.size
     rw [<- hV6]
     refine kk0 hK (KP.out _ dV6) ?_
     clear hK K hV6
     refine wo1 10 rfl fun K hK => ?_
     go_simp
     refine (scopDone_any dx Ld.out ((Hd.out.below B0).below dV6) zd).mono ?_
     rintro ee V7 ⟨dv, ds, bs, rfl, hdl, jd, hsm⟩
     have AV7 : Below V6.heap.size V6 V7 := jd.b
     have sV7 := AV7.size
     have eV7 := dV6.size
     obtain ⟨da, G, cd, rfl, dl, hG, hbs⟩ := jd.lies hdl
     have lG : 0 < dn -> G < V7.heap.size := fun h0 => dl.lt h0
     have lbs : ∀ i, i < dn -> 0 < (ds[i]?.getD noD).t.n -> bs i < V7.heap.size := fun i hi h0 => (dl.l i hi).1.lt h0
     have HSM : Hid _ := hsm
     have xb := xb.below AV7
     have o1 := o1.below AV7
     have dV7 := btq dV6 AV7
     clear hsm jd
     (try dsimp only)
     refine kk0 hK (KP.out _ dV7) ?_
     refine wo1 11 rfl fun K hK => ?_
     go_simp
     refine kk0 hK (KP.out _ dV7) ?_
     have xS := ((((((xb.set 0 (.bool u)).set 1 (.int .i64 r)).set 2 (.slice ba bn cb)).set 3 (.slice da dn cd)).set 4 (.slice none 0 0)).set 5 (.slice none 0 0))
     simp only [qB, qC] at xS
     have T := ((((((Touch.refl (fun z => z = V2.heap.size) V7).setCell (B := V2.heap.size) (i := 0) rfl (.bool u)).setCell (B := V2.heap.size) (i := 1) rfl (.int .i64 r)).setCell (B := V2.heap.size) (i := 2) rfl (.slice ba bn cb)).setCell (B := V2.heap.size) (i := 3) rfl (.slice da dn cd)).setCell (B := V2.heap.size) (i := 4) rfl (.slice none 0 0)).setCell (B := V2.heap.size) (i := 5) rfl (.slice none 0 0)
     obtain ⟨y0, y1, y2, y3, y4, y5⟩ := xb.sixP
     obtain ⟨z0, z1, z2, z3, z4, z5⟩ := xb.frees
     have dS := dV7.trans (T.below (B := W0.heap.size) (by omega) (fun z hz => by have hz : z = V2.heap.size := hz; omega))
     have SC := SC9.mk' dS xS T (by omega) o1 (fun h0 => by have := g1 h0; have := lo1 h0; omega) dl (fun h0 => by have := hG h0; have := lG h0; omega) (fun i hi h0 => by have := hbs i hi h0; have := lbs i hi h0; omega) hdl
     refine wo1 13 rfl fun K hK => ?_
     go_simp
     refine kk0 hK (KP.out _ dS) ?_
     refine wod ?_ _
     clear y0 y1 y2 y3 y4 y5 z0 z1 z2 z3 z4 z5 T xS dS o1 dl xb
     go_wp2_with fail
     go_meet
     case rel => exact ⟨_, ba, cb, Bq, da, cd, G, ds, bs, rfl, SC, HSM⟩
   ·skip
    go_simp
    obtain ⟨V8, hV8⟩ : ∃ W, W = V1.alloc (.cells #[.bool false, .int .i64 0, .slice none 0 0, .slice none 0 0, .slice none 0 0, .slice none 0 0] 47) := ⟨_, rfl⟩
    have AV8 : Below V1.heap.size V1 V8 := by rw [hV8]; exact bal
    have hL := own_below hL AV8
    have xb : Cel V8 V1.heap.size [.bool false, .int .i64 0, .slice none 0 0, .slice none 0 0, .slice none 0 0, .slice none 0 0] 47 := by rw [hV8]; exact Cel.new V1 _ _
    have sX := xb.lt
    have dV8 := btq dV1 AV8
    have sV8 := AV8.size
    have eV8 := dV1.size
    rw [<- hV8]
    refine kk0 hK (KP.out _ dV8) ?_
    clear hK K hV8
    refine wo1 7 rfl fun K hK => ?_
    rw [if_pos (by rfl)]
    refine wp_copyI (.tmp 10) (.tmp 12) rfl V0.heap.size V0.heap.size Bb bn bc bx (by rfl) hL (by rfl) ((hb.below B0).below dV8) Lb.out zb (by omega) (qJ _) ?_
    intro ba cb Bq V9 hBV9 hkp o1 g1
    have sV9 := hkp.size
    have dV9 := dV8.trans (hBV9.mono (by omega))
    have eV9 := dV8.size
    have lo1 : 0 < bn -> Bq < V9.heap.size := fun h0 => o1.lt h0
    refine kk0 hK (KP.out _ dV9) ?_
    have xb := xb.touch hkp (fun e => by have e : V1.heap.size = V0.heap.size := e; omega)
    refine wo1 10 rfl fun K hK => ?_
    go_simp
    refine (scopDone_any dx Ld.out ((Hd.out.below B0).below dV9) zd).mono ?_
    rintro ee V10 ⟨dv, ds, bs, rfl, hdl, jd, hsm⟩
    have AV10 : Below V9.heap.size V9 V10 := jd.b
    have sV10 := AV10.size
    have eV10 := dV9.size
    obtain ⟨da, G, cd, rfl, dl, hG, hbs⟩ := jd.lies hdl
    have lG : 0 < dn -> G < V10.heap.size := fun h0 => dl.lt h0
    have lbs : ∀ i, i < dn -> 0 < (ds[i]?.getD noD).t.n -> bs i < V10.heap.size := fun i hi h0 => (dl.l i hi).1.lt h0
    have HSM : Hid _ := hsm
    have xb := xb.below AV10
    have o1 := o1.below AV10
    have dV10 := btq dV9 AV10
    clear hsm jd
    (try dsimp only)
    refine kk0 hK (KP.out _ dV10) ?_
    refine wo1 11 rfl fun K hK => ?_
    go_simp
    refine kk0 hK (KP.out _ dV10) ?_
    have xS := ((((((xb.set 0 (.bool u)).set 1 (.int .i64 r)).set 2 (.slice ba bn cb)).set 3 (.slice da dn cd)).set 4 (.slice none 0 0)).set 5 (.slice none 0 0))
    simp only [qB, qC] at xS
    have T := ((((((Touch.refl (fun z => z = V1.heap.size) V10).setCell (B := V1.heap.size) (i := 0) rfl (.bool u)).setCell (B := V1.heap.size) (i := 1) rfl (.int .i64 r)).setCell (B := V1.heap.size) (i := 2) rfl (.slice ba bn cb)).setCell (B := V1.heap.size) (i := 3) rfl (.slice da dn cd)).setCell (B := V1.heap.size) (i := 4) rfl (.slice none 0 0)).setCell (B := V1.heap.size) (i := 5) rfl (.slice none 0 0)
    obtain ⟨y0, y1, y2, y3, y4, y5⟩ := xb.sixP
    obtain ⟨z0, z1, z2, z3, z4, z5⟩ := xb.frees
    have dS := dV10.trans (T.below (B := W0.heap.size) (by omega) (fun z hz => by have hz : z = V1.heap.size := hz; omega))
    have SC := SC9.mk' dS xS T (by omega) o1 (fun h0 => by have := g1 h0; have := lo1 h0; omega) dl (fun h0 => by have := hG h0; have := lG h0; omega) (fun i hi h0 => by have := hbs i hi h0; have := lbs i hi h0; omega) hdl
    refine wo1 13 rfl fun K hK => ?_
    go_simp
    refine kk0 hK (KP.out _ dS) ?_
    refine wod ?_ _
    clear y0 y1 y2 y3 y4 y5 z0 z1 z2 z3 z4 z5 T xS dS o1 dl xb
    go_wp2_with fail
    go_meet
    case rel => exact ⟨_, ba, cb, Bq, da, cd, G, ds, bs, rfl, SC, HSM⟩
  ·skip
   go_simp
   obtain ⟨V11, hV11⟩ : ∃ W, W = V0.alloc (.cells #[.bool false, .int .i64 0, .slice none 0 0, .slice none 0 0, .slice none 0 0, .slice none 0 0] 47) := ⟨_, rfl⟩
   have AV11 : Below V0.heap.size V0 V11 := by rw [hV11]; exact bal
   have xb : Cel V11 V0.heap.size [.bool false, .int .i64 0, .slice none 0 0, .slice none 0 0, .slice none 0 0, .slice none 0 0] 47 := by rw [hV11]; exact Cel.new V0 _ _
   have sX := xb.lt
   have dV11 := btq d0 AV11
   have sV11 := AV11.size
   have eV11 := d0.size
   rw [<- hV11]
   refine kk0 hK (KP.out _ dV11) ?_
   clear hK K hV11
   refine wo1 4 rfl fun K hK => ?_
   go_simp
   obtain ⟨V12, hV12⟩ : ∃ W, W = V11.alloc (.cells #[] 3) := ⟨_, rfl⟩
   have AV12 : Below V11.heap.size V11 V12 := by rw [hV12]; exact bal
   have hL := (JA.lit V11).o
   have sL : V11.heap.size < V12.heap.size := by rw [hV12]; simp
   rw [<- hV12] at hL
   have xb := xb.below AV12
   have dV12 := btq dV11 AV12
   have sV12 := AV12.size
   have eV12 := dV11.size
   rw [<- hV12]
   refine kk0 hK (KP.out _ dV12) ?_
   clear hK K hV12
   refine wo1 7 rfl fun K hK => ?_
   rw [if_pos (by rfl)]
   refine wp_copyI (.tmp 10) (.tmp 12) rfl V11.heap.size V11.heap.size Bb bn bc bx (by rfl) hL (by rfl) ((hb.below B0).below dV12) Lb.out zb (by omega) (qJ _) ?_
   intro ba cb Bq V13 hBV13 hkp o1 g1
   have sV13 := hkp.size
   have dV13 := dV12.trans (hBV13.mono (by omega))
   have eV13 := dV12.size
   have lo1 : 0 < bn -> Bq < V13.heap.size := fun h0 => o1.lt h0
   refine kk0 hK (KP.out _ dV13) ?_
   have xb := xb.touch hkp (fun e => by have e : V0.heap.size = V11.heap.size := e; omega)
   refine wo1 10 rfl fun K hK => ?_
   go_simp
   refine (scopDone_any dx Ld.out ((Hd.out.below B0).below dV13) zd).mono ?_
   rintro ee V14 ⟨dv, ds, bs, rfl, hdl, jd, hsm⟩
   have AV14 : Below V13.heap.size V13 V14 := jd.b
   have sV14 := AV14.size
   have eV14 := dV13.size
   obtain ⟨da, G, cd, rfl, dl, hG, hbs⟩ := jd.lies hdl
   have lG : 0 < dn -> G < V14.heap.size := fun h0 => dl.lt h0
   have lbs : ∀ i, i < dn -> 0 < (ds[i]?.getD noD).t.n -> bs i < V14.heap.size := fun i hi h0 => (dl.l i hi).1.lt h0
   have HSM : Hid _ := hsm
   have xb := xb.below AV14
   have o1 := o1.below AV14
   have dV14 := btq dV13 AV14
   clear hsm jd
   (try dsimp only)
   refine kk0 hK (KP.out _ dV14) ?_
   refine wo1 11 rfl fun K hK => ?_
   go_simp
   refine kk0 hK (KP.out _ dV14) ?_
   have xS := ((((((xb.set 0 (.bool u)).set 1 (.int .i64 r)).set 2 (.slice ba bn cb)).set 3 (.slice da dn cd)).set 4 (.slice none 0 0)).set 5 (.slice none 0 0))
   simp only [qB, qC] at xS
   have T := ((((((Touch.refl (fun z => z = V0.heap.size) V14).setCell (B := V0.heap.size) (i := 0) rfl (.bool u)).setCell (B := V0.heap.size) (i := 1) rfl (.int .i64 r)).setCell (B := V0.heap.size) (i := 2) rfl (.slice ba bn cb)).setCell (B := V0.heap.size) (i := 3) rfl (.slice da dn cd)).setCell (B := V0.heap.size) (i := 4) rfl (.slice none 0 0)).setCell (B := V0.heap.size) (i := 5) rfl (.slice none 0 0)
   obtain ⟨y0, y1, y2, y3, y4, y5⟩ := xb.sixP
   obtain ⟨z0, z1, z2, z3, z4, z5⟩ := xb.frees
   have dS := dV14.trans (T.below (B := W0.heap.size) (by omega) (fun z hz => by have hz : z = V0.heap.size := hz; omega))
   have SC := SC9.mk' dS xS T (by omega) o1 (fun h0 => by have := g1 h0; have := lo1 h0; omega) dl (fun h0 => by have := hG h0; have := lG h0; omega) (fun i hi h0 => by have := hbs i hi h0; have := lbs i hi h0; omega) hdl
   refine wo1 13 rfl fun K hK => ?_
   go_simp
   refine kk0 hK (KP.out _ dS) ?_
   refine wod ?_ _
   clear y0 y1 y2 y3 y4 y5 z0 z1 z2 z3 z4 z5 T xS dS o1 dl xb
   go_wp2_with fail
   go_meet
   case rel => exact ⟨_, ba, cb, Bq, da, cd, G, ds, bs, rfl, SC, HSM⟩
 case rest =>
  obtain ⟨X, ba, cb, Bq, da, cd, G, ds, bs, rfl, SC, HSM⟩ := hcut
  have HSC : Hid _ := SC
  have xc := SC.x
  have lX := xc.lt
  have sz0 := SC.b.size
  have hX := SC.hX
  have BC := btq B0 SC.b
  have pc := p0.below SC.b
  have rc := r0.below SC.b
  have lBk : Bk < w.heap.size := Hk.out.lt
  have lBg : Bg < w.heap.size := Hg.out.lt
  have KT : Hid (∀ W, Touch (fun x => x = X \/ wc.heap.size <= x) wc W -> W.cell? ⟨w.heap.size, 4, none⟩ = some (.slice (some ⟨Bk, 0, none⟩) kn kc) /\ W.cell? ⟨w.heap.size, 5, none⟩ = some (.slice (some ⟨Bg, 0, none⟩) en ec)) := fun W hT => by
   have h := pc.touch hT (fun h => by rcases h with h | h <;> omega)
   exact ⟨h.cell 4, h.cell 5⟩
  have KQ : Hid (∀ W, Touch (fun x => x = X \/ wc.heap.size <= x) wc W -> ∀ k, k < kn -> ∀ r, r < 4 -> W.cell? ⟨Bk, k * 4 + r, none⟩ = (kx[k]?.getD noQ).cs[r]?) := fun W hT k hk r hr => by
   obtain ⟨vs, h1, h2, h3⟩ := (Hk.out.below BC).c
   rw [(h1.touch hT (fun h => by rcases h with h | h <;> omega)).cell]
   exact h3 k (by rw [Lk.out]; exact hk) r hr
  have KB : Hid (∀ W, Touch (fun x => x = X \/ wc.heap.size <= x) wc W -> ∀ B x, B < w.heap.size -> Blk w B x -> Blk W B x) := fun W hT B x hB hx => by
   have h := hx.below BC
   unfold Blk at *
   rw [hT.block B (by omega) (fun h => by rcases h with h | h <;> omega)]
   exact h
  clear p0 r0 SC
  obtain ⟨zi, hi, hz0, hz1, hz2⟩ := info_parts Tryz.infoPlnCall
  obtain ⟨zj, hj, hy0, hy1, hy2⟩ := info_parts Tryz.infoClkGot
  go_wp2_with fail
  go_loopw [4] (fun i wr => ∃ (k : Nat) (ts : List QV) (bq : Nat -> Nat) (w1 : World) (kv : Value), k <= kn /\ i = .int .i64 k /\ Hid (ts.length = k) /\ Hid (w1.heap.size = wc.heap.size) /\ JQc w1 kv ts bq wr /\ Touch (fun x => x = X \/ wc.heap.size <= x) wc wr /\ Cel wr X [.bool u, .int .i64 r, .slice ba bn cb, .slice da dn cd, kv, .slice none 0 0] 47 /\ Hid (∀ i, i < k -> sameQ (kx[i]?.getD noQ) (ts[i]?.getD noQ))) (fun i _ => kn - (intOf i).toNat)
  case atStart => exact ⟨0, [], fun _ => 0, wc, _, Nat.zero_le _, rfl, rfl, rfl, JQc.nil wc wc (Below.refl _ _) _, Touch.refl _ _, xc, fun i hi => by omega⟩
  case round =>
   clear xc
   obtain ⟨k, ts, bq, w1, kv, hk, rfl, htl, hw1, j, T, xr, HS⟩ := hrel
   obtain ⟨c4, c5⟩ := KT.out _ T
   obtain ⟨va, vc, rfl⟩ := j.isSlice htl.out
   by_cases hlt : k < kn
   ·have hlt' : (k : Int) < kn := by omega
    have hdk := Hk.out.l k (by rw [Lk.out]; exact hlt)
    have hcsW := fun W hT => KQ.out W hT k hlt
    generalize HG : kx[k]?.getD noQ = g at *
    have HT : Hid (kx[k]?.getD noQ = g) := HG
    clear HG
    obtain ⟨gx, gq, gc, ⟨gta, gtn, gtc, gtx⟩⟩ := g
    obtain ⟨⟨Bl, hBl, _, hblk, hlen, hle⟩, -⟩ := hdk
    obtain rfl : gta = some ⟨Bl, 0, none⟩ := hBl
    have hblk : Blk w Bl gtx := hblk
    have lBl := hblk.lt
    have hlen : Hid (gtx.length = gtn) := hlen
    have hle : gtn <= 1048576 := hle
    have KP2 : Hid (∀ W, Touch (fun x => x = X \/ wc.heap.size <= x) wc W -> (W.cell? ⟨w.heap.size, 4, none⟩ = some (.slice (some ⟨Bk, 0, none⟩) kn kc)) /\ W.cell? ⟨Bk, k * 4, none⟩ = some (.int .i64 gx) /\ W.cell? ⟨Bk, k * 4 + 1, none⟩ = some (.int .i64 gq) /\ W.cell? ⟨Bk, k * 4 + 2, none⟩ = some (.int .i64 gc) /\ W.cell? ⟨Bk, k * 4 + 3, none⟩ = some (.slice (some ⟨Bl, 0, none⟩) gtn gtc)) := fun W hT => ⟨(KT.out W hT).1, cellsQ (hcsW W hT)⟩
    clear hcsW
    have T0 : Touch (fun x => x = X \/ wc.heap.size <= x) wc wr.drew := T.trans (Touch.of (Below.refl _ _).drew)
    have x0 : Cel wr.drew X [.bool u, .int .i64 r, .slice ba bn cb, .slice da dn cd, .slice va k vc, .slice none 0 0] 47 := xr.below (Below.refl _ _).drew
    have j0 := j.below (Below.refl wr.heap.size wr).drew
    have hSS := And.intro (KP2.out _ T0) (x0.cell 4)
    simp only [qF, qG] at hSS
    go_upto_region 5 with fail
    refine wp_region_ends (fun w' => (w'.cell? ⟨w.heap.size, 4, none⟩ = some (.slice (some ⟨Bk, 0, none⟩) kn kc)) /\ w'.cell? ⟨Bk, k * 4, none⟩ = some (.int .i64 gx) /\ w'.cell? ⟨Bk, k * 4 + 1, none⟩ = some (.int .i64 gq) /\ w'.cell? ⟨Bk, k * 4 + 2, none⟩ = some (.int .i64 gc) /\ w'.cell? ⟨Bk, k * 4 + 3, none⟩ = some (.slice (some ⟨Bl, 0, none⟩) gtn gtc)) (fun w' => w'.cell? ⟨X, 4, none⟩ = some (.slice va k vc)) 10 (by kernel_rfl) ?_
    obtain ⟨V0, hV0⟩ : ∃ V, V = wr.drew := ⟨_, rfl⟩
    rw [<- hV0] at hSS T0 x0 j0 ⊢
    clear hV0 j T xr c4 c5
    have hszw : wc.heap.size <= V0.heap.size := T0.size
    refine tkl 0 rfl hSS ?_
    refine tkM (i := 1) rfl rfl hSS ?_
    refine tkl 2 rfl hSS ?_
    refine tkl 3 rfl hSS ?_
    refine tkl 4 rfl hSS ?_
    refine tkl 5 rfl hSS ?_
    refine tkl 6 rfl hSS ?_
    clear hSS
    (try simp only [Act.put, qA, qC, qB, qH, qE, qD])
    refine wo1 7 rfl fun K hK => ?_
    go_simp
    refine (scopCall_any gtx (KB.out _ T0 _ _ lBl hblk) hlen.out hle).mono ?_
    rintro ee w2 ⟨na, nc, nB, rfl, b2, o2, g2⟩
    have T2 : Touch (fun x => x = X \/ wc.heap.size <= x) wc w2 := T0.trans (Touch.of b2)
    have x2 := x0.below b2
    have j2 := j0.below b2
    have sz2 := b2.size
    (try dsimp only)
    refine hK.out _ _ ⟨KP2.out _ T2, fun _ => x2.cell 4⟩ ?_
    have hnew : Hid (0 < gtn -> ∀ i, i < k -> 0 < (ts[i]?.getD noQ).t.n -> bq i ≠ nB) := fun h0 i hi hi0 => by
     have h1 := ((j0.k i (by rw [htl.out]; exact hi)).1).lt hi0
     have h2 := g2 h0
     omega
    have hlo : Hid (0 < gtn -> w1.heap.size <= nB /\ some nB ≠ (Value.slice va k vc).ownBlock) := fun h0 => by
     have h2 := g2 h0
     have h3 := hw1.out
     exact ⟨by omega, fun e => by have := (j0.own e.symm).2; omega⟩
    have A : Below w2.heap.size w2 (w2.alloc (.cells #[.int .i64 gx, .int .i64 gq, .int .i64 gc, .slice na gtn nc] 106)) := bal
    have T3 : Touch (fun x => x = X \/ wc.heap.size <= x) wc (w2.alloc (.cells #[.int .i64 gx, .int .i64 gq, .int .i64 gc, .slice na gtn nc] 106)) := T2.trans (Touch.of A)
    have x3 := x2.below A
    have j3 := j2.below A
    have ho : (w2.alloc (.cells #[.int .i64 gx, .int .i64 gq, .int .i64 gc, .slice na gtn nc] 106)).ownsRow w1.heap.size 106 4 (.slice va k vc) k (ts.flatMap QV.cs) := by
     have := j3.o
     rw [htl.out] at this
     exact this
    have hs5 := j3.b.size
    refine wo1 8 rfl fun K hK => ?_
    go_simp
    refine hK.out _ _ ⟨KP2.out _ T3, fun _ => x3.cell 4⟩ ?_
    refine wo1 9 rfl fun K hK => ?_
    rw [if_pos (by rfl)]
    refine wp_append_lies _ (.tmp 26) (.tmp 33) 44 rfl w1.heap.size 106 zi _ 4 48 Tryz.underlying44 hi hz0 hz1 hz2 rfl (by omega) (.slice va k vc) k (ts.flatMap QV.cs) (by rfl) ho ⟨w2.heap.size, 0, none⟩ 1 1 [.int .i64 gx, .int .i64 gq, .int .i64 gc, .slice na gtn nc] (by rfl) (by rfl) (World.news_of_block (cs := #[.int .i64 gx, .int .i64 gq, .int .i64 gc, .slice na gtn nc]) (t := 106) (fr := (0, 0)) (heap_alloc_new w2 _)) (by simp [Value.oneCell']) (by omega) (by unfold maxLen; omega) (by omega) hs5 (w2.heap.size + 1) (by rw [World.size_alloc]) ?_
    intro g cp w4 hown hgrow hat hlt1
    have j4 := j2.app (s := ⟨gx, gq, gc, ⟨na, gtn, nc, gtx⟩⟩) htl.out o2 hle hlo.out hnew.out hown hgrow (hat.elim (fun h => .inl (by rw [h]; rfl)) (fun h => .inr (by rw [h, World.size_alloc]; rfl)))
    have hown' : ∀ z, (Value.slice va k vc).ownBlock = some z -> wc.heap.size <= z := fun z hz => by have := (j0.own hz).1; have := hw1.out; omega
    have BG : Below wc.heap.size (w2.alloc (.cells #[.int .i64 gx, .int .i64 gq, .int .i64 gc, .slice na gtn nc] 106)) w4 := (Below.refl _ _).grown hgrow T3.size hown'
    have T4 : Touch (fun x => x = X \/ wc.heap.size <= x) wc w4 := T3.trans ((Touch.ofB BG BG.size).mono fun z hz => Or.inr hz)
    have x4 := x3.grew hgrow (fun e => by have := hown' _ e; omega)
    have HS4 : Hid (∀ i, i < k + 1 -> sameQ (kx[i]?.getD noQ) ((ts ++ [⟨gx, gq, gc, ⟨na, gtn, nc, gtx⟩⟩])[i]?.getD noQ)) := fun i hi => by
     by_cases h : i < k
     ·rw [List.getElem?_append_left (by rw [htl.out]; exact h)]; exact HS.out i h
     ·obtain rfl : i = k := by omega
      rw [List.getElem?_append_right (by rw [htl.out]; exact qJ _), htl.out, Nat.sub_self, HT.out]
      exact ⟨rfl, rfl, rfl, rfl, trivial⟩
    refine hK.out _ _ ⟨KP2.out _ T4, fun _ => x4.cell 4⟩ ?_
    clear hK K hown hgrow hat j3 j2 j0 o2 ho x0 x2 x3 T0 T2 T3 BG A
    refine wo1 10 rfl fun K hK => ?_
    go_simp
    refine hK.out _ _ ⟨KP2.out _ T4, fun h => absurd (show true = false from h) (by decide)⟩ ?_
    have y4 := x4.cell 4
    have z4 := x4.free 4
    simp only [qF, qG] at y4
    have T5 : Touch (fun x => x = X \/ wc.heap.size <= x) wc (w4.setCell ⟨X, 4, none⟩ (.slice (some ⟨g, 0, none⟩) (k + 1) cp)) := T4.setCell (Or.inl rfl) _
    have x5 := x4.set 4 (.slice (some ⟨g, 0, none⟩) (k + 1) cp)
    simp only [qB, qC] at x5
    have j5 := j4.setLow (X := X) (by have := hw1.out; omega) x4 4 (.slice (some ⟨g, 0, none⟩) (k + 1) cp)
    refine wo1 11 rfl fun K hK => ?_
    go_simp
    refine hK.out _ _ ⟨KP2.out _ T5, fun h => absurd (show true = false from h) (by decide)⟩ ?_
    refine wod ?_ _
    clear j4 x4 T4 y4 z4
    go_wp2
    go_roundw
    case rel => exact ⟨k + 1, _, _, _, _, by omega, by go_num, by show _ = _; rw [qI, htl.out]; rfl, by show _ = _; rw [size_setCell]; exact hw1.out, j5, T5, x5, HS4⟩
    case measure => simp [intOf]; omega
   ·obtain rfl : k = kn := by omega
    obtain ⟨wl, rfl⟩ : ∃ W, W = wr := ⟨wr, rfl⟩
    obtain ⟨ka, Gk, ck, hkv, QK', hGk, hbk⟩ := j.lies htl.out
    have ev1 : ka = va := by injection hkv with h1 h2 h3; exact h1.symm
    have ev2 : ck = vc := by injection hkv with h1 h2 h3; exact h3.symm
    clear hkv
    subst ev1
    subst ev2
    have HQ : Hid _ := QK'
    have HGK : Hid _ := hGk
    have HBK : Hid _ := hbk
    have szl := T.size
    have KT2 : Hid (∀ W, Touch (fun x => x = X \/ wl.heap.size <= x) wl W -> W.cell? ⟨w.heap.size, 5, none⟩ = some (.slice (some ⟨Bg, 0, none⟩) en ec)) := fun W hT => (KT.out W (T.trans (hT.mono fun z hz => by rcases hz with h | h; exact Or.inl h; exact Or.inr (by omega)))).2
    have KG : Hid (∀ W, Touch (fun x => x = X \/ wl.heap.size <= x) wl W -> ∀ i, i < en -> ∀ r, r < 3 -> W.cell? ⟨Bg, i * 3 + r, none⟩ = (ex[i]?.getD noG).cs[r]?) := fun W hT i hi r hr => by
     obtain ⟨vs, h1, h2, h3⟩ := (Hg.out.below BC).c
     rw [((h1.touch T (fun h => by rcases h with h | h <;> omega)).touch hT (fun h => by rcases h with h | h <;> omega)).cell]
     exact h3 i (by rw [Lg.out]; exact hi) r hr
    have KB2 : Hid (∀ W, Touch (fun x => x = X \/ wl.heap.size <= x) wl W -> ∀ B x, B < w.heap.size -> Blk w B x -> Blk W B x) := fun W hT B x hB hx => KB.out W (T.trans (hT.mono fun z hz => by rcases hz with h | h; exact Or.inl h; exact Or.inr (by omega))) B x hB hx
    have HSL : Hid _ := HS
    have TL : Hid (Touch (fun x => x = X \/ wc.heap.size <= x) wc wl) := T
    clear HS hGk hbk j QK'
    go_wp2_with fail
    go_loopw [5] (fun i wt => ∃ (m : Nat) (gs : List GV) (bg dg : Nat -> Nat) (w2 : World) (gv : Value), m <= en /\ i = .int .i64 m /\ Hid (gs.length = m) /\ Hid (w2.heap.size = wl.heap.size) /\ JGc w2 gv gs bg dg wt /\ Touch (fun x => x = X \/ wl.heap.size <= x) wl wt /\ Cel wt X [.bool u, .int .i64 r, .slice ba bn cb, .slice da dn cd, .slice ka k ck, gv] 47 /\ Hid (∀ i, i < m -> sameG (ex[i]?.getD noG) (gs[i]?.getD noG))) (fun i _ => en - (intOf i).toNat)
    case atStart => exact ⟨0, [], fun _ => 0, fun _ => 0, wl, _, Nat.zero_le _, rfl, rfl, rfl, JGc.nil wl wl (Below.refl _ _) _ _, Touch.refl _ _, xr, fun i hi => by omega⟩
    case round =>
     clear xr c4 c5 T
     obtain ⟨m, gs, bg, dg, w2, gv, hm, rfl, hgl, hw2, j, T2, xr, HS⟩ := hrel
     have c5 := KT2.out _ T2
     obtain ⟨va, vc, rfl⟩ := j.isSlice hgl.out
     by_cases hlt : m < en
     ·have hlt' : (m : Int) < en := by omega
      have hdk := Hg.out.l m (by rw [Lg.out]; exact hlt)
      have hcsW := fun W hT => KG.out W hT m hlt
      generalize HG : ex[m]?.getD noG = g at *
      have HT : Hid (ex[m]?.getD noG = g) := HG
      clear HG
      obtain ⟨gh, ⟨gta, gtn, gtc, gtx⟩, ⟨gua, gun, guc, gux⟩⟩ := g
      obtain ⟨⟨Bl, hBl, _, hblk, hlen, hle⟩, ⟨Bm, hBm, _, hblm, hlem, hlf⟩, -⟩ := hdk
      obtain rfl : gta = some ⟨Bl, 0, none⟩ := hBl
      obtain rfl : gua = some ⟨Bm, 0, none⟩ := hBm
      have hblk : Blk w Bl gtx := hblk
      have hblm : Blk w Bm gux := hblm
      have lBl := hblk.lt
      have lBm := hblm.lt
      have hlen : Hid (gtx.length = gtn) := hlen
      have hle : gtn <= 1048576 := hle
      have hlem : Hid (gux.length = gun) := hlem
      have hlf : gun <= 1048576 := hlf
      have KP2 : Hid (∀ W, Touch (fun x => x = X \/ wl.heap.size <= x) wl W -> W.cell? ⟨w.heap.size, 5, none⟩ = some (.slice (some ⟨Bg, 0, none⟩) en ec) /\ W.cell? ⟨Bg, m * 3, none⟩ = some (.bool gh) /\ W.cell? ⟨Bg, m * 3 + 1, none⟩ = some (.slice (some ⟨Bl, 0, none⟩) gtn gtc) /\ W.cell? ⟨Bg, m * 3 + 2, none⟩ = some (.slice (some ⟨Bm, 0, none⟩) gun guc)) := fun W hT => ⟨KT2.out W hT, cellsG (hcsW W hT)⟩
      clear hcsW
      have T0 : Touch (fun x => x = X \/ wl.heap.size <= x) wl wr.drew := T2.trans (Touch.of (Below.refl _ _).drew)
      have x0 : Cel wr.drew X [.bool u, .int .i64 r, .slice ba bn cb, .slice da dn cd, .slice ka k ck, .slice va m vc] 47 := xr.below (Below.refl _ _).drew
      have j0 := j.below (Below.refl wr.heap.size wr).drew
      have hSS := And.intro (KP2.out _ T0) (x0.cell 5)
      simp only [qF, qG] at hSS
      go_upto_region 9 with fail
      refine wp_region_ends (fun w' => w'.cell? ⟨w.heap.size, 5, none⟩ = some (.slice (some ⟨Bg, 0, none⟩) en ec) /\ w'.cell? ⟨Bg, m * 3, none⟩ = some (.bool gh) /\ w'.cell? ⟨Bg, m * 3 + 1, none⟩ = some (.slice (some ⟨Bl, 0, none⟩) gtn gtc) /\ w'.cell? ⟨Bg, m * 3 + 2, none⟩ = some (.slice (some ⟨Bm, 0, none⟩) gun guc)) (fun w' => w'.cell? ⟨X, 5, none⟩ = some (.slice va m vc)) 27 (by kernel_rfl) ?_
      obtain ⟨V0, hV0⟩ : ∃ V, V = wr.drew := ⟨_, rfl⟩
      rw [<- hV0] at hSS T0 x0 j0 ⊢
      clear hV0 j T2 xr c5
      have hszw : wl.heap.size <= V0.heap.size := T0.size
      refine tkl 0 rfl hSS ?_
      refine tkM (i := 1) rfl rfl hSS ?_
      refine tkl 2 rfl hSS ?_
      refine tkl 3 rfl hSS ?_
      refine tkl 4 rfl hSS ?_
      refine tkl 5 rfl hSS ?_
      refine tkl 6 rfl hSS ?_
      refine tkl 7 rfl hSS ?_
      refine tkl 9 rfl hSS ?_
      refine tkl 10 rfl hSS ?_
      refine tkl 11 rfl hSS ?_
      refine tkl 12 rfl hSS ?_
      refine tkl 13 rfl hSS ?_
      refine tkl 14 rfl hSS ?_
      refine tkl 17 rfl hSS ?_
      refine tkl 18 rfl hSS ?_
      refine tkl 19 rfl hSS ?_
      refine tkl 20 rfl hSS ?_
      refine tkl 21 rfl hSS ?_
      refine tkl 22 rfl hSS ?_
      clear hSS
      (try simp only [Act.put, qA, qC, qB, qH, qE, qD])
      have b00 : Below V0.heap.size V0 V0 := Below.refl _ _
      have sX0 := x0.lt
      refine wo2 8 16 rfl rfl (fun K hK => ?_) fun K hK => ?_
      ·skip
       go_simp
       obtain ⟨Y1, hY1⟩ : ∃ W, W = V0.alloc (.cells #[] 3) := ⟨_, rfl⟩
       have AY1 : Below V0.heap.size V0 Y1 := by rw [hY1]; exact bal
       have hL1 := (JA.lit V0).o
       have sL1 : V0.heap.size < Y1.heap.size := by rw [hY1]; simp
       rw [<- hY1] at hL1
       have TY1 : Touch (fun x => x = X \/ wl.heap.size <= x) wl Y1 := T0.trans (Touch.of AY1)
       have xY1 := x0.below AY1
       have jY1 := j0.below AY1
       rw [<- hY1]
       refine hK.out _ _ ⟨KP2.out _ TY1, fun _ => xY1.cell 5⟩ ?_
       clear hK K hY1
       have b0Y1 : Below V0.heap.size V0 Y1 := btq b00 AY1
       refine wo2 15 16 rfl rfl (fun K hK => ?_) fun K hK => ?_
       ·skip
        rw [if_pos (by rfl)]
        refine wp_copyI (.tmp 51) (.tmp 57) rfl V0.heap.size V0.heap.size Bl gtn gtc gtx (by rfl) hL1 (by rfl) (KB2.out _ TY1 _ _ lBl hblk) hlen.out hle (by omega) (qJ _) ?_
        intro na nc nB Y2 hBY2 tY2 o1 g1
        have sY2 := tY2.size
        have lo1 : 0 < gtn -> nB < Y2.heap.size := fun h0 => o1.lt h0
        have TY2 : Touch (fun x => x = X \/ wl.heap.size <= x) wl Y2 := TY1.trans (tY2.mono fun z hz => Or.inr (by have hz : z = V0.heap.size := hz; omega))
        have xY2 := xY1.touch tY2 (fun e => by have e : X = V0.heap.size := e; omega)
        have t0Y2 : Below V0.heap.size V0 Y2 := b0Y1.trans (hBY2.mono (by omega))
        have jY2 := j0.below (t0Y2)
        refine hK.out _ _ ⟨KP2.out _ TY2, fun _ => xY2.cell 5⟩ ?_
        refine wo1 16 rfl fun K hK => ?_
        go_simp
        obtain ⟨Y3, hY3⟩ : ∃ W, W = Y2.alloc (.cells #[] 3) := ⟨_, rfl⟩
        have AY3 : Below Y2.heap.size Y2 Y3 := by rw [hY3]; exact bal
        have hL2 := (JA.lit Y2).o
        have sL2 : Y2.heap.size < Y3.heap.size := by rw [hY3]; simp
        rw [<- hY3] at hL2
        have TY3 : Touch (fun x => x = X \/ wl.heap.size <= x) wl Y3 := TY2.trans (Touch.of AY3)
        have xY3 := xY2.below AY3
        have jY3 := jY2.below AY3
        have o1 := o1.below AY3
        rw [<- hY3]
        refine hK.out _ _ ⟨KP2.out _ TY3, fun _ => xY3.cell 5⟩ ?_
        clear hK K hY3
        have b0Y3 : Below V0.heap.size V0 Y3 := btq t0Y2 AY3
        refine wo1 23 rfl fun K hK => ?_
        rw [if_pos (by rfl)]
        refine wp_copyI (.tmp 59) (.tmp 65) rfl Y2.heap.size Y2.heap.size Bm gun guc gux (by rfl) hL2 (by rfl) (KB2.out _ TY3 _ _ lBm hblm) hlem.out hlf (by omega) (qJ _) ?_
        intro ma mc mB Y4 hBY4 tY4 o2 g2
        have sY4 := tY4.size
        have lo2 : 0 < gun -> mB < Y4.heap.size := fun h0 => o2.lt h0
        have TY4 : Touch (fun x => x = X \/ wl.heap.size <= x) wl Y4 := TY3.trans (tY4.mono fun z hz => Or.inr (by have hz : z = Y2.heap.size := hz; omega))
        have xY4 := xY3.touch tY4 (fun e => by have e : X = Y2.heap.size := e; omega)
        have t0Y4 : Below V0.heap.size V0 Y4 := b0Y3.trans (hBY4.mono (by omega))
        have jY4 := j0.below (t0Y4)
        have o1 := o1.touch tY4 (fun h0 e => by have e : nB = Y2.heap.size := e; have := g1 h0; have := lo1 h0; omega)
        refine hK.out _ _ ⟨KP2.out _ TY4, fun _ => xY4.cell 5⟩ ?_
        have w3e : V0.heap.size <= Y4.heap.size := t0Y4.size
        have hAC : Hid (0 < gtn -> 0 < gun -> nB ≠ mB) := fun h0 h1 => by
         have h2 := g1 h0
         have h3 := g2 h1
         have h4 := lo1 h0
         omega
        obtain ⟨hnew, hnewC, hlo, hloC⟩ := j0.fresh (a := gtn) (b := gun) (x := nB) (y := mB) hgl.out (by have := hw2.out; omega) (fun h0 => by have := g1 h0; omega) (fun h0 => by have := g2 h0; omega)
        refine wo1 24 rfl fun K hK => ?_
        go_simp
        refine hK.out _ _ ⟨KP2.out _ TY4, fun _ => xY4.cell 5⟩ ?_
        have A : Below Y4.heap.size Y4 (Y4.alloc (.cells #[.bool gh, .slice na gtn nc, .slice ma gun mc] 222)) := bal
        have T3 : Touch (fun x => x = X \/ wl.heap.size <= x) wl (Y4.alloc (.cells #[.bool gh, .slice na gtn nc, .slice ma gun mc] 222)) := TY4.trans (Touch.of A)
        have x3 := xY4.below A
        have j3 := jY4.below A
        have ho : (Y4.alloc (.cells #[.bool gh, .slice na gtn nc, .slice ma gun mc] 222)).ownsRow w2.heap.size 222 3 (.slice va m vc) m (gs.flatMap GV.cs) := by
         have := j3.o
         rw [hgl.out] at this
         exact this
        have hs5 := j3.b.size
        refine wo1 25 rfl fun K hK => ?_
        go_simp
        refine hK.out _ _ ⟨KP2.out _ T3, fun _ => x3.cell 5⟩ ?_
        refine wo1 26 rfl fun K hK => ?_
        rw [if_pos (by rfl)]
        refine wp_append_lies _ (.tmp 44) (.tmp 68) 45 rfl w2.heap.size 222 zj _ 3 56 Tryz.underlying45 hj hy0 hy1 hy2 rfl (by omega) (.slice va m vc) m (gs.flatMap GV.cs) (by rfl) ho ⟨Y4.heap.size, 0, none⟩ 1 1 [.bool gh, .slice na gtn nc, .slice ma gun mc] (by rfl) (by rfl) (World.news_of_block (cs := #[.bool gh, .slice na gtn nc, .slice ma gun mc]) (t := 222) (fr := (0, 0)) (heap_alloc_new Y4 _)) (by simp [Value.oneCell']) (by omega) (by unfold maxLen; omega) (by omega) hs5 (Y4.heap.size + 1) (by rw [World.size_alloc]) ?_
        intro g cp w4 hown hgrow hat hlt1
        have j4 := jY4.app (s := ⟨gh, ⟨na, gtn, nc, gtx⟩, ⟨ma, gun, mc, gux⟩⟩) hgl.out o1 hle hlo.out o2 hlf hloC.out hAC.out hnew.out hnewC.out hown hgrow (hat.elim (fun h => .inl (by rw [h]; rfl)) (fun h => .inr (by rw [h, World.size_alloc]; rfl)))
        have hown' : ∀ z, (Value.slice va m vc).ownBlock = some z -> wl.heap.size <= z := fun z hz => by have := (j0.own hz).1; have := hw2.out; omega
        have BG : Below wl.heap.size (Y4.alloc (.cells #[.bool gh, .slice na gtn nc, .slice ma gun mc] 222)) w4 := (Below.refl _ _).grown hgrow T3.size hown'
        have T4 : Touch (fun x => x = X \/ wl.heap.size <= x) wl w4 := T3.trans ((Touch.ofB BG BG.size).mono fun z hz => Or.inr hz)
        have x4 := x3.grew hgrow (fun e => by have := hown' _ e; omega)
        have HS4 : Hid _ := sameG_app (s := ⟨gh, ⟨na, gtn, nc, gtx⟩, ⟨ma, gun, mc, gux⟩⟩) hgl.out HS.out (by rw [HT.out]; exact ⟨rfl, rfl, rfl, trivial⟩)
        refine hK.out _ _ ⟨KP2.out _ T4, fun _ => x4.cell 5⟩ ?_
        clear hK K hown hgrow hat j3 j0 ho x0 x3 T0 T3 BG A
        refine wo1 27 rfl fun K hK => ?_
        go_simp
        refine hK.out _ _ ⟨KP2.out _ T4, fun h => absurd (show true = false from h) (by decide)⟩ ?_
        have y5 := x4.cell 5
        have z5 := x4.free 5
        simp only [qF, qG] at y5
        have T5 : Touch (fun x => x = X \/ wl.heap.size <= x) wl (w4.setCell ⟨X, 5, none⟩ (.slice (some ⟨g, 0, none⟩) (m + 1) cp)) := T4.setCell (Or.inl rfl) _
        have x5 := x4.set 5 (.slice (some ⟨g, 0, none⟩) (m + 1) cp)
        simp only [qB, qC] at x5
        have j5 := j4.setLow (X := X) (by have := hw2.out; omega) x4 5 (.slice (some ⟨g, 0, none⟩) (m + 1) cp)
        refine wo1 28 rfl fun K hK => ?_
        go_simp
        refine hK.out _ _ ⟨KP2.out _ T5, fun h => absurd (show true = false from h) (by decide)⟩ ?_
        refine wod ?_ _
        clear j4 x4 T4 y5 z5
        go_wp2
        go_roundw
        case rel => exact ⟨m + 1, _, _, _, _, _, by omega, by go_num, by show _ = _; rw [qI, hgl.out]; rfl, by show _ = _; rw [size_setCell]; exact hw2.out, j5, T5, x5, HS4⟩
        case measure => simp [intOf]; omega
       ·skip
        go_simp
        obtain ⟨Y5, hY5⟩ : ∃ W, W = Y1.alloc (.cells #[] 3) := ⟨_, rfl⟩
        have AY5 : Below Y1.heap.size Y1 Y5 := by rw [hY5]; exact bal
        have hL2 := (JA.lit Y1).o
        have sL2 : Y1.heap.size < Y5.heap.size := by rw [hY5]; simp
        rw [<- hY5] at hL2
        have TY5 : Touch (fun x => x = X \/ wl.heap.size <= x) wl Y5 := TY1.trans (Touch.of AY5)
        have xY5 := xY1.below AY5
        have jY5 := jY1.below AY5
        have hL1 := own_below hL1 AY5
        rw [<- hY5]
        refine hK.out _ _ ⟨KP2.out _ TY5, fun _ => xY5.cell 5⟩ ?_
        clear hK K hY5
        have b0Y5 : Below V0.heap.size V0 Y5 := btq b0Y1 AY5
        refine wo1 15 rfl fun K hK => ?_
        rw [if_pos (by rfl)]
        refine wp_copyI (.tmp 51) (.tmp 57) rfl V0.heap.size V0.heap.size Bl gtn gtc gtx (by rfl) hL1 (by rfl) (KB2.out _ TY5 _ _ lBl hblk) hlen.out hle (by omega) (qJ _) ?_
        intro na nc nB Y6 hBY6 tY6 o1 g1
        have sY6 := tY6.size
        have lo1 : 0 < gtn -> nB < Y6.heap.size := fun h0 => o1.lt h0
        have TY6 : Touch (fun x => x = X \/ wl.heap.size <= x) wl Y6 := TY5.trans (tY6.mono fun z hz => Or.inr (by have hz : z = V0.heap.size := hz; omega))
        have xY6 := xY5.touch tY6 (fun e => by have e : X = V0.heap.size := e; omega)
        have t0Y6 : Below V0.heap.size V0 Y6 := b0Y5.trans (hBY6.mono (by omega))
        have jY6 := j0.below (t0Y6)
        have hL2 := own_keep hL2 tY6 (fun g hg e => by have e : g = V0.heap.size := e; simp only [Value.ownBlock, Option.some.injEq] at hg; omega)
        refine hK.out _ _ ⟨KP2.out _ TY6, fun _ => xY6.cell 5⟩ ?_
        refine wo1 23 rfl fun K hK => ?_
        rw [if_pos (by rfl)]
        refine wp_copyI (.tmp 59) (.tmp 65) rfl Y1.heap.size Y1.heap.size Bm gun guc gux (by rfl) hL2 (by rfl) (KB2.out _ TY6 _ _ lBm hblm) hlem.out hlf (by omega) (qJ _) ?_
        intro ma mc mB Y7 hBY7 tY7 o2 g2
        have sY7 := tY7.size
        have lo2 : 0 < gun -> mB < Y7.heap.size := fun h0 => o2.lt h0
        have TY7 : Touch (fun x => x = X \/ wl.heap.size <= x) wl Y7 := TY6.trans (tY7.mono fun z hz => Or.inr (by have hz : z = Y1.heap.size := hz; omega))
        have xY7 := xY6.touch tY7 (fun e => by have e : X = Y1.heap.size := e; omega)
        have t0Y7 : Below V0.heap.size V0 Y7 := t0Y6.trans (hBY7.mono (by omega))
        have jY7 := j0.below (t0Y7)
        have o1 := o1.touch tY7 (fun h0 e => by have e : nB = Y1.heap.size := e; have := g1 h0; have := lo1 h0; omega)
        refine hK.out _ _ ⟨KP2.out _ TY7, fun _ => xY7.cell 5⟩ ?_
        have w3e : V0.heap.size <= Y7.heap.size := t0Y7.size
        have hAC : Hid (0 < gtn -> 0 < gun -> nB ≠ mB) := fun h0 h1 => by
         have h2 := g1 h0
         have h3 := g2 h1
         have h4 := lo1 h0
         omega
        obtain ⟨hnew, hnewC, hlo, hloC⟩ := j0.fresh (a := gtn) (b := gun) (x := nB) (y := mB) hgl.out (by have := hw2.out; omega) (fun h0 => by have := g1 h0; omega) (fun h0 => by have := g2 h0; omega)
        refine wo1 24 rfl fun K hK => ?_
        go_simp
        refine hK.out _ _ ⟨KP2.out _ TY7, fun _ => xY7.cell 5⟩ ?_
        have A : Below Y7.heap.size Y7 (Y7.alloc (.cells #[.bool gh, .slice na gtn nc, .slice ma gun mc] 222)) := bal
        have T3 : Touch (fun x => x = X \/ wl.heap.size <= x) wl (Y7.alloc (.cells #[.bool gh, .slice na gtn nc, .slice ma gun mc] 222)) := TY7.trans (Touch.of A)
        have x3 := xY7.below A
        have j3 := jY7.below A
        have ho : (Y7.alloc (.cells #[.bool gh, .slice na gtn nc, .slice ma gun mc] 222)).ownsRow w2.heap.size 222 3 (.slice va m vc) m (gs.flatMap GV.cs) := by
         have := j3.o
         rw [hgl.out] at this
         exact this
        have hs5 := j3.b.size
        refine wo1 25 rfl fun K hK => ?_
        go_simp
        refine hK.out _ _ ⟨KP2.out _ T3, fun _ => x3.cell 5⟩ ?_
        refine wo1 26 rfl fun K hK => ?_
        rw [if_pos (by rfl)]
        refine wp_append_lies _ (.tmp 44) (.tmp 68) 45 rfl w2.heap.size 222 zj _ 3 56 Tryz.underlying45 hj hy0 hy1 hy2 rfl (by omega) (.slice va m vc) m (gs.flatMap GV.cs) (by rfl) ho ⟨Y7.heap.size, 0, none⟩ 1 1 [.bool gh, .slice na gtn nc, .slice ma gun mc] (by rfl) (by rfl) (World.news_of_block (cs := #[.bool gh, .slice na gtn nc, .slice ma gun mc]) (t := 222) (fr := (0, 0)) (heap_alloc_new Y7 _)) (by simp [Value.oneCell']) (by omega) (by unfold maxLen; omega) (by omega) hs5 (Y7.heap.size + 1) (by rw [World.size_alloc]) ?_
        intro g cp w4 hown hgrow hat hlt1
        have j4 := jY7.app (s := ⟨gh, ⟨na, gtn, nc, gtx⟩, ⟨ma, gun, mc, gux⟩⟩) hgl.out o1 hle hlo.out o2 hlf hloC.out hAC.out hnew.out hnewC.out hown hgrow (hat.elim (fun h => .inl (by rw [h]; rfl)) (fun h => .inr (by rw [h, World.size_alloc]; rfl)))
        have hown' : ∀ z, (Value.slice va m vc).ownBlock = some z -> wl.heap.size <= z := fun z hz => by have := (j0.own hz).1; have := hw2.out; omega
        have BG : Below wl.heap.size (Y7.alloc (.cells #[.bool gh, .slice na gtn nc, .slice ma gun mc] 222)) w4 := (Below.refl _ _).grown hgrow T3.size hown'
        have T4 : Touch (fun x => x = X \/ wl.heap.size <= x) wl w4 := T3.trans ((Touch.ofB BG BG.size).mono fun z hz => Or.inr hz)
        have x4 := x3.grew hgrow (fun e => by have := hown' _ e; omega)
        have HS4 : Hid _ := sameG_app (s := ⟨gh, ⟨na, gtn, nc, gtx⟩, ⟨ma, gun, mc, gux⟩⟩) hgl.out HS.out (by rw [HT.out]; exact ⟨rfl, rfl, rfl, trivial⟩)
        refine hK.out _ _ ⟨KP2.out _ T4, fun _ => x4.cell 5⟩ ?_
        clear hK K hown hgrow hat j3 j0 ho x0 x3 T0 T3 BG A
        refine wo1 27 rfl fun K hK => ?_
        go_simp
        refine hK.out _ _ ⟨KP2.out _ T4, fun h => absurd (show true = false from h) (by decide)⟩ ?_
        have y5 := x4.cell 5
        have z5 := x4.free 5
        simp only [qF, qG] at y5
        have T5 : Touch (fun x => x = X \/ wl.heap.size <= x) wl (w4.setCell ⟨X, 5, none⟩ (.slice (some ⟨g, 0, none⟩) (m + 1) cp)) := T4.setCell (Or.inl rfl) _
        have x5 := x4.set 5 (.slice (some ⟨g, 0, none⟩) (m + 1) cp)
        simp only [qB, qC] at x5
        have j5 := j4.setLow (X := X) (by have := hw2.out; omega) x4 5 (.slice (some ⟨g, 0, none⟩) (m + 1) cp)
        refine wo1 28 rfl fun K hK => ?_
        go_simp
        refine hK.out _ _ ⟨KP2.out _ T5, fun h => absurd (show true = false from h) (by decide)⟩ ?_
        refine wod ?_ _
        clear j4 x4 T4 y5 z5
        go_wp2
        go_roundw
        case rel => exact ⟨m + 1, _, _, _, _, _, by omega, by go_num, by show _ = _; rw [qI, hgl.out]; rfl, by show _ = _; rw [size_setCell]; exact hw2.out, j5, T5, x5, HS4⟩
        case measure => simp [intOf]; omega
      ·skip
       go_simp
       obtain ⟨Y8, hY8⟩ : ∃ W, W = V0.alloc (.cells #[] 3) := ⟨_, rfl⟩
       have AY8 : Below V0.heap.size V0 Y8 := by rw [hY8]; exact bal
       have hL2 := (JA.lit V0).o
       have sL2 : V0.heap.size < Y8.heap.size := by rw [hY8]; simp
       rw [<- hY8] at hL2
       have TY8 : Touch (fun x => x = X \/ wl.heap.size <= x) wl Y8 := T0.trans (Touch.of AY8)
       have xY8 := x0.below AY8
       have jY8 := j0.below AY8
       rw [<- hY8]
       refine hK.out _ _ ⟨KP2.out _ TY8, fun _ => xY8.cell 5⟩ ?_
       clear hK K hY8
       have b0Y8 : Below V0.heap.size V0 Y8 := btq b00 AY8
       refine wo1 8 rfl fun K hK => ?_
       go_simp
       obtain ⟨Y9, hY9⟩ : ∃ W, W = Y8.alloc (.cells #[] 3) := ⟨_, rfl⟩
       have AY9 : Below Y8.heap.size Y8 Y9 := by rw [hY9]; exact bal
       have hL1 := (JA.lit Y8).o
       have sL1 : Y8.heap.size < Y9.heap.size := by rw [hY9]; simp
       rw [<- hY9] at hL1
       have TY9 : Touch (fun x => x = X \/ wl.heap.size <= x) wl Y9 := TY8.trans (Touch.of AY9)
       have xY9 := xY8.below AY9
       have jY9 := jY8.below AY9
       have hL2 := own_below hL2 AY9
       rw [<- hY9]
       refine hK.out _ _ ⟨KP2.out _ TY9, fun _ => xY9.cell 5⟩ ?_
       clear hK K hY9
       have b0Y9 : Below V0.heap.size V0 Y9 := btq b0Y8 AY9
       refine wo1 15 rfl fun K hK => ?_
       rw [if_pos (by rfl)]
       refine wp_copyI (.tmp 51) (.tmp 57) rfl Y8.heap.size Y8.heap.size Bl gtn gtc gtx (by rfl) hL1 (by rfl) (KB2.out _ TY9 _ _ lBl hblk) hlen.out hle (by omega) (qJ _) ?_
       intro na nc nB Y10 hBY10 tY10 o1 g1
       have sY10 := tY10.size
       have lo1 : 0 < gtn -> nB < Y10.heap.size := fun h0 => o1.lt h0
       have TY10 : Touch (fun x => x = X \/ wl.heap.size <= x) wl Y10 := TY9.trans (tY10.mono fun z hz => Or.inr (by have hz : z = Y8.heap.size := hz; omega))
       have xY10 := xY9.touch tY10 (fun e => by have e : X = Y8.heap.size := e; omega)
       have t0Y10 : Below V0.heap.size V0 Y10 := b0Y9.trans (hBY10.mono (by omega))
       have jY10 := j0.below (t0Y10)
       have hL2 := own_keep hL2 tY10 (fun g hg e => by have e : g = Y8.heap.size := e; simp only [Value.ownBlock, Option.some.injEq] at hg; omega)
       refine hK.out _ _ ⟨KP2.out _ TY10, fun _ => xY10.cell 5⟩ ?_
       refine wo1 23 rfl fun K hK => ?_
       rw [if_pos (by rfl)]
       refine wp_copyI (.tmp 59) (.tmp 65) rfl V0.heap.size V0.heap.size Bm gun guc gux (by rfl) hL2 (by rfl) (KB2.out _ TY10 _ _ lBm hblm) hlem.out hlf (by omega) (qJ _) ?_
       intro ma mc mB Y11 hBY11 tY11 o2 g2
       have sY11 := tY11.size
       have lo2 : 0 < gun -> mB < Y11.heap.size := fun h0 => o2.lt h0
       have TY11 : Touch (fun x => x = X \/ wl.heap.size <= x) wl Y11 := TY10.trans (tY11.mono fun z hz => Or.inr (by have hz : z = V0.heap.size := hz; omega))
       have xY11 := xY10.touch tY11 (fun e => by have e : X = V0.heap.size := e; omega)
       have t0Y11 : Below V0.heap.size V0 Y11 := t0Y10.trans (hBY11.mono (by omega))
       have jY11 := j0.below (t0Y11)
       have o1 := o1.touch tY11 (fun h0 e => by have e : nB = V0.heap.size := e; have := g1 h0; have := lo1 h0; omega)
       refine hK.out _ _ ⟨KP2.out _ TY11, fun _ => xY11.cell 5⟩ ?_
       have w3e : V0.heap.size <= Y11.heap.size := t0Y11.size
       have hAC : Hid (0 < gtn -> 0 < gun -> nB ≠ mB) := fun h0 h1 => by
        have h2 := g1 h0
        have h3 := g2 h1
        have h4 := lo1 h0
        omega
       obtain ⟨hnew, hnewC, hlo, hloC⟩ := j0.fresh (a := gtn) (b := gun) (x := nB) (y := mB) hgl.out (by have := hw2.out; omega) (fun h0 => by have := g1 h0; omega) (fun h0 => by have := g2 h0; omega)
       refine wo1 24 rfl fun K hK => ?_
       go_simp
       refine hK.out _ _ ⟨KP2.out _ TY11, fun _ => xY11.cell 5⟩ ?_
       have A : Below Y11.heap.size Y11 (Y11.alloc (.cells #[.bool gh, .slice na gtn nc, .slice ma gun mc] 222)) := bal
       have T3 : Touch (fun x => x = X \/ wl.heap.size <= x) wl (Y11.alloc (.cells #[.bool gh, .slice na gtn nc, .slice ma gun mc] 222)) := TY11.trans (Touch.of A)
       have x3 := xY11.below A
       have j3 := jY11.below A
       have ho : (Y11.alloc (.cells #[.bool gh, .slice na gtn nc, .slice ma gun mc] 222)).ownsRow w2.heap.size 222 3 (.slice va m vc) m (gs.flatMap GV.cs) := by
        have := j3.o
        rw [hgl.out] at this
        exact this
       have hs5 := j3.b.size
       refine wo1 25 rfl fun K hK => ?_
       go_simp
       refine hK.out _ _ ⟨KP2.out _ T3, fun _ => x3.cell 5⟩ ?_
       refine wo1 26 rfl fun K hK => ?_
       rw [if_pos (by rfl)]
       refine wp_append_lies _ (.tmp 44) (.tmp 68) 45 rfl w2.heap.size 222 zj _ 3 56 Tryz.underlying45 hj hy0 hy1 hy2 rfl (by omega) (.slice va m vc) m (gs.flatMap GV.cs) (by rfl) ho ⟨Y11.heap.size, 0, none⟩ 1 1 [.bool gh, .slice na gtn nc, .slice ma gun mc] (by rfl) (by rfl) (World.news_of_block (cs := #[.bool gh, .slice na gtn nc, .slice ma gun mc]) (t := 222) (fr := (0, 0)) (heap_alloc_new Y11 _)) (by simp [Value.oneCell']) (by omega) (by unfold maxLen; omega) (by omega) hs5 (Y11.heap.size + 1) (by rw [World.size_alloc]) ?_
       intro g cp w4 hown hgrow hat hlt1
       have j4 := jY11.app (s := ⟨gh, ⟨na, gtn, nc, gtx⟩, ⟨ma, gun, mc, gux⟩⟩) hgl.out o1 hle hlo.out o2 hlf hloC.out hAC.out hnew.out hnewC.out hown hgrow (hat.elim (fun h => .inl (by rw [h]; rfl)) (fun h => .inr (by rw [h, World.size_alloc]; rfl)))
       have hown' : ∀ z, (Value.slice va m vc).ownBlock = some z -> wl.heap.size <= z := fun z hz => by have := (j0.own hz).1; have := hw2.out; omega
       have BG : Below wl.heap.size (Y11.alloc (.cells #[.bool gh, .slice na gtn nc, .slice ma gun mc] 222)) w4 := (Below.refl _ _).grown hgrow T3.size hown'
       have T4 : Touch (fun x => x = X \/ wl.heap.size <= x) wl w4 := T3.trans ((Touch.ofB BG BG.size).mono fun z hz => Or.inr hz)
       have x4 := x3.grew hgrow (fun e => by have := hown' _ e; omega)
       have HS4 : Hid _ := sameG_app (s := ⟨gh, ⟨na, gtn, nc, gtx⟩, ⟨ma, gun, mc, gux⟩⟩) hgl.out HS.out (by rw [HT.out]; exact ⟨rfl, rfl, rfl, trivial⟩)
       refine hK.out _ _ ⟨KP2.out _ T4, fun _ => x4.cell 5⟩ ?_
       clear hK K hown hgrow hat j3 j0 ho x0 x3 T0 T3 BG A
       refine wo1 27 rfl fun K hK => ?_
       go_simp
       refine hK.out _ _ ⟨KP2.out _ T4, fun h => absurd (show true = false from h) (by decide)⟩ ?_
       have y5 := x4.cell 5
       have z5 := x4.free 5
       simp only [qF, qG] at y5
       have T5 : Touch (fun x => x = X \/ wl.heap.size <= x) wl (w4.setCell ⟨X, 5, none⟩ (.slice (some ⟨g, 0, none⟩) (m + 1) cp)) := T4.setCell (Or.inl rfl) _
       have x5 := x4.set 5 (.slice (some ⟨g, 0, none⟩) (m + 1) cp)
       simp only [qB, qC] at x5
       have j5 := j4.setLow (X := X) (by have := hw2.out; omega) x4 5 (.slice (some ⟨g, 0, none⟩) (m + 1) cp)
       refine wo1 28 rfl fun K hK => ?_
       go_simp
       refine hK.out _ _ ⟨KP2.out _ T5, fun h => absurd (show true = false from h) (by decide)⟩ ?_
       refine wod ?_ _
       clear j4 x4 T4 y5 z5
       go_wp2
       go_roundw
       case rel => exact ⟨m + 1, _, _, _, _, _, by omega, by go_num, by show _ = _; rw [qI, hgl.out]; rfl, by show _ = _; rw [size_setCell]; exact hw2.out, j5, T5, x5, HS4⟩
       case measure => simp [intOf]; omega
     ·obtain rfl : m = en := by omega
      obtain ⟨ea, Ge, cg, hgv, GE, hGe, hbe, hde⟩ := j.lies hgl.out
      have ev1 : ea = va := by injection hgv with h1 h2 h3; exact h1.symm
      have ev2 : cg = vc := by injection hgv with h1 h2 h3; exact h3.symm
      clear hgv
      subst ev1
      subst ev2
      have TLo := TL.out
      have rr := (rc.touch TLo (fun h => by rcases h with h | h <;> omega)).touch T2 (fun h => by rcases h with h | h <;> omega)
      have lrr := rr.lt
      obtain ⟨q0, q1, q2, q3, q4, q5⟩ := rr.sixP
      have z0 := rr.free 0
      have z1 := rr.free 1
      have z2 := rr.free 2
      have z3 := rr.free 3
      have z4 := rr.free 4
      have z5 := rr.free 5
      obtain ⟨y0, y1, y2, y3, y4, y5⟩ := xr.sixP
      have rS := (((((rr.set 0 (.bool u)).set 1 (.int .i64 r)).set 2 (.slice ba bn cb)).set 3 (.slice da dn cd)).set 4 (.slice ka k ck)).set 5 (.slice ea m cg)
      simp only [qB, qC] at rS
      have TF : Touch (fun z => z = w.heap.size + 1) wr ((((((wr.setCell ⟨w.heap.size + 1, 0, none⟩ (.bool u)).setCell ⟨w.heap.size + 1, 1, none⟩ (.int .i64 r)).setCell ⟨w.heap.size + 1, 2, none⟩ (.slice ba bn cb)).setCell ⟨w.heap.size + 1, 3, none⟩ (.slice da dn cd)).setCell ⟨w.heap.size + 1, 4, none⟩ (.slice ka k ck)).setCell ⟨w.heap.size + 1, 5, none⟩ (.slice ea m cg)) := ((((((Touch.refl (fun z => z = w.heap.size + 1) wr).setCell rfl _).setCell rfl _).setCell rfl _).setCell rfl _).setCell rfl _).setCell rfl _
      have HF : Hid (∃ W, W = ((((((wr.setCell ⟨w.heap.size + 1, 0, none⟩ (.bool u)).setCell ⟨w.heap.size + 1, 1, none⟩ (.int .i64 r)).setCell ⟨w.heap.size + 1, 2, none⟩ (.slice ba bn cb)).setCell ⟨w.heap.size + 1, 3, none⟩ (.slice da dn cd)).setCell ⟨w.heap.size + 1, 4, none⟩ (.slice ka k ck)).setCell ⟨w.heap.size + 1, 5, none⟩ (.slice ea m cg)) /\ Touch (fun z => z = w.heap.size + 1) wr W) := ⟨_, rfl, TF⟩
      obtain ⟨WZ, hWZ, TZ⟩ := HF.out
      obtain ⟨f0, f1, f2, f3, f4, f5⟩ := rS.sixP
      have sZ := TZ.size
      have sT := T2.size
      have SC := HSC.out
      have BZ : Below w.heap.size w WZ := ((BC.trans (TLo.below (by omega) (fun z hz => by rcases hz with h | h <;> omega))).trans (T2.below (by omega) (fun z hz => by rcases hz with h | h <;> omega))).trans (TZ.below (by omega) (fun z hz => by have hz : z = w.heap.size + 1 := hz; omega))
      have oZ := ((SC.o.touch TLo (fun h0 h => by have := SC.hB h0; have := SC.o.lt h0; rcases h with h | h <;> omega)).touch T2 (fun h0 h => by have := SC.hB h0; have := SC.o.lt h0; rcases h with h | h <;> omega)).touch TZ (fun h0 h => by have h : Bq = w.heap.size + 1 := h; have := SC.hB h0; omega)
      have dZ := ((SC.d.touch TLo (fun h0 h => by have := SC.hG h0; have := SC.d.lt h0; rcases h with h | h <;> omega) (fun i hi h0 h => by have := SC.hb i hi h0; have := (SC.d.l i hi).1.lt h0; rcases h with h | h <;> omega)).touch T2 (fun h0 h => by have := SC.hG h0; have := SC.d.lt h0; rcases h with h | h <;> omega) (fun i hi h0 h => by have := SC.hb i hi h0; have := (SC.d.l i hi).1.lt h0; rcases h with h | h <;> omega)).touch TZ (fun h0 h => by have h : G = w.heap.size + 1 := h; have := SC.hG h0; omega) (fun i hi h0 h => by have h : bs i = w.heap.size + 1 := h; have := SC.hb i hi h0; omega)
      have hw1o := hw1.out
      have hw2o := hw2.out
      have kZ := (HQ.out.touch T2 (fun h0 h => by have := HGK.out h0; have := HQ.out.lt h0; rcases h with h | h <;> omega) (fun i hi h0 h => by have := HBK.out i hi h0; have := (HQ.out.l i hi).1.lt h0; rcases h with h | h <;> omega)).touch TZ (fun h0 h => by have h : Gk = w.heap.size + 1 := h; have := HGK.out h0; omega) (fun i hi h0 h => by have h : bq i = w.heap.size + 1 := h; have := HBK.out i hi h0; omega)
      have gZ := GE.touch TZ (fun h0 h => by have h : Ge = w.heap.size + 1 := h; have := hGe h0; omega) (fun i hi h0 h => by have h : bg i = w.heap.size + 1 := h; have := hbe i hi h0; omega) (fun i hi h0 h => by have h : dg i = w.heap.size + 1 := h; have := hde i hi h0; omega)
      have CK : Hid (∀ (S : Nat -> Prop) (W : World), Touch S WZ W -> (∀ x, S x -> x < w.heap.size \/ WZ.heap.size <= x) -> CkAt W ba bn bx da dn ds ka k ts ea m gs) := fun S W hT hS =>
       ⟨(oZ.touch hT (fun h0 h => by have := hS _ h; have := SC.hB h0; have := oZ.lt h0; omega)).ints, zb,
         (dZ.touch hT (fun h0 h => by have := hS _ h; have := SC.hG h0; have := dZ.lt h0; omega) (fun i hi h0 h => by have := hS _ h; have := SC.hb i hi h0; have := (dZ.l i hi).1.lt h0; omega)).sg SC.l, SC.l, zd,
         (kZ.touch hT (fun h0 h => by have := hS _ h; have := HGK.out h0; have := kZ.lt h0; omega) (fun i hi h0 h => by have := hS _ h; have := HBK.out i hi h0; have := (kZ.l i hi).1.lt h0; omega)).sg htl.out, htl.out, zk,
         (gZ.touch hT (fun h0 h => by have := hS _ h; have := hGe h0; have := gZ.lt h0; omega) (fun i hi h0 h => by have := hS _ h; have := hbe i hi h0; have := (gZ.l i hi).1.lt h0; omega) (fun i hi h0 h => by have := hS _ h; have := hde i hi h0; have := (gZ.u i hi).1.lt h0; omega)).sg hgl.out, hgl.out, zg⟩
      rw [hWZ] at CK BZ
      clear oZ dZ kZ gZ SC TZ hWZ TF HF GE hGe hbe hde rS rr xr T2 TLo j
      go_wp2
      refine bodyPost_ret (v := ckV u r ba bn cb da dn cd ka k ck ea m cg) (by simp [results, Tryz.results163, go_sem, f0, f1, f2, f3, f4, f5]) rfl ⟨ba, cb, da, cd, ds, ka, ck, ts, ea, cg, gs, rfl, BZ, CK.out, HSM.out, HSL.out, HS.out⟩
end Go.Proofs.YtacfoeekmcnpjaaGreatDoor
