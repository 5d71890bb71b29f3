/-
  For all plans FnExactPlnPrint returns true, and the plan reads behind the call as it did. The library's tables that are listed are as its text lays them; no other condition.
-/
import Derived.Test.YtmhhphpihnkfpaaDoorJExactPlnPrintCardA
import Derived.Test.YtmhhphpihnkfpaaDoorJExactPlnPrintCardB
import Derived.Test.YtmhhphpihnkfpaaDoorPlan
import Derived.Test.YtmhhphpihnkfpaaDoorTie
import Derived.Test.YtmhhphpihnkfpaaDoorCards
import Derived.Stop.LaidErr
import Derived.Lib.LaidTab
import Derived.LaidMore
import Derived.Lay
import Derived.SevenTiedAt
import Derived.Stop.Joined
namespace Go.Proofs.YtmhhphpihnkfpaaDoor.fnExactPlnPrint
open Go.ChangeShapes Go.WideShapes Go.ChangeAt Go.RowKit Go.Deep
set_option linter.unusedVariables false
set_option maxRecDepth 100000

theorem acts_copy {s t : L2V} (h : copiesL2 s t) : actTs t = actTs s := by
  obtain ⟨_, h1, h2⟩ := h
  have e : t.x.map lineT = s.x.map lineT := by
    apply List.ext_getElem?
    intro i
    by_cases hi : i < t.x.length
    · obtain ⟨a1, a2, a3, a4, a5, a6, _, _⟩ := h2 i hi
      rw [List.getElem?_map, List.getElem?_map, List.getElem?_eq_getElem hi, List.getElem?_eq_getElem (by omega)]
      rw [List.getElem?_eq_getElem hi, List.getElem?_eq_getElem (by omega)] at a1 a2 a3 a4 a5 a6
      simp only [Option.getD_some] at a1 a2 a3 a4 a5 a6
      simp only [Option.map_some, lineT, a1, a2, a3, a4, a5, a6]
    · rw [List.getElem?_eq_none (by rw [List.length_map]; omega), List.getElem?_eq_none (by rw [List.length_map]; omega)]
  rw [actTs, actTs, e]
theorem body_copy {ss ts : List L2V} (hl : ts.length = ss.length) (h : copiesL2S ss ts) : bodyT ts = bodyT ss := by
  have e : ts.map actTs = ss.map actTs := by
    apply List.ext_getElem?
    intro i
    by_cases hi : i < ts.length
    · have h1 := acts_copy (h i hi)
      rw [List.getElem?_eq_getElem hi, List.getElem?_eq_getElem (by omega)] at h1
      simp only [Option.getD_some] at h1
      rw [List.getElem?_map, List.getElem?_map, List.getElem?_eq_getElem hi, List.getElem?_eq_getElem (by omega)]
      simp only [Option.map_some, h1]
    · rw [List.getElem?_eq_none (by rw [List.length_map]; omega), List.getElem?_eq_none (by rw [List.length_map]; omega)]
  rw [bodyT, bodyT, e]
theorem plnR_copy {cl : Int} {N : Nat} {ss ts : List L2V} {gn : Nat} {G : List Int} {sn : Nat} {S : List Int} (hl : ts.length = ss.length) (h : copiesL2S ss ts) : plnR cl N ts gn G sn S = plnR cl N ss gn G sn S := by
  have e : plnB cl N ts gn G sn S = plnB cl N ss gn G sn S := by rw [plnB, plnB, copies_catP hl h]
  rw [plnR, plnR, e, plnT, plnT, body_copy hl h]
theorem plnR_len {w : World} {ad : Option Addr} {ga sa : Option Addr} {cl : Int} {N : Nat} {ss : List L2V} {gn : Nat} {G : List Int} {sn : Nat} {S : List Int} (P : PlAt w ad N ss ga gn G sa sn S) : (plnR cl N ss gn G sn S).length ≤ 31 := by
  cases hb : plnB cl N ss gn G sn S
  · rw [plnR, hb]; simp
  · obtain ⟨-, hN4, -, -, -, -, hn6⟩ := pln_small hb P.ha P.g.1 P.s.1
    have hk6 : ∀ i, i < ss.length → (ss[i]?.getD noL).x.length ≤ 6 := fun i hi => by
      have h1 := hn6 i (by have := P.ha; omega)
      obtain ⟨_, _, _, _, hLG⟩ := P.a i hi
      rw [hLG.1]; exact h1
    have h2 := body_len ss ss.length hk6 (Nat.le_refl _)
    rw [List.take_length] at h2
    have := P.ha
    rw [plnR, if_pos hb, plnT, List.length_append]
    simp only [headT, List.length_cons, List.length_nil]
    omega
theorem mark1 (a : Option Addr) (n cap B : Nat) (xs : List ByteArray) (w : World) (h : OwnT w a B n xs) (hn : n ≤ 1048576) :
    Calls Tryd.prog 11 #[.slice a n cap, .int .i64 1] w fun e w' => e = .returned (.int .i64 (1 + n)) ∧ Touch (fun x => x = B ∧ 0 < n) w w' ∧ OwnT w' a B n (rampT 1 n) := markTS_any a n cap B xs 1 w h hn (by omega)
theorem held1 (a : Option Addr) (n cap : Nat) (w : World) (h : Txs w a n (rampT 1 n)) (hn : n ≤ 1048576) :
    Calls Tryd.prog 12 #[.slice a n cap, .int .i64 1] w fun e w' => e = .returned (.int .i64 (1 + n)) ∧ Below w.heap.size w w' := heldTS_any a n cap 1 w h hn (by omega)

set_option maxHeartbeats 12800000 in
theorem walk (w : World) (cl : Int) (ad : Option Addr) (N cap : Nat) (ss : List L2V) (ga : Option Addr) (gn gc : Nat) (G : List Int) (sa : Option Addr) (sn sc : Nat) (S : List Int) (hl : ss.length = N) (hM : LSM w ad ss) (hN1 : N ≤ maxLen) (hG : Ints w ga gn G) (hg1 : gn ≤ maxLen) (hS : Ints w sa sn S) (hs1 : sn ≤ maxLen) (hT : Lib.TabBelow Tryd.prog w.heap.size w "internal/strconv.uint64pow10" .u64 Lib.pow10Tab) :
    Calls Tryd.prog 3 #[plV cl ad N cap ga gn gc sa sn sc] w fun r w' => r = .returned (.bool true) ∧ Below w.heap.size w w' := by
  have HN : Hid (ss.length = N) := hl
  have HT : Hid _ := hT
  clear hl hT
  have q := Cel.new w [.int .i64 cl, .slice ad N cap, .slice ga gn gc, .slice sa sn sc] 25
  have B := (Below.refl w.heap.size w).alloc (Nat.le_refl _) (.cells #[.int .i64 cl, .slice ad N cap, .slice ga gn gc, .slice sa sn sc] 25)
  obtain ⟨W0, hW0⟩ : ∃ W, W = w.alloc (.cells #[.int .i64 cl, .slice ad N cap, .slice ga gn gc, .slice sa sn sc] 25) := ⟨_, rfl⟩
  have q0 := q.cell 0
  have q1 := q.cell 1
  have q2 := q.cell 2
  have q3 := q.cell 3
  simp only [List.getElem?_cons_zero, List.getElem?_cons_succ] at q0 q1 q2 q3
  go_enter Tryd.func3, Tryd.ntmps3
  go_wp2_with fail
  rw [← hW0] at q B
  rw [← hW0]
  clear hW0 q0 q1 q2 q3
  have B2 : Below W0.heap.size W0 W0 := Below.refl _ _
  have zB := B.size
  have lq := q.lt
  refine (szP_any _ _ _ _ ss _ _ _ G _ _ _ S _ _ HN.out (hM.below B) hN1 (hG.below B) hg1 (hS.below B) hs1 (by omega) (by omega)).mono ?_
  rintro ee w1 ⟨y, rfl, p1, p2, p3, b⟩
  replace B := B.trans (b.mono B.size)
  replace B2 := B2.trans (b.mono B2.size)
  replace q := q.below b
  have z1 := b.size
  clear b
  by_cases hr : y < 0
  · go_wp2
    go_ret
    exact ⟨rfl, B⟩
  have hr' : 0 ≤ y := by omega
  have A := p3 hr'
  have zA := A.za
  have zg := A.zg
  have zs := A.zs
  have HG : Hid (G.length = gn) := A.g.1
  have HS : Hid (S.length = sn) := A.s.1
  have hyn : ¬ y < 0 := hr
  clear p3 p1 hr hM hG hS
  obtain ⟨R, hR⟩ : ∃ R, plnR cl N ss gn G sn S = R := ⟨_, rfl⟩
  have hn31 : R.length ≤ 31 := by rw [← hR]; exact plnR_len A
  have HSP : Hid (∀ (W : World) (ad : Option Addr) (cap : Nat) (ga : Option Addr) (gc : Nat) (sa : Option Addr) (sc : Nat) (gs : List L2V), PlAt W ad N gs ga gn G sa sn S → copiesL2S ss gs → Calls Tryd.prog 5 #[plV cl ad N cap ga gn gc sa sn sc] W fun r w' => ∃ v, r = .returned v ∧ JT W v R w') := by
    intro W ad cap ga gc sa sc gs h1 h2
    have := splnprint_any cl ad N cap gs ga gn gc G sa sn sc S W h1
    rw [plnR_copy (by rw [h1.ha, HN.out]) h2, hR] at this
    exact this
  have HIP : Hid (∀ (W : World) (ad : Option Addr) (cap : Nat) (ga : Option Addr) (gc : Nat) (sa : Option Addr) (sc : Nat) (gs : List L2V), PlAt W ad N gs ga gn G sa sn S → copiesL2S ss gs → Lib.TabBelow Tryd.prog W.heap.size W "internal/strconv.uint64pow10" .u64 Lib.pow10Tab → Calls Tryd.prog 7 #[plV cl ad N cap ga gn gc sa sn sc] W fun r w' => ∃ v, r = .returned v ∧ JT W v R w') := by
    intro W ad cap ga gc sa sc gs h1 h2 h6
    have := iplnprint_any cl ad N cap gs ga gn gc G sa sn sc S W h1 h6
    rw [plnR_copy (by rw [h1.ha, HN.out]) h2, hR] at this
    exact this
  clear hR
  obtain ⟨n, hnR⟩ : ∃ n, R.length = n := ⟨_, rfl⟩
  have HNR : Hid (R.length = n) := hnR
  have hnn : n ≤ 1048576 := by omega
  clear hnR hn31
  have cq_0 := q.cell 0
  have cq_1 := q.cell 1
  have cq_2 := q.cell 2
  have cq_3 := q.cell 3
  simp only [List.getElem?_cons_zero, List.getElem?_cons_succ] at cq_0 cq_1 cq_2 cq_3
  go_wp2_with fail
  refine (toP_sep _ _ _ _ ss _ _ _ G _ _ _ S _ (A.below B2)).mono ?_
  rintro ee w2 ⟨C1, C2, C3, gs, rfl, hg, hc, b, mm, kb, kc, -, -, -, -⟩
  clear cq_0 cq_1 cq_2 cq_3
  replace B := B.trans (b.mono B.size)
  replace B2 := B2.trans (b.mono B2.size)
  replace q := q.below b
  have z2 := b.size
  clear b
  go_wp2_with fail
  refine (HSP.out _ _ _ _ _ _ _ gs ⟨mm.g, hg, zA, kb.ints' HG.out, zg, kc.ints' HS.out, zs⟩ hc).mono ?_
  rintro ee w3 ⟨v3, rfl, j3⟩
  have b3 := j3.b
  obtain ⟨a3, c3, O3, rfl, o3, -⟩ := j3.ownt HNR.out
  have g3 : Txs w3 a3 n R := o3.txs
  clear j3 o3
  clear mm kb kc
  clear hg hc
  clear gs
  replace B := B.trans (b3.mono B.size)
  replace B2 := B2.trans (b3.mono B2.size)
  replace q := q.below b3
  have z3 := b3.size
  clear b3
  have V : Below w3.heap.size w3 w3 := Below.refl _ _
  have cq_0 := q.cell 0
  have cq_1 := q.cell 1
  have cq_2 := q.cell 2
  have cq_3 := q.cell 3
  simp only [List.getElem?_cons_zero, List.getElem?_cons_succ] at cq_0 cq_1 cq_2 cq_3
  go_wp2_with fail
  refine (toP_sep _ _ _ _ ss _ _ _ G _ _ _ S _ (A.below B2)).mono ?_
  rintro ee w4 ⟨C1, C2, C3, gs, rfl, hg, hc, b, mm, kb, kc, lC1, lC23, lC3, ci, cc0, cc1, cc2⟩
  clear cq_0 cq_1 cq_2 cq_3
  replace B := B.trans (b.mono B.size)
  replace B2 := B2.trans (b.mono B2.size)
  replace q := q.below b
  replace V := V.trans (b.mono V.size)
  have z4 := b.size
  clear b
  have HGS : Hid (gs.length = N) := hg
  have HCP : Hid (copiesL2S ss gs) := hc
  have HCC : Hid _ := cc2
  have HLE : Hid _ := mm.lens hg
  clear cc2 hg hc
  have al := (Below.refl w4.heap.size w4).alloc (Nat.le_refl _) (.cells #[.int .i64 cl, .slice (some ⟨C1, 0, none⟩) N N, .slice (some ⟨C2, 0, none⟩) gn gn, .slice (some ⟨C3, 0, none⟩) sn sn] 31)
  replace B := B.trans (al.mono B.size)
  replace B2 := B2.trans (al.mono B2.size)
  replace q := q.below al
  replace V := V.trans (al.mono V.size)
  replace mm := mm.below al
  replace kb := kb.below al
  replace kc := kc.below al
  clear al
  have x := Cel.new w4 [.int .i64 cl, .slice (some ⟨C1, 0, none⟩) N N, .slice (some ⟨C2, 0, none⟩) gn gn, .slice (some ⟨C3, 0, none⟩) sn sn] 31
  have cx_0 := x.cell 0
  have cx_1 := x.cell 1
  have cx_2 := x.cell 2
  have cx_3 := x.cell 3
  simp only [List.getElem?_cons_zero, List.getElem?_cons_succ] at cx_0 cx_1 cx_2 cx_3
  go_wp2_with fail
  obtain ⟨w5, hw5⟩ : ∃ W, W = w4.alloc (.cells #[.int .i64 cl, .slice (some ⟨C1, 0, none⟩) N N, .slice (some ⟨C2, 0, none⟩) gn gn, .slice (some ⟨C3, 0, none⟩) sn sn] 31) := ⟨_, rfl⟩
  rw [← hw5]
  rw [← hw5] at B B2 q V mm kb kc x cx_0 cx_1 cx_2 cx_3
  have zb5 : w5.heap.size = w4.heap.size + 1 := by rw [hw5, World.size_alloc]
  have za5 : w5.heap.size ≤ w4.heap.size + 1 ∧ w4.heap.size + 1 ≤ w5.heap.size := by omega
  clear hw5 zb5
  refine (HIP.out _ _ _ _ _ _ _ gs ⟨mm.g, HGS.out, zA, kb.ints' HG.out, zg, kc.ints' HS.out, zs⟩ HCP.out (fun w' h' => HT.out w' (B.trans (h'.mono B.size)))).mono ?_
  rintro ee w6 ⟨v5, rfl, j5⟩
  have b5 := j5.b
  obtain ⟨a5, c5, O5, rfl, o5, hO5⟩ := j5.ownt HNR.out
  have HO5 : Hid (0 < n → w5.heap.size ≤ O5) := hO5
  clear j5 hO5
  clear cx_0 cx_1 cx_2 cx_3
  replace B := B.trans (b5.mono B.size)
  replace B2 := B2.trans (b5.mono B2.size)
  replace q := q.below b5
  replace V := V.trans (b5.mono V.size)
  replace mm := mm.below b5
  replace kb := kb.below b5
  replace kc := kc.below b5
  replace x := x.below b5
  have z6 := b5.size
  clear b5
  go_wp2_with fail
  refine (eqTx_same _ _ _ _ _ R _ o5.txs (g3.below V) hnn).mono ?_
  rintro ee w7 ⟨rfl, b⟩
  replace B := B.trans (b.mono B.size)
  replace B2 := B2.trans (b.mono B2.size)
  replace q := q.below b
  replace V := V.trans (b.mono V.size)
  replace mm := mm.below b
  replace kb := kb.below b
  replace kc := kc.below b
  replace x := x.below b
  replace o5 := o5.below b
  have z7 := b.size
  clear b
  have qq0 := q.cell 0
  have qq1 := q.cell 1
  have qq2 := q.cell 2
  have qq3 := q.cell 3
  have xx0 := x.cell 0
  have xx1 := x.cell 1
  have xx2 := x.cell 2
  have xx3 := x.cell 3
  simp only [List.getElem?_cons_zero, List.getElem?_cons_succ] at qq0 qq1 qq2 qq3 xx0 xx1 xx2 xx3
  go_upto_region 10 with fail
  have KP : Hid (∀ X, Below w7.heap.size w7 X → X.cell? ⟨w.heap.size, 0, none⟩ = some (.int .i64 cl) ∧ X.cell? ⟨w.heap.size, 1, none⟩ = some (.slice ad N cap) ∧ X.cell? ⟨w.heap.size, 2, none⟩ = some (.slice ga gn gc) ∧ X.cell? ⟨w.heap.size, 3, none⟩ = some (.slice sa sn sc) ∧ X.cell? ⟨w4.heap.size, 0, none⟩ = some (.int .i64 cl) ∧ X.cell? ⟨w4.heap.size, 1, none⟩ = some (.slice (some ⟨C1, 0, none⟩) N N) ∧ X.cell? ⟨w4.heap.size, 2, none⟩ = some (.slice (some ⟨C2, 0, none⟩) gn gn) ∧ X.cell? ⟨w4.heap.size, 3, none⟩ = some (.slice (some ⟨C3, 0, none⟩) sn sn)) := fun X hX => ⟨(hX.cell (p := ⟨w.heap.size, 0, none⟩) (block_lt qq0)).trans qq0, (hX.cell (p := ⟨w.heap.size, 1, none⟩) (block_lt qq1)).trans qq1, (hX.cell (p := ⟨w.heap.size, 2, none⟩) (block_lt qq2)).trans qq2, (hX.cell (p := ⟨w.heap.size, 3, none⟩) (block_lt qq3)).trans qq3, (hX.cell (p := ⟨w4.heap.size, 0, none⟩) (block_lt xx0)).trans xx0, (hX.cell (p := ⟨w4.heap.size, 1, none⟩) (block_lt xx1)).trans xx1, (hX.cell (p := ⟨w4.heap.size, 2, none⟩) (block_lt xx2)).trans xx2, (hX.cell (p := ⟨w4.heap.size, 3, none⟩) (block_lt xx3)).trans xx3⟩
  have d : Below w7.heap.size w7 w7.drew := (Below.refl _ _).drew
  have hSS : (w7.drew.cell? ⟨w.heap.size, 0, none⟩ = some (.int .i64 cl) ∧ w7.drew.cell? ⟨w.heap.size, 1, none⟩ = some (.slice ad N cap) ∧ w7.drew.cell? ⟨w.heap.size, 2, none⟩ = some (.slice ga gn gc) ∧ w7.drew.cell? ⟨w.heap.size, 3, none⟩ = some (.slice sa sn sc) ∧ w7.drew.cell? ⟨w4.heap.size, 0, none⟩ = some (.int .i64 cl) ∧ w7.drew.cell? ⟨w4.heap.size, 1, none⟩ = some (.slice (some ⟨C1, 0, none⟩) N N) ∧ w7.drew.cell? ⟨w4.heap.size, 2, none⟩ = some (.slice (some ⟨C2, 0, none⟩) gn gn) ∧ w7.drew.cell? ⟨w4.heap.size, 3, none⟩ = some (.slice (some ⟨C3, 0, none⟩) sn sn)) ∧ True := ⟨KP.out _ d, trivial⟩
  refine wp_region_ends (fun X => X.cell? ⟨w.heap.size, 0, none⟩ = some (.int .i64 cl) ∧ X.cell? ⟨w.heap.size, 1, none⟩ = some (.slice ad N cap) ∧ X.cell? ⟨w.heap.size, 2, none⟩ = some (.slice ga gn gc) ∧ X.cell? ⟨w.heap.size, 3, none⟩ = some (.slice sa sn sc) ∧ X.cell? ⟨w4.heap.size, 0, none⟩ = some (.int .i64 cl) ∧ X.cell? ⟨w4.heap.size, 1, none⟩ = some (.slice (some ⟨C1, 0, none⟩) N N) ∧ X.cell? ⟨w4.heap.size, 2, none⟩ = some (.slice (some ⟨C2, 0, none⟩) gn gn) ∧ X.cell? ⟨w4.heap.size, 3, none⟩ = some (.slice (some ⟨C3, 0, none⟩) sn sn)) (fun _ => True) 4 (by kernel_rfl) ?_
  obtain ⟨V7_, hV0⟩ : ∃ V, V = w7.drew := ⟨_, rfl⟩
  rw [← hV0] at hSS d
  rw [← hV0]
  clear hV0
  refine tkL (i := 0) rfl hSS ?_
  refine tkL (i := 1) rfl hSS ?_
  (try simp only [Act.put, List.setIfInBounds_toArray, List.set_cons_succ, List.set_cons_zero, List.getElem_toArray, List.getElem_cons_succ, List.getElem_cons_zero])
  have bv := d
  clear d
  replace B := B.trans (bv.mono B.size)
  replace B2 := B2.trans (bv.mono B2.size)
  replace q := q.below bv
  replace V := V.trans (bv.mono V.size)
  replace mm := mm.below bv
  replace kb := kb.below bv
  replace kc := kc.below bv
  replace x := x.below bv
  replace o5 := o5.below bv
  have dd := bv
  have z8 := bv.size
  clear bv
  refine wpAnyE_one (i := 2) (by kernel_rfl) rfl (fun K hK => ?_)
  go_simp
  refine (toP_sep _ _ _ _ ss _ _ _ G _ _ _ S _ (A.below B2)).mono ?_
  rintro ee w9 ⟨Y1, Y2, Y3, us, rfl, hg3, hc3, b, my, ky, kz, -, -, -, -⟩
  replace dd := dd.trans (b.mono dd.size)
  replace B := B.trans (b.mono B.size)
  replace B2 := B2.trans (b.mono B2.size)
  replace q := q.below b
  replace V := V.trans (b.mono V.size)
  replace mm := mm.below b
  replace kb := kb.below b
  replace kc := kc.below b
  replace x := x.below b
  replace o5 := o5.below b
  have z9 := b.size
  clear b
  (try dsimp only)
  replace hSS : (w9.cell? ⟨w.heap.size, 0, none⟩ = some (.int .i64 cl) ∧ w9.cell? ⟨w.heap.size, 1, none⟩ = some (.slice ad N cap) ∧ w9.cell? ⟨w.heap.size, 2, none⟩ = some (.slice ga gn gc) ∧ w9.cell? ⟨w.heap.size, 3, none⟩ = some (.slice sa sn sc) ∧ w9.cell? ⟨w4.heap.size, 0, none⟩ = some (.int .i64 cl) ∧ w9.cell? ⟨w4.heap.size, 1, none⟩ = some (.slice (some ⟨C1, 0, none⟩) N N) ∧ w9.cell? ⟨w4.heap.size, 2, none⟩ = some (.slice (some ⟨C2, 0, none⟩) gn gn) ∧ w9.cell? ⟨w4.heap.size, 3, none⟩ = some (.slice (some ⟨C3, 0, none⟩) sn sn)) ∧ True := ⟨KP.out _ dd, trivial⟩
  refine hK.out _ _ ⟨hSS.1, fun _ => trivial⟩ ?_
  clear hK K
  refine wpAnyE_one (i := 3) (by kernel_rfl) rfl (fun K hK => ?_)
  go_simp
  refine (eqP_same _ _ _ _ gs _ _ _ G _ _ _ S _ _ us _ _ _ _ _ ⟨mm.g, HGS.out, zA, kb.ints' HG.out, zg, kc.ints' HS.out, zs⟩ ⟨my.g, hg3, zA, ky.ints' HG.out, zg, kz.ints' HS.out, zs⟩ (copies_sameP HGS.out hg3 HCP.out hc3 HLE.out)).mono ?_
  rintro ee w10 ⟨rfl, b⟩
  replace dd := dd.trans (b.mono dd.size)
  replace B := B.trans (b.mono B.size)
  replace B2 := B2.trans (b.mono B2.size)
  replace q := q.below b
  replace V := V.trans (b.mono V.size)
  replace mm := mm.below b
  replace kb := kb.below b
  replace kc := kc.below b
  replace x := x.below b
  replace o5 := o5.below b
  replace my := my.below b
  replace ky := ky.below b
  replace kz := kz.below b
  have z10 := b.size
  clear b
  (try dsimp only)
  replace hSS : (w10.cell? ⟨w.heap.size, 0, none⟩ = some (.int .i64 cl) ∧ w10.cell? ⟨w.heap.size, 1, none⟩ = some (.slice ad N cap) ∧ w10.cell? ⟨w.heap.size, 2, none⟩ = some (.slice ga gn gc) ∧ w10.cell? ⟨w.heap.size, 3, none⟩ = some (.slice sa sn sc) ∧ w10.cell? ⟨w4.heap.size, 0, none⟩ = some (.int .i64 cl) ∧ w10.cell? ⟨w4.heap.size, 1, none⟩ = some (.slice (some ⟨C1, 0, none⟩) N N) ∧ w10.cell? ⟨w4.heap.size, 2, none⟩ = some (.slice (some ⟨C2, 0, none⟩) gn gn) ∧ w10.cell? ⟨w4.heap.size, 3, none⟩ = some (.slice (some ⟨C3, 0, none⟩) sn sn)) ∧ True := ⟨KP.out _ dd, trivial⟩
  refine hK.out _ _ ⟨hSS.1, fun _ => trivial⟩ ?_
  clear hK K
  refine wpAnyE_one (i := 4) (by kernel_rfl) rfl (fun K hK => ?_)
  go_simp
  refine hK.out _ _ ⟨hSS.1, fun _ => trivial⟩ ?_
  clear hK K
  refine wpAnyE_done (by kernel_rfl) ?_ _
  clear hSS KP dd
  clear my ky kz
  clear hg3 hc3
  clear us
  clear qq0 xx0 qq1 xx1 qq2 xx2 qq3 xx3
  have cx_0 := x.cell 0
  have cx_1 := x.cell 1
  have cx_2 := x.cell 2
  have cx_3 := x.cell 3
  simp only [List.getElem?_cons_zero, List.getElem?_cons_succ] at cx_0 cx_1 cx_2 cx_3
  go_wp2_with fail
  refine (markPb_any _ _ _ _ _ _ _ _ _ _ gs G S ci _ mm HGS.out zA cc0 cc1 HCC.out kb HG.out zg kc HS.out zs lC23).mono ?_
  rintro ee w11 ⟨r1, rfl, r10, r11, t⟩
  clear cx_0 cx_1 cx_2 cx_3
  replace B := B.trans (t.below B.size (fun k h => by omega))
  replace B2 := B2.trans (t.below B2.size (fun k h => by omega))
  replace q := q.touch t (fun h => by omega)
  replace V := V.trans (t.below V.size (fun k h => by omega))
  replace x := x.touch t (fun h => by omega)
  replace o5 := o5.touch t (fun h0 h => by have := HO5.out h0; omega)
  have z11 := t.size
  clear t mm kb kc
  have yA' : decide (r1 < 0) = false := by simp; omega
  have yA : ¬ (r1 < 0) := by omega
  clear x
  go_wp2_with fail
  refine (eqTx_same _ _ _ _ _ R _ o5.txs (g3.below V) hnn).mono ?_
  rintro ee w12 ⟨rfl, b⟩
  replace B := B.trans (b.mono B.size)
  replace B2 := B2.trans (b.mono B2.size)
  replace q := q.below b
  replace V := V.trans (b.mono V.size)
  replace o5 := o5.below b
  have z12 := b.size
  clear b
  have hF0 : ¬ ((1 : Int) + (n : Int) < 0) := by omega
  have hF1 : ((1 : Int) + (n : Int) != 1 + n) = false := by simp
  go_wp2_with fail
  refine (mark1 _ _ _ O5 R _ o5 hnn).mono ?_
  rintro ee w13 ⟨rfl, t, om⟩
  replace B := B.trans (t.below B.size (fun k h => by have := HO5.out h.2; omega))
  replace B2 := B2.trans (t.below B2.size (fun k h => by have := HO5.out h.2; omega))
  replace q := q.touch t (fun h => by have := HO5.out h.2; omega)
  replace V := V.trans (t.below V.size (fun k h => by have := HO5.out h.2; omega))
  have z13 := t.size
  clear t o5
  go_wp2_with fail
  refine (held1 _ _ _ _ om.txs hnn).mono ?_
  rintro ee w14 ⟨rfl, b⟩
  replace B := B.trans (b.mono B.size)
  replace B2 := B2.trans (b.mono B2.size)
  replace q := q.below b
  replace V := V.trans (b.mono V.size)
  replace om := om.below b
  have z14 := b.size
  clear b
  have cq_0 := q.cell 0
  have cq_1 := q.cell 1
  have cq_2 := q.cell 2
  have cq_3 := q.cell 3
  simp only [List.getElem?_cons_zero, List.getElem?_cons_succ] at cq_0 cq_1 cq_2 cq_3
  go_wp2_with fail
  refine (toP_sep _ _ _ _ ss _ _ _ G _ _ _ S _ (A.below B2)).mono ?_
  rintro ee w15 ⟨C1', C2', C3', gs, rfl, hg, hc, b, mm, kb, kc, -, -, -, -⟩
  clear cq_0 cq_1 cq_2 cq_3
  replace B := B.trans (b.mono B.size)
  replace B2 := B2.trans (b.mono B2.size)
  replace q := q.below b
  replace V := V.trans (b.mono V.size)
  replace om := om.below b
  have z15 := b.size
  clear b
  go_wp2_with fail
  refine (HIP.out _ _ _ _ _ _ _ gs ⟨mm.g, hg, zA, kb.ints' HG.out, zg, kc.ints' HS.out, zs⟩ hc (fun w' h' => HT.out w' (B.trans (h'.mono B.size)))).mono ?_
  rintro ee w16 ⟨v9, rfl, j9⟩
  have b9 := j9.b
  obtain ⟨a9, c9, O9, rfl, o9, -⟩ := j9.ownt HNR.out
  clear j9
  clear mm kb kc
  replace B := B.trans (b9.mono B.size)
  replace B2 := B2.trans (b9.mono B2.size)
  replace q := q.below b9
  replace V := V.trans (b9.mono V.size)
  replace om := om.below b9
  have z16 := b9.size
  clear b9
  go_wp2_with fail
  refine (eqTx_same _ _ _ _ _ R _ o9.txs (g3.below V) hnn).mono ?_
  rintro ee w17 ⟨rfl, b⟩
  replace B := B.trans (b.mono B.size)
  replace B2 := B2.trans (b.mono B2.size)
  replace q := q.below b
  replace V := V.trans (b.mono V.size)
  replace om := om.below b
  replace o9 := o9.below b
  have z17 := b.size
  clear b
  go_wp2_with fail
  refine (held1 _ _ _ _ om.txs hnn).mono ?_
  rintro ee w18 ⟨rfl, b⟩
  replace B := B.trans (b.mono B.size)
  replace B2 := B2.trans (b.mono B2.size)
  replace q := q.below b
  replace V := V.trans (b.mono V.size)
  replace om := om.below b
  replace o9 := o9.below b
  have z18 := b.size
  clear b
  go_wp2
  go_ret
  exact ⟨rfl, B⟩

/-! ### The row's step -/
theorem tab_of {W : World} (h : laidMetH Tryd.prog Rows.fnExactPlnPrintRow.laid W) : Lib.TabIs Tryd.prog W "internal/strconv.uint64pow10" .u64 Lib.pow10Tab := by
  rw [MakeChecks.laidMetH_plain _ _ _ (by kernel_rfl)] at h
  have h2 : laidMet Tryd.prog [("internal/strconv.uint64pow10", Lib.tabData .u64 Lib.pow10Tab)] W := h.tail.tail
  exact Lib.tabIs_of_head (g := 0) (t := 123) (e := 113) (n := 20) (by kernel_rfl) (by kernel_rfl) Tryd.underlying123 Tryd.underlying113 (by kernel_rfl) (by kernel_rfl) h2

set_option maxRecDepth 100000 in
theorem lifted (os : Os) (started : os.Started) (H : Type) (enc : TypeId × Value → H) :
    ReturnsInHanded {} Tryd.checked os 3 .any (fun w args => (Rows.fnExactPlnPrintSpec.pre enc Tryd.prog Tryd.f3 Rows.fnExactPlnPrintRow.domain false w args ∧ laidMetH Tryd.prog Rows.fnExactPlnPrintRow.laid w) ∧ sizedMet enc Tryd.prog Tryd.f3 (OpenSpec.ofChange Rows.fnExactPlnPrintSpec) false w args) (Rows.fnExactPlnPrintSpec.post enc Tryd.prog Tryd.f3 false true false false) := by
  refine returnsInHanded_of_change_and (C := Tryd.checked) (X := fun w _ => laidMetH Tryd.prog Rows.fnExactPlnPrintRow.laid w) (fun _ _ _ hh h => h.of_heap hh) own started (by kernel_rfl) Tryd.func3
    (ChangeSpec.witness_shaped (enc := enc) (C := Tryd.checked) (os := os) (X := fun w _ => laidMetH Tryd.prog Rows.fnExactPlnPrintRow.laid w) false (World.laidAll Tryd.prog os Rows.fnExactPlnPrintRow.laid) #[.agg #[.int .i64 0, .slice none 0 0, .slice none 0 0, .slice none 0 0]] 8 (World.laidAll_os _ _ _)
      (World.shaped_of_ZipB (by kernel_rfl) (by kernel_rfl)) (by kernel_rfl) (by kernel_rfl) (by kernel_rfl)
      (by rw [MakeChecks.laidMetH_plain _ _ _ (by kernel_rfl)]; exact laidMet_laidAll _ (by kernel_rfl) (by kernel_rfl))) ?_
  intro W base args ds gs before hval0 hW hcnd _ hL _
  have hval : ∀ (j : Nat) t v, Tryd.f3.params[j]? = some t → args[j]? = some v → Value.okWide Tryd.prog W .any base t v := hval0
  have hW' := hW
  obtain ⟨p, q, hA0, hV, rfl, hfz, hnd⟩ := hW
  have hA : DataW.TrodAll enc Tryd.prog W 0 (fun _ => true) true Tryd.f3.params.toList args.toList ds p := hA0
  rw [Tryd.params3] at hA hval
  obtain ⟨v0, vs0, d0, ds0, p0, q0, hargs, rfl, rfl, h0, r0⟩ := trodAll_cons hA
  obtain ⟨rfl, rfl, rfl⟩ := trodAll_nil r0
  obtain rfl : args = #[v0] := by cases args; simp_all
  obtain ⟨rfl, rfl⟩ := trodVars_none hV
  have k0 := h0
  have lt0 : ∀ x ∈ p0, x.block < W.heap.size := by obtain ⟨m, hm⟩ := k0; exact DataW.trod_lt m _ _ _ hm
  obtain ⟨cl0, ad0, N0, pc0, ss0, ga0, gn0, gc0, G0, sa0, sn0, sc0, S0, rfl, wc0, hl0, hM0, hN0, hG0, hg0, hS0, hs0⟩ := open_plan (hval 0 25 v0 rfl rfl) h0
  clear hA0 hval0
  refine (walk W cl0 ad0 N0 pc0 ss0 ga0 gn0 gc0 G0 sa0 sn0 sc0 S0 hl0 hM0 hN0 hG0 hg0 hS0 hs0 (Lib.tabBelow_of_tabIs (tab_of hL))).mono fun e W' ⟨he, bel⟩ => ?_
  subst he
  exact ⟨_, rfl, _, _, _, [], _, [], hW', trodAll_mk1 (shut_bool Tryd.underlying4 _), (trodAll_cons_mk (Below.trod laidOut (by kernel_rfl) (of_decide_eq_true (by kernel_rfl)) k0 bel lt0) trodAll_mk0), rfl, bel.frame _, fun h => by cases h⟩

theorem over : Rows.fnExactPlnPrintRow.holds Tryd.pinned (OpenSpec.ofChange Rows.fnExactPlnPrintSpec) :=
  OpenClaim.holds_of_wide 3 Tryd.f3 rfl rfl rfl rfl rfl rfl rfl ⟨rfl, rfl, rfl, rfl, rfl⟩ rfl rfl rfl rfl rfl (by kernel_rfl) Tryd.func3 (by kernel_rfl)
    (of_decide_eq_true (by kernel_rfl)) (by unfold Func.isWrapper; first | (rw [if_pos (by decide +kernel)]; kernel_rfl) | (rw [if_neg (by decide +kernel)]; exact ⟨rfl, rfl⟩))
    (fun os started H enc _ => lifted os started H enc)

end Go.Proofs.YtmhhphpihnkfpaaDoor.fnExactPlnPrint
namespace Go.Proofs.YtmhhphpihnkfpaaDoor
/-- The statement. -/
theorem fnExactPlnPrint_holds : Rows.FnExactPlnPrintCardSaid :=
  Claim7.holds_tied_plain_at .later [] [.data, .data, .data] true Rows.fnExactPlnPrintCard.stood.harness Rows.fnExactPlnPrintCard.stood.looks fnExactPlnPrint.over (fun _ h => by cases h) (by kernel_rfl) (fun _ h => by cases h) fnExactPlnPrint_row_tie rfl ⟨rfl, rfl⟩ (by kernel_rfl) rfl
    (fun f fn hf hfn => by
      obtain rfl : f = 3 := Option.some.inj ((show Tryd.prog.funcNamed Rows.fnExactPlnPrintRow.func = some 3 by kernel_rfl).symm.trans hf) |>.symm
      obtain rfl : fn = Tryd.f3 := (Option.some.inj (Tryd.func3.symm.trans hfn)).symm
      exact ⟨by kernel_rfl, fun j t ht => by
        rw [Tryd.params3] at ht
        have hm : t ∈ [25] := by simpa using Array.mem_of_getElem? ht
        have hall : ([25].all fun u => !Tryd.prog.wantsStandIn u) = true := by kernel_rfl
        exact (show Tryd.prog.wantsStandIn t = false by simpa using List.all_eq_true.1 hall t hm)⟩)
    (by kernel_rfl)
#print axioms fnExactPlnPrint_holds
end Go.Proofs.YtmhhphpihnkfpaaDoor
