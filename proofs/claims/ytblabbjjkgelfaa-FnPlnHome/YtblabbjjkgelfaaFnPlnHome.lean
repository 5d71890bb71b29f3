/-
  For all bytes FnPlnHome returns true, and what came in reads behind the call as it did. No condition. (each client has one home)
-/
import Derived.Test.YtblabbjjkgelfaaDrPa
import Derived.Test.YtblabbjjkgelfaaPlanW
import Derived.Test.YtblabbjjkgelfaaFvC
import Derived.Test.YtblabbjjkgelfaaOpen
namespace Go.Proofs.Ytblabbjjkgelfaa.fnPlnHome
open Go.ChangeShapes Go.WideShapes Go.ChangeAt Go.RowKit
set_option linter.unusedVariables false
set_option maxRecDepth 100000

theorem open_bytesT {H : Type} {enc : TypeId × Value → H} {W : World} {r : Reach} {b0 : Nat} {v : Value} {d : DataW H} {p : List MemPlace}
    (hv : Value.okWide Try.prog W r b0 22 v) (h : DataW.Trod enc Try.prog W 0 (fun _ => true) true 22 v d p) : ∃ a n cap zs, v = .slice a n cap ∧ BInts W a n zs ∧ (n ≤ cap ∧ cap ≤ maxLen) := by
  obtain ⟨a0, len0, cap0, rfl⟩ := okWide_slice Try.underlying22 hv
  obtain ⟨fuel, hf⟩ := h
  rcases open_ints Try.underlying22 Try.underlying5 (by kernel_rfl) hf with ⟨hcs, _⟩ | ⟨x, l, c, zs, hcs, _, hl, hm, hz, _, hcell, hwz⟩
  · simp [Value.cells] at hcs
    obtain ⟨rfl, rfl, rfl⟩ := hcs
    exact ⟨none, 0, 0, [], rfl, ⟨rfl, fun i hi => by omega, fun i => by simp⟩, by omega, by unfold maxLen; omega⟩
  · simp [Value.cells] at hcs
    obtain ⟨rfl, rfl, rfl⟩ := hcs
    have hz' : zs.length = cap0 := by simpa using hz
    refine ⟨some x, len0, cap0, zs.take len0, rfl, ⟨by rw [List.length_take]; omega, fun i hi => ?_, fun i => ?_⟩, hl, hm⟩
    · obtain ⟨b, off, spot⟩ := x
      have hc0 := hcell 0 (by omega)
      have hspot : spot = none := by simpa [Addr.add] using World.cell?_spot hc0
      subst hspot
      refine ⟨b, off, rfl, ?_⟩
      have hc := hcell i (by omega)
      have : W.cell? ⟨b, off + i, none⟩ = some (.int .u8 (zs.getD i 0)) := by
        by_cases h0 : i = 0
        · subst h0; simpa [Addr.add] using hc
        · simpa [Addr.add, h0] using hc
      rw [this]
      simp [hi]
    · by_cases hi : i < (zs.take len0).length
      · rw [List.getElem?_eq_getElem hi]
        have := hwz _ (List.mem_of_mem_take (List.getElem_mem hi))
        simpa [Lit.wf, IntKind.min, IntKind.max, IntKind.signed, IntKind.bits] using this
      · rw [List.getElem?_eq_none (by omega)]
        simp

set_option maxHeartbeats 1600000 in
theorem dHome (a : Option Addr) (n cap : Nat) (bs : List Int) (w : World) (h : BInts w a n bs) (hn : n ≤ cap) (hn1 : n ≤ 1048576) (hc : cap ≤ maxLen) :
    Calls Try.prog 17 #[.slice a n cap] w fun e w' => ∃ cl ad N c ss ga gn gc G sa sn sc S x, e = .returned (.tuple #[.agg #[.int .i64 cl, .slice ad N c, .slice ga gn gc, .slice sa sn sc], .int .i64 x]) ∧ Below w.heap.size w w' ∧ PlAt w' ad N ss ga gn G sa sn S ∧ -1 ≤ x ∧ x ≤ 4 ∧ gn ≤ 6 := by
  have q0 := Cel.new w [.int .i64 0, .slice none 0 0, .slice none 0 0, .slice none 0 0] 44
  have al := (Below.refl w.heap.size w).alloc (Nat.le_refl _) (.cells #[.int .i64 0, .slice none 0 0, .slice none 0 0, .slice none 0 0] 44)
  go_enter Try.func17, Try.ntmps17
  go_wp2_with fail
  refine (open_any _ _ _ bs _ (h.below al) hn hn1 hc).mono ?_
  rintro e w1 ⟨R, n', cap2, bs', rfl, b1, hR, r1⟩
  rw [World.size_alloc] at hR
  replace q0 := q0.below b1
  have hw := q0.lt
  have hRl := r1.c.lt
  go_wp2_with fail
  refine (anyplan_f R a n' cap2 bs' 0 8 _ r1 (by omega) (by omega) (by omega) (by omega) r1.ha).mono ?_
  rintro e w2 ⟨cl, ad, N, c, ss, ga, gn, gc, G, sa, sn, sc, S, q, rfl, T, rd, PF, y0, y1⟩
  replace q0 := q0.touch T (by omega)
  clear r1
  go_wp2_with fail
  refine (pick_any R a n' cap2 bs' q 6 _ rd (by omega) (by omega) (by omega) (by omega)).mono ?_
  rintro e w3 ⟨x, x0, x1, rfl, t3, R3⟩
  replace q0 := q0.touch t3 (by omega)
  replace PF := PF.touch t3 (fun k hk => by omega)
  replace T := T.trans t3
  have BB : Below w.heap.size w w3 := (al.trans (b1.mono al.size)).trans (T.below (by omega) (fun k hk => by omega))
  have g6 := PF.g6
  have e0 := q0.cell 0
  have e1 := q0.cell 1
  have e2 := q0.cell 2
  have e3 := q0.cell 3
  have f0 := q0.free 0
  have f1 := q0.free 1
  have f2 := q0.free 2
  have f3 := q0.free 3
  simp only [List.getElem?_cons_zero, List.getElem?_cons_succ] at e0 e1 e2 e3
  have lq := q0.lt
  clear R3 t3 rd al b1
  go_wp2
  have TS : Touch (fun k => k = w.heap.size) w3 ((((w3.setCell ⟨w.heap.size, 0, none⟩ (.int .i64 cl)).setCell ⟨w.heap.size, 1, none⟩ (.slice ad N c)).setCell ⟨w.heap.size, 2, none⟩ (.slice ga gn gc)).setCell ⟨w.heap.size, 3, none⟩ (.slice sa sn sc)) := Touch.setCell (S := fun k => k = w.heap.size) (Touch.setCell (S := fun k => k = w.heap.size) (Touch.setCell (S := fun k => k = w.heap.size) (Touch.setCell (S := fun k => k = w.heap.size) (Touch.refl _ _) rfl _) rfl _) rfl _) rfl _
  refine bodyPost_ret (v := .tuple #[.agg #[.int .i64 cl, .slice ad N c, .slice ga gn gc, .slice sa sn sc], .int .i64 (x - 1)]) (by simp [results, Try.results17, go_sem, e0, e1, e2, e3]) rfl ⟨cl, ad, N, c, ss, ga, gn, gc, G, sa, sn, sc, S, x - 1, rfl, (((BB.setCell (Nat.le_refl _) _).setCell (Nat.le_refl _) _).setCell (Nat.le_refl _) _).setCell (Nat.le_refl _) _, (PF.touch TS (fun k hk => by omega)).at, by omega, by omega, g6⟩
theorem wf_small {x : Int} (h0 : -2 ≤ x) (h1 : x ≤ 5) : (Lit.int .i64 x).wf = true := by
  simp [Lit.wf, IntKind.min, IntKind.max, IntKind.signed, IntKind.bits]
  omega
theorem home_no {ok : Bool} {cl x : Int} {gn : Nat} (h : ¬ (ok = true ∧ 0 ≤ x ∧ x < cl)) : homeN ok cl x gn = -1 := by unfold homeN; rw [if_neg h]
theorem home_yes {cl x : Int} {gn : Nat} (h0 : 0 ≤ x) (h1 : x < cl) : homeN true cl x gn = x % gn := by unfold homeN; rw [if_pos ⟨rfl, h0, h1⟩]
theorem mod_next {x : Int} {g : Nat} (h : 0 < x) : ((x - 1) % (g : Int) + 1) % (g : Int) = x % (g : Int) := by
  rw [Int.emod_add_emod]
  congr 1
  omega

set_option maxHeartbeats 6400000 in
theorem walk (w : World) (a : Option Addr) (n cap : Nat) (A0 : List Int) (hA0 : BInts w a n A0) (hn : n ≤ cap ∧ cap ≤ maxLen) :
    Calls Try.prog 5 #[.slice a n cap] w fun e w' => e = .returned (.bool true) ∧ Below w.heap.size w w' := by
  obtain ⟨hn2, hn3⟩ := hn
  by_cases hn1 : n ≤ 1048576
  · go_enter Try.func5, Try.ntmps5
    go_wp2_with fail
    refine (dHome _ _ _ A0 _ hA0 hn2 hn1 hn3).mono ?_
    rintro ee w1 ⟨cl, ad, N, c, ss, ga, gn, gc, G, sa, sn, sc, S, x, rfl, b1, hP, x0, x1, g6⟩
    have BB := b1
    clear b1
    obtain ⟨ok, hok⟩ : ∃ b, b = plnB cl N ss gn G sn S := ⟨_, rfl⟩
    have HOK : Hid (ok = plnB cl N ss gn G sn S) := hok
    clear hok
    obtain ⟨H, hH⟩ : ∃ b, b = homeN ok cl x gn := ⟨_, rfl⟩
    have HH : Hid (H = homeN ok cl x gn) := hH
    clear hH
    have hHH : (H != H) = false := by simp
    have hOO : (ok != ok) = false := by cases ok <;> rfl
    have al := (Below.refl (w1).heap.size (w1)).alloc (Nat.le_refl _) (.cells #[.int .i64 cl, .slice ad N c, .slice ga gn gc, .slice sa sn sc] 44)
    replace BB := BB.trans (al.mono BB.size)
    replace hP := hP.below al
    clear al
    have q3 := Cel.new (w1) [.int .i64 cl, .slice ad N c, .slice ga gn gc, .slice sa sn sc] 44
    have g3_0 := q3.cell 0
    have g3_1 := q3.cell 1
    have g3_2 := q3.cell 2
    have g3_3 := q3.cell 3
    simp only [List.getElem?_cons_zero, List.getElem?_cons_succ] at g3_0 g3_1 g3_2 g3_3
    go_wp2_with fail
    obtain ⟨W2, hW2⟩ : ∃ W, W = (w1).alloc (.cells #[.int .i64 cl, .slice ad N c, .slice ga gn gc, .slice sa sn sc] 44) := ⟨_, rfl⟩
    rw [← hW2]
    rw [← hW2] at hP q3 BB g3_0 g3_1 g3_2 g3_3
    clear hW2
    obtain ⟨X3, hX3⟩ : ∃ x, x = w1.heap.size := ⟨_, rfl⟩
    rw [← hX3]
    rw [← hX3] at q3 g3_0 g3_1 g3_2 g3_3
    clear hX3
    refine (ihome_any cl _ _ _ ss _ _ _ G _ _ _ S x _ hP (wf_small (by omega) (by omega))).mono ?_
    rintro ee w3 ⟨rfl, b2⟩
    rw [← HOK.out, ← HH.out]
    clear g3_0 g3_1 g3_2 g3_3
    replace BB := BB.trans (b2.mono BB.size)
    replace hP := hP.below b2
    replace q3 := q3.below b2
    clear b2
    go_upto_region 5 with fail
    refine wp_region_ends (fun X => X.cell? ⟨X3, 0, none⟩ = some (.int .i64 cl) ∧ X.cell? ⟨X3, 1, none⟩ = some (.slice ad N c) ∧ X.cell? ⟨X3, 2, none⟩ = some (.slice ga gn gc) ∧ X.cell? ⟨X3, 3, none⟩ = some (.slice sa sn sc)) (fun _ => True) 11 (by kernel_rfl) ?_
    have dr : Below w3.heap.size w3 w3.drew := (Below.refl _ _).drew
    replace BB := BB.trans (dr.mono BB.size)
    replace hP := hP.below dr
    replace q3 := q3.below dr
    clear dr
    obtain ⟨V4, hV4⟩ : ∃ V, V = w3.drew := ⟨_, rfl⟩
    rw [← hV4]
    rw [← hV4] at hP q3 BB
    clear hV4
    have hSS : (V4.cell? ⟨X3, 0, none⟩ = some (.int .i64 cl) ∧ V4.cell? ⟨X3, 1, none⟩ = some (.slice ad N c) ∧ V4.cell? ⟨X3, 2, none⟩ = some (.slice ga gn gc) ∧ V4.cell? ⟨X3, 3, none⟩ = some (.slice sa sn sc)) ∧ True := ⟨⟨q3.cell 0, q3.cell 1, q3.cell 2, q3.cell 3⟩, trivial⟩
    refine wpAnyE_take0 (i := 0) (v := ?k1xv0) rfl (by kernel_rfl) (by kernel_rfl) (by kernel_rfl) (by decide) (fun _ _ _ h => h) (Or.inl ⟨by rfl, ?k1xhy0⟩) hSS ?_
    case k1xhy0 => (intro wz hSw; (try dsimp only at hSw); go_simp; try (with_reducible rfl))
    refine wpAnyE_take0 (i := 1) (v := ?k1xv1) rfl (by kernel_rfl) (by kernel_rfl) (by kernel_rfl) (by decide) (fun _ _ _ h => h) (Or.inl ⟨by rfl, ?k1xhy1⟩) hSS ?_
    case k1xhy1 => (intro wz hSw; (try dsimp only at hSw); go_simp; try (with_reducible rfl))
    refine wpAnyE_take0 (i := 2) (v := ?k1xv2) rfl (by kernel_rfl) (by kernel_rfl) (by kernel_rfl) (by decide) (fun _ _ _ h => h) (Or.inl ⟨by rfl, ?k1xhy2⟩) hSS ?_
    case k1xhy2 => (intro wz hSw; (try dsimp only at hSw); go_simp; try (with_reducible rfl))
    refine wpAnyE_one (i := 3) (by kernel_rfl) rfl (fun K hK => ?_)
    go_simp
    refine (shome_any cl _ _ _ ss _ _ _ G _ _ _ S x _ hP (wf_small (by omega) (by omega))).mono ?_
    rintro ee w5 ⟨rfl, b3⟩
    rw [← HOK.out, ← HH.out]
    replace BB := BB.trans (b3.mono BB.size)
    replace hP := hP.below b3
    replace q3 := q3.below b3
    clear b3
    clear hSS
    have hSS : (w5.cell? ⟨X3, 0, none⟩ = some (.int .i64 cl) ∧ w5.cell? ⟨X3, 1, none⟩ = some (.slice ad N c) ∧ w5.cell? ⟨X3, 2, none⟩ = some (.slice ga gn gc) ∧ w5.cell? ⟨X3, 3, none⟩ = some (.slice sa sn sc)) ∧ True := ⟨⟨q3.cell 0, q3.cell 1, q3.cell 2, q3.cell 3⟩, trivial⟩
    (try dsimp only)
    refine hK.out _ _ ⟨hSS.1, fun _ => trivial⟩ ?_
    clear hK K
    refine wpAnyE_take0 (i := 4) (v := ?k1xv4) rfl (by kernel_rfl) (by kernel_rfl) (by kernel_rfl) (by decide) (fun _ _ _ h => h) (Or.inl ⟨by rfl, ?k1xhy4⟩) hSS ?_
    case k1xhy4 => (intro wz hSw; (try dsimp only at hSw); go_simp; try (with_reducible rfl))
    refine wpAnyE_take0 (i := 5) (v := ?k1xv5) rfl (by kernel_rfl) (by kernel_rfl) (by kernel_rfl) (by decide) (fun _ _ _ h => h) (Or.inl ⟨by rfl, ?k1xhy5⟩) hSS ?_
    case k1xhy5 => (intro wz hSw; (try dsimp only at hSw); go_simp; try (with_reducible rfl))
    refine wpAnyE_take0 (i := 6) (v := ?k1xv6) rfl (by kernel_rfl) (by kernel_rfl) (by kernel_rfl) (by decide) (fun _ _ _ h => h) (Or.inl ⟨by rfl, ?k1xhy6⟩) hSS ?_
    case k1xhy6 => (intro wz hSw; (try dsimp only at hSw); go_simp; try (with_reducible rfl))
    refine wpAnyE_take0 (i := 8) (v := ?k1xv8) rfl (by kernel_rfl) (by kernel_rfl) (by kernel_rfl) (by decide) (fun _ _ _ h => h) (Or.inl ⟨by rfl, ?k1xhy8⟩) hSS ?_
    case k1xhy8 => (intro wz hSw; (try dsimp only at hSw); go_simp; try (with_reducible rfl))
    simp only [Act.put, List.setIfInBounds_toArray, List.set_cons_succ, List.set_cons_zero, List.getElem_toArray, List.getElem_cons_succ, List.getElem_cons_zero]
    refine wpAnyE_one (i := 7) (by kernel_rfl) rfl (fun K hK => ?_)
    go_simp
    refine (iplnok_any cl _ _ _ ss _ _ _ G _ _ _ S _ hP).mono ?_
    rintro ee w6 ⟨rfl, b4⟩
    rw [← HOK.out]
    replace BB := BB.trans (b4.mono BB.size)
    replace hP := hP.below b4
    replace q3 := q3.below b4
    clear b4
    clear hSS
    have hSS : (w6.cell? ⟨X3, 0, none⟩ = some (.int .i64 cl) ∧ w6.cell? ⟨X3, 1, none⟩ = some (.slice ad N c) ∧ w6.cell? ⟨X3, 2, none⟩ = some (.slice ga gn gc) ∧ w6.cell? ⟨X3, 3, none⟩ = some (.slice sa sn sc)) ∧ True := ⟨⟨q3.cell 0, q3.cell 1, q3.cell 2, q3.cell 3⟩, trivial⟩
    (try dsimp only)
    refine hK.out _ _ ⟨hSS.1, fun _ => trivial⟩ ?_
    clear hK K
    refine wpAnyE_one (i := 9) (by kernel_rfl) rfl (fun K hK => ?_)
    go_simp
    refine (splnok_any cl _ _ _ ss _ _ _ G _ _ _ S _ hP).mono ?_
    rintro ee w7 ⟨rfl, b5⟩
    rw [← HOK.out]
    replace BB := BB.trans (b5.mono BB.size)
    replace hP := hP.below b5
    replace q3 := q3.below b5
    clear b5
    clear hSS
    have hSS : (w7.cell? ⟨X3, 0, none⟩ = some (.int .i64 cl) ∧ w7.cell? ⟨X3, 1, none⟩ = some (.slice ad N c) ∧ w7.cell? ⟨X3, 2, none⟩ = some (.slice ga gn gc) ∧ w7.cell? ⟨X3, 3, none⟩ = some (.slice sa sn sc)) ∧ True := ⟨⟨q3.cell 0, q3.cell 1, q3.cell 2, q3.cell 3⟩, trivial⟩
    (try dsimp only)
    refine hK.out _ _ ⟨hSS.1, fun _ => trivial⟩ ?_
    clear hK K
    refine wpAnyE_take0 (i := 10) (v := ?k1xv10) rfl (by kernel_rfl) (by kernel_rfl) (by kernel_rfl) (by decide) (fun _ _ _ h => h) (Or.inl ⟨by rfl, ?k1xhy10⟩) hSS ?_
    case k1xhy10 => (intro wz hSw; (try dsimp only at hSw); go_simp; try (with_reducible rfl))
    refine wpAnyE_one (i := 11) (by kernel_rfl) rfl (fun K hK => ?_)
    go_simp
    refine hK.out _ _ ⟨hSS.1, fun _ => trivial⟩ ?_
    clear hK K
    refine wpAnyE_done (by kernel_rfl) ?_ _
    clear hSS
    clear hHH hOO
    have g3_0 := q3.cell 0
    have g3_1 := q3.cell 1
    have g3_2 := q3.cell 2
    have g3_3 := q3.cell 3
    simp only [List.getElem?_cons_zero, List.getElem?_cons_succ] at g3_0 g3_1 g3_2 g3_3
    go_wp2_with fail
    refine (splnok_any cl _ _ _ ss _ _ _ G _ _ _ S _ hP).mono ?_
    rintro ee w8 ⟨rfl, b6⟩
    rw [← HOK.out]
    clear g3_0 g3_1 g3_2 g3_3
    replace BB := BB.trans (b6.mono BB.size)
    replace hP := hP.below b6
    replace q3 := q3.below b6
    clear b6
    cases hO : ok
    · obtain rfl : H = -1 := by (rw [HH.out]; exact home_no (by rw [hO]; simp))
      subst hO
      have g3_0 := q3.cell 0
      have g3_1 := q3.cell 1
      have g3_2 := q3.cell 2
      have g3_3 := q3.cell 3
      simp only [List.getElem?_cons_zero, List.getElem?_cons_succ] at g3_0 g3_1 g3_2 g3_3
      go_wp2_with fail
      refine (coHolds_any _).mono ?_
      rintro ee w9 ⟨rfl, bh⟩
      clear g3_0 g3_1 g3_2 g3_3
      replace BB := BB.trans (bh.mono BB.size)
      replace hP := hP.below bh
      replace q3 := q3.below bh
      clear bh
      go_wp2
      go_ret
      exact ⟨rfl, BB⟩
    · subst hO
      by_cases hx0 : x < 0
      · obtain rfl : H = -1 := by (rw [HH.out]; exact home_no (by omega))
        have g3_0 := q3.cell 0
        have g3_1 := q3.cell 1
        have g3_2 := q3.cell 2
        have g3_3 := q3.cell 3
        simp only [List.getElem?_cons_zero, List.getElem?_cons_succ] at g3_0 g3_1 g3_2 g3_3
        go_wp2_with fail
        refine (coHolds_any _).mono ?_
        rintro ee w9 ⟨rfl, bh⟩
        clear g3_0 g3_1 g3_2 g3_3
        replace BB := BB.trans (bh.mono BB.size)
        replace hP := hP.below bh
        replace q3 := q3.below bh
        clear bh
        go_wp2
        go_ret
        exact ⟨rfl, BB⟩
      · have hx0' : ¬ (x < 0) := by omega
        by_cases hxc : cl ≤ x
        · obtain rfl : H = -1 := by (rw [HH.out]; exact home_no (by omega))
          have g3_0 := q3.cell 0
          have g3_1 := q3.cell 1
          have g3_2 := q3.cell 2
          have g3_3 := q3.cell 3
          simp only [List.getElem?_cons_zero, List.getElem?_cons_succ] at g3_0 g3_1 g3_2 g3_3
          go_wp2_with fail
          refine (coHolds_any _).mono ?_
          rintro ee w9 ⟨rfl, bh⟩
          clear g3_0 g3_1 g3_2 g3_3
          replace BB := BB.trans (bh.mono BB.size)
          replace hP := hP.below bh
          replace q3 := q3.below bh
          clear bh
          go_wp2
          go_ret
          exact ⟨rfl, BB⟩
        · have hxc' : ¬ (cl ≤ x) := by omega
          have hpp := (pln_parts HOK.out.symm).2
          have hge : homeN true cl x gn = x % gn := home_yes (by omega) (by omega)
          have hH : H = x % gn := HH.out.trans hge
          have hH0 : 0 ≤ H := by rw [hH]; exact Int.emod_nonneg _ (by omega)
          have hH1 : H < (gn : Int) := by rw [hH]; exact Int.emod_lt_of_pos _ (by omega)
          have HHx : Hid (H = x % gn) := hH
          clear hH hge HH
          by_cases hz : x = 0
          · obtain rfl : H = 0 := by (rw [HHx.out, hz]; simp)
            subst hz
            have hgN : 0 < gn := by omega
            have hgD : decide (0 < gn) = true := decide_eq_true hgN
            have hgD2 : decide ((0 : Int) < (gn : Int)) = true := decide_eq_true hH1
            clear hH0 HHx x0 x1 hx0' hxc'
            have g3_0 := q3.cell 0
            have g3_1 := q3.cell 1
            have g3_2 := q3.cell 2
            have g3_3 := q3.cell 3
            simp only [List.getElem?_cons_zero, List.getElem?_cons_succ] at g3_0 g3_1 g3_2 g3_3
            go_upto_region 9 with fail
            clear g3_0 g3_1 g3_2 g3_3
            refine wp_region_ends (fun X => X.cell? ⟨X3, 0, none⟩ = some (.int .i64 cl) ∧ X.cell? ⟨X3, 1, none⟩ = some (.slice ad N c) ∧ X.cell? ⟨X3, 2, none⟩ = some (.slice ga gn gc) ∧ X.cell? ⟨X3, 3, none⟩ = some (.slice sa sn sc)) (fun _ => True) 34 (by kernel_rfl) ?_
            have dr : Below w8.heap.size w8 w8.drew := (Below.refl _ _).drew
            replace BB := BB.trans (dr.mono BB.size)
            replace hP := hP.below dr
            replace q3 := q3.below dr
            clear dr
            obtain ⟨V9, hV9⟩ : ∃ V, V = w8.drew := ⟨_, rfl⟩
            rw [← hV9]
            rw [← hV9] at hP q3 BB
            clear hV9
            have hSS : (V9.cell? ⟨X3, 0, none⟩ = some (.int .i64 cl) ∧ V9.cell? ⟨X3, 1, none⟩ = some (.slice ad N c) ∧ V9.cell? ⟨X3, 2, none⟩ = some (.slice ga gn gc) ∧ V9.cell? ⟨X3, 3, none⟩ = some (.slice sa sn sc)) ∧ True := ⟨⟨q3.cell 0, q3.cell 1, q3.cell 2, q3.cell 3⟩, trivial⟩
            refine wpAnyE_take0 (i := 0) (v := ?k2xv0) rfl (by kernel_rfl) (by kernel_rfl) (by kernel_rfl) (by decide) (fun _ _ _ h => h) (Or.inl ⟨by rfl, ?k2xhy0⟩) hSS ?_
            case k2xhy0 => (intro wz hSw; (try dsimp only at hSw); go_simp; try (with_reducible rfl))
            refine wpAnyE_take0 (i := 1) (v := ?k2xv1) rfl (by kernel_rfl) (by kernel_rfl) (by kernel_rfl) (by decide) (fun _ _ _ h => h) (Or.inl ⟨by rfl, ?k2xhy1⟩) hSS ?_
            case k2xhy1 => (intro wz hSw; (try dsimp only at hSw); go_simp; try (with_reducible rfl))
            refine wpAnyE_take0 (i := 2) (v := ?k2xv2) rfl (by kernel_rfl) (by kernel_rfl) (by kernel_rfl) (by decide) (fun _ _ _ h => h) (Or.inl ⟨by rfl, ?k2xhy2⟩) hSS ?_
            case k2xhy2 => (intro wz hSw; (try dsimp only at hSw); go_simp; try (with_reducible rfl))
            refine wpAnyE_take0 (i := 3) (v := ?k2xv3) rfl (by kernel_rfl) (by kernel_rfl) (by kernel_rfl) (by decide) (fun _ _ _ h => h) (Or.inl ⟨by rfl, ?k2xhy3⟩) hSS ?_
            case k2xhy3 => (intro wz hSw; (try dsimp only at hSw); go_simp; try (with_reducible rfl))
            simp only [Act.put, List.setIfInBounds_toArray, List.set_cons_succ, List.set_cons_zero, List.getElem_toArray, List.getElem_cons_succ, List.getElem_cons_zero]
            refine wpAnyE_take0 (i := 4) (v := ?k2xv4) rfl (by kernel_rfl) (by kernel_rfl) (by kernel_rfl) (by decide) (fun _ _ _ h => h) (Or.inl ⟨by rfl, ?k2xhy4⟩) hSS ?_
            case k2xhy4 => (intro wz hSw; (try dsimp only at hSw); go_simp; try (with_reducible rfl))
            refine wpAnyE_take0 (i := 5) (v := ?k2xv5) rfl (by kernel_rfl) (by kernel_rfl) (by kernel_rfl) (by decide) (fun _ _ _ h => h) (Or.inl ⟨by rfl, ?k2xhy5⟩) hSS ?_
            case k2xhy5 => (intro wz hSw; (try dsimp only at hSw); go_simp; try (with_reducible rfl))
            refine wpAnyE_take0 (i := 6) (v := ?k2xv6) rfl (by kernel_rfl) (by kernel_rfl) (by kernel_rfl) (by decide) (fun _ _ _ h => h) (Or.inl ⟨by rfl, ?k2xhy6⟩) hSS ?_
            case k2xhy6 => (intro wz hSw; (try dsimp only at hSw); go_simp; try (with_reducible rfl))
            refine wpAnyE_take0 (i := 7) (v := ?k2xv7) rfl (by kernel_rfl) (by kernel_rfl) (by kernel_rfl) (by decide) (fun _ _ _ h => h) (Or.inl ⟨by rfl, ?k2xhy7⟩) hSS ?_
            case k2xhy7 => (intro wz hSw; (try dsimp only at hSw); go_simp; try (with_reducible rfl))
            simp only [Act.put, List.setIfInBounds_toArray, List.set_cons_succ, List.set_cons_zero, List.getElem_toArray, List.getElem_cons_succ, List.getElem_cons_zero]
            refine wpAnyE_take0 (i := 8) (v := ?k2xv8) rfl (by kernel_rfl) (by kernel_rfl) (by kernel_rfl) (by decide) (fun _ _ _ h => h) (Or.inl ⟨by rfl, ?k2xhy8⟩) hSS ?_
            case k2xhy8 => (intro wz hSw; (try dsimp only at hSw); go_simp; try (with_reducible rfl))
            refine wpAnyE_take0 (i := 9) (v := ?k2xv9) rfl (by kernel_rfl) (by kernel_rfl) (by kernel_rfl) (by decide) (fun _ _ _ h => h) (Or.inl ⟨by rfl, ?k2xhy9⟩) hSS ?_
            case k2xhy9 => (intro wz hSw; (try dsimp only at hSw); go_simp; try (with_reducible rfl))
            refine wpAnyE_take0 (i := 10) (v := ?k2xv10) rfl (by kernel_rfl) (by kernel_rfl) (by kernel_rfl) (by decide) (fun _ _ _ h => h) (Or.inl ⟨by rfl, ?k2xhy10⟩) hSS ?_
            case k2xhy10 => (intro wz hSw; (try dsimp only at hSw); go_simp; try (with_reducible rfl))
            refine wpAnyE_take0 (i := 11) (v := ?k2xv11) rfl (by kernel_rfl) (by kernel_rfl) (by kernel_rfl) (by decide) (fun _ _ _ h => h) (Or.inl ⟨by rfl, ?k2xhy11⟩) hSS ?_
            case k2xhy11 => (intro wz hSw; (try dsimp only at hSw); go_simp; try (with_reducible rfl))
            simp only [Act.put, List.setIfInBounds_toArray, List.set_cons_succ, List.set_cons_zero, List.getElem_toArray, List.getElem_cons_succ, List.getElem_cons_zero]
            refine wpAnyE_take0 (i := 12) (v := ?k2xv12) rfl (by kernel_rfl) (by kernel_rfl) (by kernel_rfl) (by decide) (fun _ _ _ h => h) (Or.inl ⟨by rfl, ?k2xhy12⟩) hSS ?_
            case k2xhy12 => (intro wz hSw; (try dsimp only at hSw); go_simp; try (with_reducible rfl))
            refine wpAnyE_take0 (i := 13) (v := ?k2xv13) rfl (by kernel_rfl) (by kernel_rfl) (by kernel_rfl) (by decide) (fun _ _ _ h => h) (Or.inl ⟨by rfl, ?k2xhy13⟩) hSS ?_
            case k2xhy13 => (intro wz hSw; (try dsimp only at hSw); go_simp; try (with_reducible rfl))
            refine wpAnyE_take0 (i := 14) (v := ?k2xv14) rfl (by kernel_rfl) (by kernel_rfl) (by kernel_rfl) (by decide) (fun _ _ _ h => h) (Or.inl ⟨by rfl, ?k2xhy14⟩) hSS ?_
            case k2xhy14 => (intro wz hSw; (try dsimp only at hSw); go_simp; try (with_reducible rfl))
            refine wpAnyE_take0 (i := 15) (v := ?k2xv15) rfl (by kernel_rfl) (by kernel_rfl) (by kernel_rfl) (by decide) (fun _ _ _ h => h) (Or.inl ⟨by rfl, ?k2xhy15⟩) hSS ?_
            case k2xhy15 => (intro wz hSw; (try dsimp only at hSw); go_simp; try (with_reducible rfl))
            simp only [Act.put, List.setIfInBounds_toArray, List.set_cons_succ, List.set_cons_zero, List.getElem_toArray, List.getElem_cons_succ, List.getElem_cons_zero]
            refine wpAnyE_take0 (i := 16) (v := ?k2xv16) rfl (by kernel_rfl) (by kernel_rfl) (by kernel_rfl) (by decide) (fun _ _ _ h => h) (Or.inl ⟨by rfl, ?k2xhy16⟩) hSS ?_
            case k2xhy16 => (intro wz hSw; (try dsimp only at hSw); go_simp; try (with_reducible rfl))
            refine wpAnyE_take0 (i := 17) (v := undef) rfl (by kernel_rfl) (by kernel_rfl) (by kernel_rfl) (by decide) (fun _ _ _ h => h) (Or.inr ⟨by kernel_rfl, rfl⟩) hSS ?_
            refine wpAnyE_take0 (i := 18) (v := undef) rfl (by kernel_rfl) (by kernel_rfl) (by kernel_rfl) (by decide) (fun _ _ _ h => h) (Or.inr ⟨by kernel_rfl, rfl⟩) hSS ?_
            refine wpAnyE_take0 (i := 19) (v := undef) rfl (by kernel_rfl) (by kernel_rfl) (by kernel_rfl) (by decide) (fun _ _ _ h => h) (Or.inr ⟨by kernel_rfl, rfl⟩) hSS ?_
            simp only [Act.put, List.setIfInBounds_toArray, List.set_cons_succ, List.set_cons_zero, List.getElem_toArray, List.getElem_cons_succ, List.getElem_cons_zero]
            refine wpAnyE_take0 (i := 20) (v := undef) rfl (by kernel_rfl) (by kernel_rfl) (by kernel_rfl) (by decide) (fun _ _ _ h => h) (Or.inr ⟨by kernel_rfl, rfl⟩) hSS ?_
            refine wpAnyE_take0 (i := 21) (v := undef) rfl (by kernel_rfl) (by kernel_rfl) (by kernel_rfl) (by decide) (fun _ _ _ h => h) (Or.inr ⟨by kernel_rfl, rfl⟩) hSS ?_
            refine wpAnyE_take0 (i := 22) (v := undef) rfl (by kernel_rfl) (by kernel_rfl) (by kernel_rfl) (by decide) (fun _ _ _ h => h) (Or.inr ⟨by kernel_rfl, rfl⟩) hSS ?_
            refine wpAnyE_take0 (i := 23) (v := undef) rfl (by kernel_rfl) (by kernel_rfl) (by kernel_rfl) (by decide) (fun _ _ _ h => h) (Or.inr ⟨by kernel_rfl, rfl⟩) hSS ?_
            simp only [Act.put, List.setIfInBounds_toArray, List.set_cons_succ, List.set_cons_zero, List.getElem_toArray, List.getElem_cons_succ, List.getElem_cons_zero]
            refine wpAnyE_take0 (i := 26) (v := undef) rfl (by kernel_rfl) (by kernel_rfl) (by kernel_rfl) (by decide) (fun _ _ _ h => h) (Or.inr ⟨by kernel_rfl, rfl⟩) hSS ?_
            refine wpAnyE_take0 (i := 27) (v := undef) rfl (by kernel_rfl) (by kernel_rfl) (by kernel_rfl) (by decide) (fun _ _ _ h => h) (Or.inr ⟨by kernel_rfl, rfl⟩) hSS ?_
            refine wpAnyE_take0 (i := 28) (v := undef) rfl (by kernel_rfl) (by kernel_rfl) (by kernel_rfl) (by decide) (fun _ _ _ h => h) (Or.inr ⟨by kernel_rfl, rfl⟩) hSS ?_
            refine wpAnyE_take0 (i := 24) (v := undef) rfl (by kernel_rfl) (by kernel_rfl) (by kernel_rfl) (by decide) (fun _ _ _ h => h) (Or.inr ⟨by kernel_rfl, rfl⟩) hSS ?_
            simp only [Act.put, List.setIfInBounds_toArray, List.set_cons_succ, List.set_cons_zero, List.getElem_toArray, List.getElem_cons_succ, List.getElem_cons_zero]
            refine wpAnyE_take0 (i := 25) (v := undef) rfl (by kernel_rfl) (by kernel_rfl) (by kernel_rfl) (by decide) (fun _ _ _ h => h) (Or.inr ⟨by kernel_rfl, rfl⟩) hSS ?_
            refine wpAnyE_take0 (i := 29) (v := undef) rfl (by kernel_rfl) (by kernel_rfl) (by kernel_rfl) (by decide) (fun _ _ _ h => h) (Or.inr ⟨by kernel_rfl, rfl⟩) hSS ?_
            refine wpAnyE_take0 (i := 30) (v := undef) rfl (by kernel_rfl) (by kernel_rfl) (by kernel_rfl) (by decide) (fun _ _ _ h => h) (Or.inr ⟨by kernel_rfl, rfl⟩) hSS ?_
            refine wpAnyE_take0 (i := 31) (v := undef) rfl (by kernel_rfl) (by kernel_rfl) (by kernel_rfl) (by decide) (fun _ _ _ h => h) (Or.inr ⟨by kernel_rfl, rfl⟩) hSS ?_
            simp only [Act.put, List.setIfInBounds_toArray, List.set_cons_succ, List.set_cons_zero, List.getElem_toArray, List.getElem_cons_succ, List.getElem_cons_zero]
            refine wpAnyE_take0 (i := 32) (v := ?k2xv32) rfl (by kernel_rfl) (by kernel_rfl) (by kernel_rfl) (by decide) (fun _ _ _ h => h) (Or.inl ⟨by rfl, ?k2xhy32⟩) hSS ?_
            case k2xhy32 => (intro wz hSw; (try dsimp only at hSw); go_simp; try (with_reducible rfl))
            refine wpAnyE_take0 (i := 33) (v := ?k2xv33) rfl (by kernel_rfl) (by kernel_rfl) (by kernel_rfl) (by decide) (fun _ _ _ h => h) (Or.inl ⟨by rfl, ?k2xhy33⟩) hSS ?_
            case k2xhy33 => (intro wz hSw; (try dsimp only at hSw); go_simp; try (with_reducible rfl))
            refine wpAnyE_one (i := 34) (by kernel_rfl) rfl (fun K hK => ?_)
            go_simp
            refine hK.out _ _ ⟨hSS.1, fun _ => trivial⟩ ?_
            clear hK K
            refine wpAnyE_done (by kernel_rfl) ?_ _
            clear hSS
            go_wp2
            go_ret
            exact ⟨rfl, BB⟩
          · have ex : (x == 0) = false := by simpa using hz
            have hxp : 0 < x := by omega
            obtain ⟨H', hH'⟩ : ∃ b, b = homeN true cl (x - 1) gn := ⟨_, rfl⟩
            have HH' : Hid (H' = homeN true cl (x - 1) gn) := hH'
            have e1 : H' = (x - 1) % gn := hH'.trans (home_yes (by omega) (by omega))
            have hn0 : 0 ≤ H' := by rw [e1]; exact Int.emod_nonneg _ (by omega)
            have hn1' : H' < (gn : Int) := by rw [e1]; exact Int.emod_lt_of_pos _ (by omega)
            have e2 : (H' + 1) % (gn : Int) = H := by rw [e1, HHx.out]; exact mod_next hxp
            have e3 : (H' + 1).tmod (gn : Int) = H := by rw [Int.tmod_eq_emod_of_nonneg (by omega)]; exact e2
            have w1 : IntKind.i64.wrap (H' + 1) = H' + 1 := wrap_id (by omega) (by omega)
            have w2 : IntKind.i64.wrap (x - 1) = x - 1 := wrap_id (by omega) (by omega)
            have w3 : IntKind.i64.wrap H = H := wrap_id (by omega) (by omega)
            have hg0 : ¬ (gn : Int) = 0 := by omega
            have hg0' : ((gn : Int) == 0) = false := by simpa using hg0
            have hg2 : ¬ gn = 0 := by omega
            have hHs : (H == H) = true := by simp
            clear e1 hH' HHx hz
            have g3_0 := q3.cell 0
            have g3_1 := q3.cell 1
            have g3_2 := q3.cell 2
            have g3_3 := q3.cell 3
            simp only [List.getElem?_cons_zero, List.getElem?_cons_succ] at g3_0 g3_1 g3_2 g3_3
            go_upto_region 9 with fail
            clear g3_0 g3_1 g3_2 g3_3
            refine wp_region_ends (fun X => X.cell? ⟨X3, 0, none⟩ = some (.int .i64 cl) ∧ X.cell? ⟨X3, 1, none⟩ = some (.slice ad N c) ∧ X.cell? ⟨X3, 2, none⟩ = some (.slice ga gn gc) ∧ X.cell? ⟨X3, 3, none⟩ = some (.slice sa sn sc)) (fun _ => True) 34 (by kernel_rfl) ?_
            have dr : Below w8.heap.size w8 w8.drew := (Below.refl _ _).drew
            replace BB := BB.trans (dr.mono BB.size)
            replace hP := hP.below dr
            replace q3 := q3.below dr
            clear dr
            obtain ⟨V9, hV9⟩ : ∃ V, V = w8.drew := ⟨_, rfl⟩
            rw [← hV9]
            rw [← hV9] at hP q3 BB
            clear hV9
            have hSS : (V9.cell? ⟨X3, 0, none⟩ = some (.int .i64 cl) ∧ V9.cell? ⟨X3, 1, none⟩ = some (.slice ad N c) ∧ V9.cell? ⟨X3, 2, none⟩ = some (.slice ga gn gc) ∧ V9.cell? ⟨X3, 3, none⟩ = some (.slice sa sn sc)) ∧ True := ⟨⟨q3.cell 0, q3.cell 1, q3.cell 2, q3.cell 3⟩, trivial⟩
            refine wpAnyE_take0 (i := 0) (v := ?k3xv0) rfl (by kernel_rfl) (by kernel_rfl) (by kernel_rfl) (by decide) (fun _ _ _ h => h) (Or.inl ⟨by rfl, ?k3xhy0⟩) hSS ?_
            case k3xhy0 => (intro wz hSw; (try dsimp only at hSw); go_simp; try (with_reducible rfl))
            refine wpAnyE_take0 (i := 1) (v := ?k3xv1) rfl (by kernel_rfl) (by kernel_rfl) (by kernel_rfl) (by decide) (fun _ _ _ h => h) (Or.inl ⟨by rfl, ?k3xhy1⟩) hSS ?_
            case k3xhy1 => (intro wz hSw; (try dsimp only at hSw); go_simp; try (with_reducible rfl))
            refine wpAnyE_take0 (i := 2) (v := ?k3xv2) rfl (by kernel_rfl) (by kernel_rfl) (by kernel_rfl) (by decide) (fun _ _ _ h => h) (Or.inl ⟨by rfl, ?k3xhy2⟩) hSS ?_
            case k3xhy2 => (intro wz hSw; (try dsimp only at hSw); go_simp; try (with_reducible rfl))
            refine wpAnyE_take0 (i := 3) (v := ?k3xv3) rfl (by kernel_rfl) (by kernel_rfl) (by kernel_rfl) (by decide) (fun _ _ _ h => h) (Or.inl ⟨by rfl, ?k3xhy3⟩) hSS ?_
            case k3xhy3 => (intro wz hSw; (try dsimp only at hSw); go_simp; try (with_reducible rfl))
            simp only [Act.put, List.setIfInBounds_toArray, List.set_cons_succ, List.set_cons_zero, List.getElem_toArray, List.getElem_cons_succ, List.getElem_cons_zero]
            refine wpAnyE_take0 (i := 4) (v := ?k3xv4) rfl (by kernel_rfl) (by kernel_rfl) (by kernel_rfl) (by decide) (fun _ _ _ h => h) (Or.inl ⟨by rfl, ?k3xhy4⟩) hSS ?_
            case k3xhy4 => (intro wz hSw; (try dsimp only at hSw); go_simp; try (with_reducible rfl))
            refine wpAnyE_take0 (i := 5) (v := ?k3xv5) rfl (by kernel_rfl) (by kernel_rfl) (by kernel_rfl) (by decide) (fun _ _ _ h => h) (Or.inl ⟨by rfl, ?k3xhy5⟩) hSS ?_
            case k3xhy5 => (intro wz hSw; (try dsimp only at hSw); go_simp; try (with_reducible rfl))
            refine wpAnyE_take0 (i := 6) (v := ?k3xv6) rfl (by kernel_rfl) (by kernel_rfl) (by kernel_rfl) (by decide) (fun _ _ _ h => h) (Or.inl ⟨by rfl, ?k3xhy6⟩) hSS ?_
            case k3xhy6 => (intro wz hSw; (try dsimp only at hSw); go_simp; try (with_reducible rfl))
            refine wpAnyE_take0 (i := 7) (v := ?k3xv7) rfl (by kernel_rfl) (by kernel_rfl) (by kernel_rfl) (by decide) (fun _ _ _ h => h) (Or.inl ⟨by rfl, ?k3xhy7⟩) hSS ?_
            case k3xhy7 => (intro wz hSw; (try dsimp only at hSw); go_simp; try (with_reducible rfl))
            simp only [Act.put, List.setIfInBounds_toArray, List.set_cons_succ, List.set_cons_zero, List.getElem_toArray, List.getElem_cons_succ, List.getElem_cons_zero]
            refine wpAnyE_take0 (i := 8) (v := ?k3xv8) rfl (by kernel_rfl) (by kernel_rfl) (by kernel_rfl) (by decide) (fun _ _ _ h => h) (Or.inl ⟨by rfl, ?k3xhy8⟩) hSS ?_
            case k3xhy8 => (intro wz hSw; (try dsimp only at hSw); go_simp; try (with_reducible rfl))
            refine wpAnyE_take0 (i := 9) (v := ?k3xv9) rfl (by kernel_rfl) (by kernel_rfl) (by kernel_rfl) (by decide) (fun _ _ _ h => h) (Or.inl ⟨by rfl, ?k3xhy9⟩) hSS ?_
            case k3xhy9 => (intro wz hSw; (try dsimp only at hSw); go_simp; try (with_reducible rfl))
            refine wpAnyE_take0 (i := 10) (v := ?k3xv10) rfl (by kernel_rfl) (by kernel_rfl) (by kernel_rfl) (by decide) (fun _ _ _ h => h) (Or.inl ⟨by rfl, ?k3xhy10⟩) hSS ?_
            case k3xhy10 => (intro wz hSw; (try dsimp only at hSw); go_simp; try (with_reducible rfl))
            refine wpAnyE_take0 (i := 11) (v := ?k3xv11) rfl (by kernel_rfl) (by kernel_rfl) (by kernel_rfl) (by decide) (fun _ _ _ h => h) (Or.inl ⟨by rfl, ?k3xhy11⟩) hSS ?_
            case k3xhy11 => (intro wz hSw; (try dsimp only at hSw); go_simp; try (with_reducible rfl))
            simp only [Act.put, List.setIfInBounds_toArray, List.set_cons_succ, List.set_cons_zero, List.getElem_toArray, List.getElem_cons_succ, List.getElem_cons_zero]
            refine wpAnyE_take0 (i := 12) (v := ?k3xv12) rfl (by kernel_rfl) (by kernel_rfl) (by kernel_rfl) (by decide) (fun _ _ _ h => h) (Or.inl ⟨by rfl, ?k3xhy12⟩) hSS ?_
            case k3xhy12 => (intro wz hSw; (try dsimp only at hSw); go_simp; try (with_reducible rfl))
            refine wpAnyE_take0 (i := 13) (v := undef) rfl (by kernel_rfl) (by kernel_rfl) (by kernel_rfl) (by decide) (fun _ _ _ h => h) (Or.inr ⟨by kernel_rfl, rfl⟩) hSS ?_
            refine wpAnyE_take0 (i := 14) (v := undef) rfl (by kernel_rfl) (by kernel_rfl) (by kernel_rfl) (by decide) (fun _ _ _ h => h) (Or.inr ⟨by kernel_rfl, rfl⟩) hSS ?_
            refine wpAnyE_take0 (i := 15) (v := ?k3xv15) rfl (by kernel_rfl) (by kernel_rfl) (by kernel_rfl) (by decide) (fun _ _ _ h => h) (Or.inl ⟨by rfl, ?k3xhy15⟩) hSS ?_
            case k3xhy15 => (intro wz hSw; (try dsimp only at hSw); go_simp; try (with_reducible rfl))
            simp only [Act.put, List.setIfInBounds_toArray, List.set_cons_succ, List.set_cons_zero, List.getElem_toArray, List.getElem_cons_succ, List.getElem_cons_zero]
            refine wpAnyE_take0 (i := 16) (v := ?k3xv16) rfl (by kernel_rfl) (by kernel_rfl) (by kernel_rfl) (by decide) (fun _ _ _ h => h) (Or.inl ⟨by rfl, ?k3xhy16⟩) hSS ?_
            case k3xhy16 => (intro wz hSw; (try dsimp only at hSw); go_simp; try (with_reducible rfl))
            refine wpAnyE_take0 (i := 17) (v := ?k3xv17) rfl (by kernel_rfl) (by kernel_rfl) (by kernel_rfl) (by decide) (fun _ _ _ h => h) (Or.inl ⟨by rfl, ?k3xhy17⟩) hSS ?_
            case k3xhy17 => (intro wz hSw; (try dsimp only at hSw); go_simp; try (with_reducible rfl))
            refine wpAnyE_take0 (i := 18) (v := ?k3xv18) rfl (by kernel_rfl) (by kernel_rfl) (by kernel_rfl) (by decide) (fun _ _ _ h => h) (Or.inl ⟨by rfl, ?k3xhy18⟩) hSS ?_
            case k3xhy18 => (intro wz hSw; (try dsimp only at hSw); go_simp; try (with_reducible rfl))
            refine wpAnyE_take0 (i := 19) (v := ?k3xv19) rfl (by kernel_rfl) (by kernel_rfl) (by kernel_rfl) (by decide) (fun _ _ _ h => h) (Or.inl ⟨by rfl, ?k3xhy19⟩) hSS ?_
            case k3xhy19 => (intro wz hSw; (try dsimp only at hSw); go_simp; try (with_reducible rfl))
            simp only [Act.put, List.setIfInBounds_toArray, List.set_cons_succ, List.set_cons_zero, List.getElem_toArray, List.getElem_cons_succ, List.getElem_cons_zero]
            refine wpAnyE_take0 (i := 20) (v := ?k3xv20) rfl (by kernel_rfl) (by kernel_rfl) (by kernel_rfl) (by decide) (fun _ _ _ h => h) (Or.inl ⟨by rfl, ?k3xhy20⟩) hSS ?_
            case k3xhy20 => (intro wz hSw; (try dsimp only at hSw); go_simp; try (with_reducible rfl))
            refine wpAnyE_take0 (i := 21) (v := ?k3xv21) rfl (by kernel_rfl) (by kernel_rfl) (by kernel_rfl) (by decide) (fun _ _ _ h => h) (Or.inl ⟨by rfl, ?k3xhy21⟩) hSS ?_
            case k3xhy21 => (intro wz hSw; (try dsimp only at hSw); go_simp; try (with_reducible rfl))
            refine wpAnyE_take0 (i := 22) (v := ?k3xv22) rfl (by kernel_rfl) (by kernel_rfl) (by kernel_rfl) (by decide) (fun _ _ _ h => h) (Or.inl ⟨by rfl, ?k3xhy22⟩) hSS ?_
            case k3xhy22 => (intro wz hSw; (try dsimp only at hSw); go_simp; try (with_reducible rfl))
            refine wpAnyE_take0 (i := 23) (v := ?k3xv23) rfl (by kernel_rfl) (by kernel_rfl) (by kernel_rfl) (by decide) (fun _ _ _ h => h) (Or.inl ⟨by rfl, ?k3xhy23⟩) hSS ?_
            case k3xhy23 => (intro wz hSw; (try dsimp only at hSw); go_simp; try (with_reducible rfl))
            simp only [Act.put, List.setIfInBounds_toArray, List.set_cons_succ, List.set_cons_zero, List.getElem_toArray, List.getElem_cons_succ, List.getElem_cons_zero]
            refine wpAnyE_take0 (i := 26) (v := ?k3xv26) rfl (by kernel_rfl) (by kernel_rfl) (by kernel_rfl) (by decide) (fun _ _ _ h => h) (Or.inl ⟨by rfl, ?k3xhy26⟩) hSS ?_
            case k3xhy26 => (intro wz hSw; (try dsimp only at hSw); go_simp; try (with_reducible rfl))
            refine wpAnyE_take0 (i := 27) (v := ?k3xv27) rfl (by kernel_rfl) (by kernel_rfl) (by kernel_rfl) (by decide) (fun _ _ _ h => h) (Or.inl ⟨by rfl, ?k3xhy27⟩) hSS ?_
            case k3xhy27 => (intro wz hSw; (try dsimp only at hSw); go_simp; try (with_reducible rfl))
            refine wpAnyE_take0 (i := 28) (v := ?k3xv28) rfl (by kernel_rfl) (by kernel_rfl) (by kernel_rfl) (by decide) (fun _ _ _ h => h) (Or.inl ⟨by rfl, ?k3xhy28⟩) hSS ?_
            case k3xhy28 => (intro wz hSw; (try dsimp only at hSw); go_simp; try (with_reducible rfl))
            refine wpAnyE_one (i := 24) (by kernel_rfl) rfl (fun K hK => ?_)
            go_simp
            refine (ihome_any cl _ _ _ ss _ _ _ G _ _ _ S (x - 1) _ hP (wf_small (by omega) (by omega))).mono ?_
            rintro ee w10 ⟨rfl, b9⟩
            rw [← HOK.out, ← HH'.out]
            replace BB := BB.trans (b9.mono BB.size)
            replace hP := hP.below b9
            replace q3 := q3.below b9
            clear b9
            clear hSS
            have hSS : (w10.cell? ⟨X3, 0, none⟩ = some (.int .i64 cl) ∧ w10.cell? ⟨X3, 1, none⟩ = some (.slice ad N c) ∧ w10.cell? ⟨X3, 2, none⟩ = some (.slice ga gn gc) ∧ w10.cell? ⟨X3, 3, none⟩ = some (.slice sa sn sc)) ∧ True := ⟨⟨q3.cell 0, q3.cell 1, q3.cell 2, q3.cell 3⟩, trivial⟩
            (try dsimp only)
            refine hK.out _ _ ⟨hSS.1, fun _ => trivial⟩ ?_
            clear hK K
            refine wpAnyE_take0 (i := 25) (v := ?k3xv25) rfl (by kernel_rfl) (by kernel_rfl) (by kernel_rfl) (by decide) (fun _ _ _ h => h) (Or.inl ⟨by rfl, ?k3xhy25⟩) hSS ?_
            case k3xhy25 => (intro wz hSw; (try dsimp only at hSw); go_simp; try (with_reducible rfl))
            refine wpAnyE_take0 (i := 29) (v := ?k3xv29) rfl (by kernel_rfl) (by kernel_rfl) (by kernel_rfl) (by decide) (fun _ _ _ h => h) (Or.inl ⟨by rfl, ?k3xhy29⟩) hSS ?_
            case k3xhy29 => (intro wz hSw; (try dsimp only at hSw); go_simp; try (with_reducible rfl))
            refine wpAnyE_take0 (i := 30) (v := ?k3xv30) rfl (by kernel_rfl) (by kernel_rfl) (by kernel_rfl) (by decide) (fun _ _ _ h => h) (Or.inl ⟨by rfl, ?k3xhy30⟩) hSS ?_
            case k3xhy30 => (intro wz hSw; (try dsimp only at hSw); go_simp; try (with_reducible rfl))
            refine wpAnyE_take0 (i := 31) (v := ?k3xv31) rfl (by kernel_rfl) (by kernel_rfl) (by kernel_rfl) (by decide) (fun _ _ _ h => h) (Or.inl ⟨by rfl, ?k3xhy31⟩) hSS ?_
            case k3xhy31 => (intro wz hSw; (try dsimp only at hSw); go_simp; try (with_reducible rfl))
            simp only [Act.put, List.setIfInBounds_toArray, List.set_cons_succ, List.set_cons_zero, List.getElem_toArray, List.getElem_cons_succ, List.getElem_cons_zero]
            refine wpAnyE_take0 (i := 32) (v := ?k3xv32) rfl (by kernel_rfl) (by kernel_rfl) (by kernel_rfl) (by decide) (fun _ _ _ h => h) (Or.inl ⟨by rfl, ?k3xhy32⟩) hSS ?_
            case k3xhy32 => (intro wz hSw; (try dsimp only at hSw); go_simp; try (with_reducible rfl))
            refine wpAnyE_take0 (i := 33) (v := ?k3xv33) rfl (by kernel_rfl) (by kernel_rfl) (by kernel_rfl) (by decide) (fun _ _ _ h => h) (Or.inl ⟨by rfl, ?k3xhy33⟩) hSS ?_
            case k3xhy33 => (intro wz hSw; (try dsimp only at hSw); go_simp; try (with_reducible rfl))
            refine wpAnyE_one (i := 34) (by kernel_rfl) rfl (fun K hK => ?_)
            go_simp
            refine hK.out _ _ ⟨hSS.1, fun _ => trivial⟩ ?_
            clear hK K
            refine wpAnyE_done (by kernel_rfl) ?_ _
            clear hSS
            go_wp2
            go_ret
            exact ⟨rfl, BB⟩
  · go_enter Try.func5, Try.ntmps5
    go_wp2
    go_ret
    exact ⟨rfl, Below.refl _ _⟩

/-! ### The row's step -/
set_option maxRecDepth 100000 in
theorem lifted (os : Os) (started : os.Started) (H : Type) (enc : TypeId × Value → H) :
    ReturnsInHanded {} Try.checked os 5 .any (Rows.fnPlnHomeSpec.pre6 enc Try.prog Try.f5 Rows.fnPlnHomeRow.domain false) (Rows.fnPlnHomeSpec.post enc Try.prog Try.f5 false true false false) := by
  refine returnsInHanded_of_change (C := Try.checked) own started (by kernel_rfl) Try.func5
    (ChangeSpec.witness6 (enc := enc) (C := Try.checked) false ⟨#[], #[.slice none 0 0], []⟩ 8 (by kernel_rfl) (by kernel_rfl) (by kernel_rfl) (by kernel_rfl)) ?_
  intro W base args ds gs before hval0 hW hcnd _
  have hval : ∀ (j : Nat) t v, Try.f5.params[j]? = some t → args[j]? = some v → Value.okWide Try.prog W .any base t v := hval0
  have hW' := hW
  obtain ⟨p, q, hA0, hV, rfl, hfz, hnd⟩ := hW
  have hA : DataW.TrodAll enc Try.prog W 0 (fun _ => true) true Try.f5.params.toList args.toList ds p := hA0
  rw [Try.params5] at hA hval
  obtain ⟨v0, vs0, d0, ds0, p0, q0, hargs, rfl, rfl, h0, r0⟩ := trodAll_cons hA
  obtain ⟨rfl, rfl, rfl⟩ := trodAll_nil r0
  obtain rfl : args = #[v0] := by cases args; simp_all
  obtain ⟨rfl, rfl⟩ := trodVars_none hV
  have k0 := h0
  have lt0 : ∀ x ∈ p0, x.block < W.heap.size := by obtain ⟨m, hm⟩ := k0; exact DataW.trod_lt m _ _ _ hm
  obtain ⟨a0, n0, cap0, C0, rfl, hC0, hn0⟩ := open_bytesT (hval 0 22 v0 rfl rfl) h0
  clear hA0 hval0
  refine (walk W a0 n0 cap0 C0 hC0 hn0).mono fun e W' ⟨he, bel⟩ => ?_
  subst he
  exact ⟨_, rfl, _, _, _, [], _, [], hW', trodAll_mk1 (shut_bool Try.underlying4 _), (trodAll_cons_mk (Below.trod laidOut (by kernel_rfl) (of_decide_eq_true (by kernel_rfl)) k0 bel lt0) trodAll_mk0), rfl, bel.frame _, fun h => by cases h⟩

theorem over : Rows.fnPlnHomeRow.holds Try.pinned (OpenSpec.ofChange Rows.fnPlnHomeSpec) :=
  OpenClaim.holds_of_wide 5 Try.f5 rfl rfl rfl rfl rfl rfl rfl ⟨rfl, rfl, rfl, rfl, rfl⟩ rfl rfl rfl rfl rfl (by kernel_rfl) Try.func5 (by kernel_rfl)
    (of_decide_eq_true (by kernel_rfl)) (by unfold Func.isWrapper; first | (rw [if_pos (by decide +kernel)]; kernel_rfl) | (rw [if_neg (by decide +kernel)]; exact ⟨rfl, rfl⟩))
    (fun os started H enc _ => lifted os started H enc)

end Go.Proofs.Ytblabbjjkgelfaa.fnPlnHome
namespace Go.Proofs.Ytblabbjjkgelfaa
/-- The statement. -/
theorem fnPlnHome_holds : Rows.FnPlnHomeSaid := fnPlnHome.over
#print axioms fnPlnHome_holds
end Go.Proofs.Ytblabbjjkgelfaa
