/-
  RowDo: what the specification's function comes to: the same code, tells and pots. Lengths at most 1048576.
-/
import Derived.Test.YtmbhcngddpoonaaRowDoI
namespace Go.Proofs.Ytmbhcngddpoonaa
open Go.RowKit
set_option linter.unusedVariables false
set_option maxRecDepth 100000

set_option maxHeartbeats 6400000 in
theorem sdoing_any (g : Option Addr) (G cg : Nat) (gs : List FV) (a : Option Addr) (A ca : Nat) (ls : List FV) (t : Option Addr) (T ct : Nat) (ts : List FV) (st : Bool) (v : Option Addr) (p cv : Nat) (V : List Int) (u : Option Addr) (q cu : Nat) (U : List Int) (w : World) (h : RowAt w g G gs a A ls t T ts) (hV : Ints w v p V) (hU : Ints w u q U) (hp : p ≤ 1048576) (hq : q ≤ 1048576) :
    Calls Try.prog 31 #[rowV g G cg a A ca t T ct st, .slice v p cv, .slice u q cu] w fun e w' => ResD w w' e (doCode gs ls ts A T st p q V U) (doTells gs ls ts A T st p q V U) (doPots gs ls ts A T st p q V U) := by
  have n0 := (BX.new w [.slice g G cg, .slice a A ca, .slice t T ct, .bool st] 62).alloc (.cells #[.int .i64 0, .slice none 0 0] 57)
  have rc0 := Cel.new (w.alloc (.cells #[.slice g G cg, .slice a A ca, .slice t T ct, .bool st] 62)) [.int .i64 0, .slice none 0 0] 57
  rw [World.size_alloc] at rc0
  have zt := h.zt
  obtain ⟨i0, hi, hz0, hz1, hz2⟩ := info_parts Try.infoInt
  obtain ⟨rb, hrb⟩ : ∃ rb, rb = rowB gs ls ts A T st := ⟨_, rfl⟩
  obtain ⟨vb, hvb⟩ : ∃ vb, vb = okN 3 10000 p V := ⟨_, rfl⟩
  obtain ⟨ub, hub⟩ : ∃ ub, ub = okN 2 9 q U := ⟨_, rfl⟩
  have HR : Hid (rb = rowB gs ls ts A T st) := hrb
  have HV : Hid (vb = okN 3 10000 p V) := hvb
  have HU : Hid (ub = okN 2 9 q U) := hub
  clear hrb hvb hub
  go_enter Try.func31, Try.ntmps31
  go_wp2_with fail
  refine (srow_any _ _ _ gs _ _ _ ls _ _ _ ts _ _ ((h.alloc _).alloc _)).mono ?_
  rintro e w1 ⟨rfl, b1⟩
  have n1 := n0.below b1
  have rc1 := rc0.below b1
  have hlt1 := rc1.lt
  rw [← HR.out]
  clear n0 b1 rc0
  obtain ⟨c0, c1, c2, c3⟩ := n1.p.quad
  obtain ⟨d0, d1, f0, f1⟩ := rc1.pair
  cases rb
  · have E : Hid _ := do_no (p := p) (q := q) (V := V) (U := U) (show doB gs ls ts A T st p q V U = false by rw [doB, ← HR.out]; rfl)
    go_wp2
    refine bodyPost_ret (v := .tuple #[resV 0 none 0 0, .slice (some ⟨w1.heap.size, 0, none⟩) 0 0]) (by simp [results, Try.results31, go_sem, d0, d1, hlt1]) rfl ?_
    obtain ⟨e1, e2, e3⟩ := E.out
    rw [e1, e2, e3]
    exact ⟨none, 0, 0, 0, _, 0, 0, 0, rfl, rfl, rfl, (((n1.b.setCell (by simp only []; omega) _).setCell (by simp only []; omega) _).alloc (by rw [size_setCell, size_setCell]; exact n1.b.size) _), OwnX.nil _ _ _, OwnX.nil _ _ _, fun h => by omega, fun h => by omega, fun h => by omega⟩
  go_wp2_with fail
  refine (sval_any _ _ _ V _ (hV.below n1.b) hp).mono ?_
  rintro e w2 ⟨rfl, hw2⟩
  rw [← HV.out, hw2]
  clear hw2
  cases vb
  · have E : Hid _ := do_no (p := p) (q := q) (V := V) (U := U) (show doB gs ls ts A T st p q V U = false by rw [doB, ← HR.out, ← HV.out]; rfl)
    go_wp2
    refine bodyPost_ret (v := .tuple #[resV 0 none 0 0, .slice (some ⟨w1.heap.size, 0, none⟩) 0 0]) (by simp [results, Try.results31, go_sem, d0, d1, hlt1]) rfl ?_
    obtain ⟨e1, e2, e3⟩ := E.out
    rw [e1, e2, e3]
    exact ⟨none, 0, 0, 0, _, 0, 0, 0, rfl, rfl, rfl, (((n1.b.setCell (by simp only []; omega) _).setCell (by simp only []; omega) _).alloc (by rw [size_setCell, size_setCell]; exact n1.b.size) _), OwnX.nil _ _ _, OwnX.nil _ _ _, fun h => by omega, fun h => by omega, fun h => by omega⟩
  go_wp2_with fail
  refine (sarg_any _ _ _ U _ (hU.below n1.b) hq).mono ?_
  rintro e w2 ⟨rfl, hw2⟩
  rw [← HU.out, hw2]
  clear hw2
  cases ub
  · have E : Hid _ := do_no (p := p) (q := q) (V := V) (U := U) (show doB gs ls ts A T st p q V U = false by rw [doB, ← HR.out, ← HV.out, ← HU.out]; rfl)
    go_wp2
    refine bodyPost_ret (v := .tuple #[resV 0 none 0 0, .slice (some ⟨w1.heap.size, 0, none⟩) 0 0]) (by simp [results, Try.results31, go_sem, d0, d1, hlt1]) rfl ?_
    obtain ⟨e1, e2, e3⟩ := E.out
    rw [e1, e2, e3]
    exact ⟨none, 0, 0, 0, _, 0, 0, 0, rfl, rfl, rfl, (((n1.b.setCell (by simp only []; omega) _).setCell (by simp only []; omega) _).alloc (by rw [size_setCell, size_setCell]; exact n1.b.size) _), OwnX.nil _ _ _, OwnX.nil _ _ _, fun h => by omega, fun h => by omega, fun h => by omega⟩
  have HB : Hid (doB gs ls ts A T st p q V U = true) := by show _ = _; rw [doB, ← HR.out, ← HV.out, ← HU.out]; rfl
  obtain ⟨og, ol, ot⟩ := rowB_g HR.out.symm
  obtain ⟨rfl, bV⟩ := okN_nat (c := 3) (by omega) HV.out.symm
  obtain ⟨rfl, bU⟩ := okN_nat (c := 2) (by omega) HU.out.symm
  have HVL : Hid (V.length = 3) := hV.1
  have hV1 := hV.below n1.b
  obtain ⟨vb, vo, rfl, hcell⟩ := hV1.pos (by omega)
  have hcl : ∀ i, i < 3 → (w1.alloc (.cells #[] 3)).cell? ⟨vb, vo + i, none⟩ = some (.int .i64 (V.getD i 0)) := fun i hi => by
    rw [((Below.refl w1.heap.size w1).alloc (Nat.le_refl _) _).cell (p := ⟨vb, vo + i, none⟩) (block_lt (hcell i hi))]; exact hcell i hi
  have HC : Hid _ := newsI hcl hV.1
  have HL : Hid ((V.map (Value.int .i64)).length = 3 * 1) := by show _ = _; rw [List.length_map, hV.1]
  have HJ : Hid _ := (JA.lit w1).o
  clear hcl hcell
  cases st
  case true =>
    have E : Hid _ := do_stop HB.out
    go_wp2_with (at_builtin; go_must (refine wpList_append_lies _ rfl (.tmp 30) (.tmp 31) 22 rfl w1.heap.size 3 i0 (.int .i64 0) 1 8 Try.underlying22 hi hz0 hz1 hz2 rfl (by decide) _ 0 [] rfl HJ.out ⟨vb, vo, none⟩ 3 cv (V.map (Value.int .i64)) rfl HL.out HC.out (oneI _) (by omega) (by unfold maxLen; omega) (by omega) (by rw [World.size_alloc]; omega) _ rfl ?_); intro g2 cp2 w2 hown hgrow hat hlt2; have j := JA.copied HVL.out hown hgrow; have rc2 := rc1.below j.b; clear d0 d1 f0 f1; obtain ⟨d0, d1, f0, f1⟩ := rc2.pair; have hlt2 := rc2.lt; clear hown hgrow hat)
    obtain ⟨x, cx, B, hv2, hX, hB⟩ := j.ownx HVL.out
    simp only [Value.slice.injEq, true_and] at hv2
    obtain ⟨rfl, rfl⟩ := hv2
    have bb := n1.b.trans (j.b.mono n1.b.size)
    refine bodyPost_ret (v := .tuple #[resV 2 none 0 0, .slice (some ⟨g2, 0, none⟩) 3 cp2]) (by simp [results, Try.results31, go_sem, d0, d1]) rfl ?_
    obtain ⟨e1, e2, e3⟩ := E.out
    rw [e1, e2, e3]
    refine ⟨none, 0, 0, 0, some ⟨g2, 0, none⟩, 3, cp2, B, rfl, rfl, HVL.out, ?_, OwnX.nil _ _ _, ?_, fun h => by omega, fun h => by have := hB h; have := n1.b.size; omega, fun h => by omega⟩
    · exact (bb.setCell (by simp only []; omega) _).setCell (by simp only []; omega) _
    · exact (hX.setOther (fun h => by have := hB h; omega) _ _).setOther (fun h => by have := hB h; omega) _ _
  case false =>
    have E : Hid _ := do_go HB.out
    obtain rfl := rowB_three HR.out.symm
    have OT : Hid (ts.all FV.ok = true) := ot
    have OL : Hid (ls.all FV.ok = true) := ol
    have HAL : Hid (ls.length = 3) := h.ha
    have HTL : Hid (ts.length = T) := h.ht
    obtain ⟨ys, hys⟩ : ∃ ys, ys = ls.map (atF V U) := ⟨_, rfl⟩
    have HYS : Hid (ys = ls.map (atF V U)) := hys
    have HYL : Hid (ys.length = 3) := by show _ = _; rw [hys, List.length_map, h.ha]
    have bY : bnd 1000000000000 ys := by rw [hys]; exact ats_bnd ol bV bU
    clear og ol ot hys
    go_wp2_with (at_builtin; go_must (refine wpList_append_lies _ rfl (.tmp 33) (.tmp 34) 22 rfl w1.heap.size 3 i0 (.int .i64 0) 1 8 Try.underlying22 hi hz0 hz1 hz2 rfl (by decide) _ 0 [] rfl HJ.out ⟨vb, vo, none⟩ 3 cv (V.map (Value.int .i64)) rfl HL.out HC.out (oneI _) (by omega) (by unfold maxLen; omega) (by omega) (by rw [World.size_alloc]; omega) _ rfl ?_); intro g2 cp2 w2 hown hgrow hat hlt2)
    have j := JA.copied HVL.out hown hgrow
    have rc2 := rc1.below j.b
    have n2 := n1.below j.b
    obtain ⟨x, cx, B, hv2, hX, hB⟩ := j.ownx HVL.out
    simp only [Value.slice.injEq, true_and] at hv2
    obtain ⟨rfl, rfl⟩ := hv2
    obtain ⟨eB, _, _⟩ := hX.pos (by omega)
    simp only [Option.some.injEq, Addr.mk.injEq, and_true] at eB
    subst eB
    have hB' := hB (by omega)
    clear c0 c1 c2 c3 d0 d1 f0 f1 rc1 n1 j hB hown hgrow hat HC HL HJ hV1
    go_wp2_with fail
    go_loopw [9] (fun i wr => ∃ k : Nat, k ≤ 3 ∧ i = .int .i64 k ∧ BX w w.heap.size [.slice g G cg, .slice a 3 ca, .slice t T ct, .bool false] 62 wr ∧ Cel wr (w.heap.size + 1) [.int .i64 0, .slice none 0 0] 57 ∧ OwnX wr (some ⟨g2, 0, none⟩) g2 3 (added V ys k)) (fun i _ => 3 - (intOf i).toNat)
    case atStart => exact ⟨0, by omega, rfl, n2, rc2, by rw [added_zero]; exact hX⟩
    case round =>
      clear n2 rc2 hX
      obtain ⟨k, hk, rfl, nr, rcr, hXr⟩ := hrel
      by_cases hlt : k < 3
      · obtain ⟨b, off, rfl, e0, e1, e2, e3⟩ := ((h.below nr.b).a) k (by rw [HAL.out]; exact hlt)
        have hok := all_at (k := k) OL.out (by rw [HAL.out]; exact hlt)
        have HYK : Hid (ys[k]?.getD 0 = atF V U (ls[k]?.getD noFV)) := by
          have hl : k < ls.length := by rw [HAL.out]; exact hlt
          show _ = _
          rw [HYS.out, List.getElem?_map, List.getElem?_eq_getElem hl]; rfl
        generalize HG : ls[k]?.getD noFV = f at *
        clear HG
        obtain ⟨fa, fn, fcap, fc, fm, fcap', fK, fC, fD⟩ := f
        obtain ⟨iC, iD, _, _⟩ := e3
        simp only at e0 e1 e2 iC iD
        obtain ⟨rfl, rfl, bC, bD, bK⟩ := formB_elim (show formB fn fm fC fD fK = true from hok)
        clear hok
        obtain ⟨m3, m4⟩ := bY k
        obtain ⟨m1, m2⟩ := bV k
        obtain ⟨y, hy⟩ : ∃ y, ys[k]?.getD 0 = y := ⟨_, rfl⟩
        have HX : Hid (atV fC fD fK V U = y) := by show _ = _; rw [← hy, HYK.out]; rfl
        have HY : Hid (ys[k]?.getD 0 = y) := hy
        rw [hy] at m3 m4
        clear hy
        obtain ⟨x0, hx0⟩ : ∃ x0, V[k]?.getD 0 = x0 := ⟨_, rfl⟩
        have HX0 : Hid (V[k]?.getD 0 = x0) := hx0
        rw [hx0] at m1 m2
        clear hx0
        have hAG : Hid ((added V ys k)[k]?.getD 0 = x0) := by show _ = _; rw [added_get V ys k (by rw [HVL.out, HYL.out]) (by rw [HVL.out]; exact hlt)]; exact HX0.out
        have cellk : ∀ W, OwnX W (some ⟨g2, 0, none⟩) g2 3 (added V ys k) → W.cell? ⟨g2, k, none⟩ = some (.int .i64 x0) ∧ W.frozen? ⟨g2, k, none⟩ = false := fun W hW => by
          obtain ⟨_, h1, h2⟩ := hW.pos (by omega)
          refine ⟨?_, h2 k⟩
          rw [h1 k hlt, hAG.out]
        have CK : Hid _ := cellk
        clear cellk
        obtain ⟨ck, fk⟩ := CK.out wr hXr
        obtain ⟨c0, c1, c2, c3⟩ := nr.p.quad
        have hVr := hV.below nr.b
        have hUr := hU.below nr.b
        have hlt' : (k : Int) < 3 := by omega
        go_wp2_with fail
        go_region_with (first | (go_at_call 53; refine (sat_any _ _ _ _ _ fC fD _ _ _ _ V U _ (by exact iC.below (Below.refl _ _).drew) (by exact iD.below (Below.refl _ _).drew) (by exact hVr.below (Below.refl _ _).drew) (by exact hUr.below (Below.refl _ _).drew) bC bD bK bV bU).mono ?_; rintro ee w3 ⟨rfl, b3⟩; rw [HX.out]; have b3' := below_of_drew b3; obtain ⟨ck3, fk3⟩ := CK.out w3 (hXr.below b3')))
        all_goals
          have R : OwnX (w3.setCell ⟨g2, k, none⟩ (.int .i64 (x0 + y))) (some ⟨g2, 0, none⟩) g2 3 (added V ys (k + 1)) := by
            have := (hXr.below b3').set hlt (x0 + y)
            rwa [← HX0.out, ← HY.out, added_succ V ys k (by rw [HVL.out, HYL.out]) (by rw [HVL.out]; exact hlt), HX0.out, HY.out] at this
          have T3 : Touch (fun z => z = g2) w3 (w3.setCell ⟨g2, k, none⟩ (.int .i64 (x0 + y))) := Touch.setCell (S := fun z => z = g2) (Touch.refl _ _) rfl _
          have N3 := (nr.below b3').touch T3 (fun z e => by have := nr.p.lt; omega) (fun e => by omega)
          have RC3 := (rcr.below b3').touch T3 (fun e => by omega)
          clear b3 b3' T3 nr rcr hXr iC iD e0 e1 e2 c0 c1 c2 c3 hVr hUr
          go_wp2
          go_roundw
          case rel => exact ⟨k + 1, by omega, by go_num, N3, RC3, R⟩
          case measure => simp [intOf]; omega
      · obtain rfl : k = 3 := by omega
        rw [added_end V ys 3 (by rw [HVL.out]; exact Nat.le_refl _) (by rw [HYL.out]; exact Nat.le_refl _), HYS.out] at hXr
        clear bY
        have lg := hXr.lt (by omega)
        go_wp2_with fail
        obtain ⟨Wx, hWx⟩ : ∃ Wx, Wx = wr.alloc (.cells #[] 3) := ⟨_, rfl⟩
        rw [← hWx]
        go_loopw [10, 11] (fun r i wq => ∃ k : Nat, k ≤ T ∧ i = .int .i64 k ∧ ∃ xs : List Int, xs.length = k ∧ xs = (ts.take k).map (atF V U) ∧ JA wr r xs wq) (fun _ i _ => T - (intOf i).toNat)
        case atStart => exact ⟨0, Nat.zero_le _, rfl, [], rfl, rfl, by rw [hWx]; exact JA.lit wr⟩
        case round =>
          clear hWx
          obtain ⟨k, hk, rfl, xs, hxl, hxs, j⟩ := hrel
          have HL : Hid (xs.length = k) := hxl
          have HXS : Hid (xs = (ts.take k).map (atF V U)) := hxs
          clear hxl hxs
          have nq := nr.below j.b
          have zt2 := h.zt
          obtain ⟨c0, c1, c2, c3⟩ := nq.p.quad
          have hVq := hV.below nq.b
          have hUq := hU.below nq.b
          by_cases hlt : k < T
          · obtain ⟨b, off, rfl, e0, e1, e2, e3⟩ := ((h.below nq.b).t) k (by rw [HTL.out]; exact hlt)
            have hok := all_at (k := k) OT.out (by rw [HTL.out]; exact hlt)
            have HP : Hid ((ts.take (k + 1)).map (atF V U) = (ts.take k).map (atF V U) ++ [atF V U (ts[k]?.getD noFV)]) := by
              have hl : k < ts.length := by rw [HTL.out]; exact hlt
              show _ = _
              rw [List.take_succ_eq_append_getElem hl, List.map_append, List.getElem?_eq_getElem hl]; rfl
            generalize HG : ts[k]?.getD noFV = f at *
            clear HG
            obtain ⟨fa, fn, fcap, fc, fm, fcap', fK, fC, fD⟩ := f
            obtain ⟨iC, iD, _, _⟩ := e3
            simp only at e0 e1 e2 iC iD
            obtain ⟨rfl, rfl, bC, bD, bK⟩ := formB_elim (show formB fn fm fC fD fK = true from hok)
            clear hok
            obtain ⟨x, hx⟩ : ∃ x, atV fC fD fK V U = x := ⟨_, rfl⟩
            have HX : Hid (atV fC fD fK V U = x) := hx
            have HP2 : Hid (xs ++ [x] = (ts.take (k + 1)).map (atF V U)) := by show _ = _; rw [HP.out, HXS.out, ← hx]; rfl
            clear hx
            go_wp2_with fail
            refine (sat_any _ _ _ _ _ fC fD _ _ _ _ V U _ iC iD hVq hUq bC bD bK bV bU).mono ?_
            rintro e w3 ⟨rfl, b3⟩
            rw [HX.out]
            have j3 := j.below b3
            have jo := j3.o
            rw [HL.out] at jo
            have hj3 := j3.b.size
            clear b3 iC iD e0 e1 e2 j nq hVq hUq c0 c1 c2 c3
            go_wp2_with (at_builtin; go_must (refine wpList_append_lies _ rfl (.tmp 64) (.tmp 73) 22 rfl _ 3 i0 (.int .i64 0) 1 8 Try.underlying22 hi hz0 hz1 hz2 rfl (by decide) _ _ _ rfl (jo.alloc _) ⟨w3.heap.size, 0, none⟩ 1 1 [.int .i64 x] rfl rfl (news1 _ _ _) (one1 _ _) (by omega) (by unfold maxLen; omega) (by omega) (by rw [World.size_alloc]; omega) _ rfl ?_); intro g4 cp4 w4 hown hgrow hat hlt4)
            have j4 := j3.app HL.out hown hgrow
            clear hown hgrow jo j3 hat
            go_wp2
            go_roundw
            case rel =>
              refine ⟨_, _, _, _, _, _, _, _, _, _, _, _, _, _, _, _, _, _, _, _, ?_, rfl⟩
              exact ⟨k + 1, by omega, by go_num, _, by rw [List.length_append, HL.out]; rfl, HP2.out, j4⟩
            case measure => simp [intOf]; omega
          · obtain rfl : k = T := by omega
            have HT2 : Hid (xs = ts.map (atF V U)) := by show xs = _; rw [HXS.out, List.take_of_length_le (by rw [HTL.out]; omega)]
            have rcq := rcr.below j.b
            have hXq := hXr.below j.b
            have zq := j.b.size
            obtain ⟨ta, ctt, BT, rfl, hT, hBT⟩ := j.ownx HL.out
            clear j
            go_wp2_with fail
            refine (end_any _ _ _ _ g2 _ _ _ BT V _ xs _ hVq hXq hT (fun h => by have := hBT h; omega) (w.heap.size + 1 + 1) (fun h => by have := hBT h; omega) (by omega) (by omega)).mono ?_
            rintro e w6 ⟨ra, rn, rcap, RB1, pb, pm, pcap, RB2, rfl, L1, L2, b6, O1, O2, g1, g2', g3⟩
            have rc6 := rcq.below b6
            have n6 := nq.below b6
            have hlt6 := rc6.lt
            obtain ⟨d0, d1, f0, f1⟩ := rc6.pair
            clear rc6 rcq hXq hT hVq hUq nq c0 c1 c2 c3
            go_wp2
            refine bodyPost_ret (v := .tuple #[resV (endCode (List.zipWith (· + ·) V (ls.map (atF V U)))) ra rn rcap, .slice pb pm pcap]) (by simp [results, Try.results31, go_sem, d0, d1]) rfl ?_
            obtain ⟨e1, e2, e3⟩ := E.out
            rw [e1, e2, e3, ← HT2.out]
            refine ⟨ra, rn, rcap, RB1, pb, pm, pcap, RB2, rfl, L1, L2, ?_, ?_, ?_, fun h => by have := g1 h; omega, fun h => by have := g2' h; omega, g3⟩
            · exact (n6.b.setCell (by simp only []; omega) _).setCell (by simp only []; omega) _
            · exact (O1.setOther (fun h => by have := g1 h; omega) _ _).setOther (fun h => by have := g1 h; omega) _ _
            · exact (O2.setOther (fun h => by have := g2' h; omega) _ _).setOther (fun h => by have := g2' h; omega) _ _

end Go.Proofs.Ytmbhcngddpoonaa
