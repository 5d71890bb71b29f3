/-
  ActRun: what the program's function comes to: the same code, tells and pots. Lengths at most 1048576.
-/
import Derived.Test.YtfkcfjkojfnfnaaDoorStops
namespace Go.Proofs.YtfkcfjkojfnfnaaDoor
open Go.RowKit
set_option linter.unusedVariables false
set_option maxRecDepth 100000

theorem JS.open {w W : World} {v : Value} {ls : List LV} {N : Nat} (j : JS w v (ls.map stepV) W) (hN : ls.length = N) : ∃ sa cap G, v = .slice sa N cap ∧ (0 < N → sa = some ⟨G, 0, none⟩) ∧ ∀ i, i < N → W.cell? ⟨G, i, none⟩ = some (stepV (ls[i]?.getD noLV)) := by
  have hl : (ls.map stepV).length = N := by rw [List.length_map, hN]
  rcases j.o.2 with ⟨hv, h⟩ | ⟨g, cap', cur, hv, hg, hh, hcl, _, hs, ht⟩
  · rw [hl] at h
    subst h
    exact ⟨none, 0, 0, hv, fun h => by omega, fun i h => by omega⟩
  · have o := j.o
    rw [hl] at hv o
    rw [hv] at o
    refine ⟨some ⟨g, 0, none⟩, cap', g, hv, fun _ => rfl, fun i hi => ?_⟩
    rw [o.cellAt i (by omega), List.getElem?_map, List.getElem?_eq_getElem (by omega)]
    rfl

set_option maxHeartbeats 6400000 in
theorem irun_any (ad : Option Addr) (N cap : Nat) (ls : List LV) (v : Option Addr) (p cv : Nat) (V : List Int) (u : Option Addr) (q cu : Nat) (U : List Int) (w : World) (hN : ls.length = N) (hF : LinesG w ad ls) (hN1 : N ≤ 1048576) (hV : Ints w v p V) (hU : Ints w u q U) (hp : p ≤ 1048576) (hq : q ≤ 1048576) :
    Calls Tryd.prog 25 #[.slice ad N cap, .slice v p cv, .slice u q cu] w fun e w' => ResD w w' e (runCode N ls p V q U) (runTells N ls p V q U) (runPots N ls p V q U) := by
  have rc0 := Cel.new w [.int .i64 0, .slice none 0 0] 36
  have B0 : Below w.heap.size w (w.alloc (.cells #[.int .i64 0, .slice none 0 0] 36)) := (Below.refl _ _).alloc (Nat.le_refl _) _
  have HN : Hid (ls.length = N) := hN
  clear hN
  obtain ⟨rb, hrb⟩ : ∃ rb, rb = actB N ls := ⟨_, rfl⟩
  obtain ⟨vb, hvb⟩ : ∃ vb, vb = okN 3 10000 p V := ⟨_, rfl⟩
  obtain ⟨ub, hub⟩ : ∃ ub, ub = okN 2 9 q U := ⟨_, rfl⟩
  have HR : Hid (rb = actB N ls) := hrb
  have HV : Hid (vb = okN 3 10000 p V) := hvb
  have HU : Hid (ub = okN 2 9 q U) := hub
  clear hrb hvb hub
  go_enter Tryd.func25, Tryd.ntmps25
  go_wp2_with fail
  refine (isteps_any _ _ _ ls _ HN.out (hF.below B0) hN1).mono ?_
  rintro e w1 ⟨sv, rfl, b1, hj⟩
  have rc1 := rc0.below b1
  have B1 := B0.trans (b1.mono B0.size)
  have hlt1 := rc1.lt
  rw [← HR.out] at hj ⊢
  clear b1 rc0 B0
  obtain ⟨d0, d1, f0, f1⟩ := rc1.pair
  cases rb
  · have E : Hid _ := run_no (p := p) (q := q) (V := V) (U := U) (show runB N ls p V q U = false by rw [runB, ← HR.out]; rfl)
    go_wp2
    refine bodyPost_ret (v := .tuple #[resV 0 none 0 0, .slice none 0 0]) (by simp [results, Tryd.results25, go_sem, d0, d1]) rfl ?_
    obtain ⟨e1, e2, e3⟩ := E.out
    rw [e1, e2, e3]
    exact ⟨none, 0, 0, 0, _, 0, 0, 0, rfl, rfl, rfl, (B1.setCell (by simp only []; omega) _).setCell (by simp only []; omega) _, OwnX.nil _ _ _, OwnX.nil _ _ _, fun h => by omega, fun h => by omega, fun h => by omega⟩
  have js : Hid _ := hj rfl
  clear hj
  go_wp2_with fail
  refine (ival_any _ _ _ V _ (hV.below B1) hp).mono ?_
  rintro e w2 ⟨rfl, hw2⟩
  rw [← HV.out, hw2]
  clear hw2
  cases vb
  · have E : Hid _ := run_no (p := p) (q := q) (V := V) (U := U) (show runB N ls p V q U = false by rw [runB, ← HR.out, ← HV.out]; rfl)
    go_wp2
    refine bodyPost_ret (v := .tuple #[resV 0 none 0 0, .slice none 0 0]) (by simp [results, Tryd.results25, go_sem, d0, d1]) rfl ?_
    obtain ⟨e1, e2, e3⟩ := E.out
    rw [e1, e2, e3]
    exact ⟨none, 0, 0, 0, _, 0, 0, 0, rfl, rfl, rfl, (B1.setCell (by simp only []; omega) _).setCell (by simp only []; omega) _, OwnX.nil _ _ _, OwnX.nil _ _ _, fun h => by omega, fun h => by omega, fun h => by omega⟩
  go_wp2_with fail
  refine (iarg_any _ _ _ U _ (hU.below B1) hq).mono ?_
  rintro e w2 ⟨rfl, hw2⟩
  rw [← HU.out, hw2]
  clear hw2
  cases ub
  · have E : Hid _ := run_no (p := p) (q := q) (V := V) (U := U) (show runB N ls p V q U = false by rw [runB, ← HR.out, ← HV.out, ← HU.out]; rfl)
    go_wp2
    refine bodyPost_ret (v := .tuple #[resV 0 none 0 0, .slice none 0 0]) (by simp [results, Tryd.results25, go_sem, d0, d1]) rfl ?_
    obtain ⟨e1, e2, e3⟩ := E.out
    rw [e1, e2, e3]
    exact ⟨none, 0, 0, 0, _, 0, 0, 0, rfl, rfl, rfl, (B1.setCell (by simp only []; omega) _).setCell (by simp only []; omega) _, OwnX.nil _ _ _, OwnX.nil _ _ _, fun h => by omega, fun h => by omega, fun h => by omega⟩
  have HB : Hid (runB N ls p V q U = true) := by show _ = _; rw [runB, ← HR.out, ← HV.out, ← HU.out]; rfl
  obtain ⟨h6, hall⟩ := actB_six HR.out.symm
  have HO : Hid (ls.all LV.ok = true) := hall
  obtain ⟨rfl, bV⟩ := okN_nat (c := 3) (by omega) HV.out.symm
  obtain ⟨rfl, bU⟩ := okN_nat (c := 2) (by omega) HU.out.symm
  have HVL : Hid (V.length = 3) := hV.1
  obtain ⟨sa, scap, G, rfl, hsa, hst⟩ := js.out.open HN.out
  have HSA : Hid _ := hsa
  have HST : Hid _ := hst
  clear hsa hst js hall
  go_wp2_with fail
  refine (clone_any _ _ _ V _ (hV.below B1) (by omega) (by omega)).mono ?_
  rintro e w2 ⟨r, rfl, j⟩
  have rc2 := rc1.below j.b
  have B2 := B1.trans (j.b.mono B1.size)
  have jb := j.b
  obtain ⟨x0, cx, B, rfl, hX, hB⟩ := j.ownx HVL.out
  have hB' := hB (by omega)
  obtain ⟨eB, _, _⟩ := hX.pos (by omega)
  subst eB
  have lB := hX.lt (by omega)
  have s0 : DR w1 w2.heap.size B cx u cu (.slice none 0 0) V [] (w2.alloc (.cells #[.slice (some ⟨B, 0, none⟩) 3 cx, .slice u 2 cu, .slice none 0 0] 90)) := by
    refine ⟨jb.alloc jb.size _, Cel.new w2 _ _, hX.alloc _, ⟨jb.alloc jb.size _, World.ownsRow_nil _ _ _ _⟩, ?_, ?_⟩ <;> (intro h; cases h)
  have rc2a := rc2.alloc (.cells #[.slice (some ⟨B, 0, none⟩) 3 cx, .slice u 2 cu, .slice none 0 0] 90)
  have rc1' : Hid (Cel w1 w.heap.size [.int .i64 0, .slice none 0 0] 36) := rc1
  clear d0 d1 f0 f1 rc1 j hB hX rc2
  have z2 := jb.size
  go_wp2_with fail
  refine (stops_any w1 w2.heap.size B cx u cu (.slice none 0 0) ad N ls V U sa scap G _ HN.out h6 (hF.below B1) HO.out HSA.out HST.out (hU.below B1) bU bV HVL.out s0 hB' z2 (by omega)).mono ?_
  rintro e w3 ⟨rfl, b3, hgo⟩
  have B3 : Below w.heap.size w w3 := B1.trans (b3.mono B1.size)
  obtain ⟨cw0, cw1⟩ : w1.heap.size ≤ w3.heap.size ∧ w.heap.size < w1.heap.size := ⟨b3.size, hlt1⟩
  have rc3 : Cel w3 w.heap.size [.int .i64 0, .slice none 0 0] 36 := by
    have := rc1'.out
    unfold Cel at *
    rw [b3.block _ hlt1]; exact this
  obtain ⟨⟨stp, x, tl⟩, hrun⟩ : ∃ r, runL U ls V = r := ⟨_, rfl⟩
  rw [hrun] at hgo ⊢
  have HRUN : Hid (runL U ls V = (stp, x, tl)) := hrun
  clear hrun s0 rc2a
  obtain ⟨d0, d1, f0, f1⟩ := rc3.pair
  cases stp
  case true =>
    have E : Hid _ := run_stop HB.out (by rw [HRUN.out])
    clear hgo
    go_wp2_with fail
    refine (clone_any _ _ _ V _ (hV.below B3) (by omega) (by omega)).mono ?_
    rintro e w4 ⟨r, rfl, j⟩
    have rc4 := rc3.below j.b
    obtain ⟨x4, cx4, B4, rfl, hX4, hB4⟩ := j.ownx HVL.out
    have bb := B3.trans (j.b.mono B3.size)
    clear d0 d1 f0 f1
    obtain ⟨d0, d1, f0, f1⟩ := rc4.pair
    have hlt4 := rc4.lt
    clear rc4 j rc3
    go_wp2
    refine bodyPost_ret (v := .tuple #[resV 2 none 0 0, .slice x4 3 cx4]) (by simp [results, Tryd.results25, go_sem, d0, d1]) rfl ?_
    obtain ⟨e1, e2, e3⟩ := E.out
    rw [e1, e2, e3]
    refine ⟨none, 0, 0, 0, x4, 3, cx4, B4, rfl, rfl, HVL.out, ?_, OwnX.nil _ _ _, ?_, fun h => by omega, fun h => by have := hB4 h; omega, fun h => by omega⟩
    · exact (bb.setCell (Nat.le_refl _) _).setCell (Nat.le_refl _) _
    · exact (hX4.setOther (fun h => by have := hB4 h; omega) _ _).setOther (fun h => by have := hB4 h; omega) _ _
  case false =>
    have E : Hid _ := run_go HB.out HRUN.out
    obtain ⟨v', s3, htl⟩ := hgo rfl
    clear hgo
    obtain ⟨tn, htn⟩ : ∃ tn, tl.length = tn := ⟨_, rfl⟩
    have HTN : Hid (tl.length = tn) := htn
    obtain ⟨ta, ctt, BT, hv, hT, hBT⟩ := s3.j.ownx HTN.out
    have hne : 0 < tn → BT ≠ B := fun h0 e => by
      obtain ⟨e1, _, _⟩ := hT.pos h0
      exact s3.ne (by rw [hv, e1, e]; rfl)
    have ox := s3.ox
    have c0 := s3.d.cell 0
    have c2 := s3.d.cell 2
    simp only [List.getElem?_cons_zero, List.getElem?_cons_succ] at c0 c2
    clear htn s3
    subst hv
    go_wp2_with fail
    refine (done_any _ _ _ _ B _ _ _ BT V x tl _ (hV.below B3) ox hT hne (w.heap.size + 1) (fun h => by have := hBT h; omega) (by omega) (by omega)).mono ?_
    rintro e w6 ⟨ra, rn, rcap, RB1, pb, pm, pcap, RB2, rfl, L1, L2, b6, O1, O2, y1, y2, y3⟩
    have rc6 := rc3.below b6
    have b66 := B3.trans (b6.mono B3.size)
    have hlt6 := rc6.lt
    clear d0 d1 f0 f1
    obtain ⟨d0, d1, f0, f1⟩ := rc6.pair
    clear rc6 rc3 ox hT c0 c2
    go_wp2
    refine bodyPost_ret (v := .tuple #[resV (endCode x) ra rn rcap, .slice pb pm pcap]) (by simp [results, Tryd.results25, go_sem, d0, d1]) rfl ?_
    obtain ⟨e1, e2, e3⟩ := E.out
    rw [e1, e2, e3]
    refine ⟨ra, rn, rcap, RB1, pb, pm, pcap, RB2, rfl, L1, L2, ?_, ?_, ?_, fun h => by have := y1 h; omega, fun h => by have := y2 h; omega, y3⟩
    · exact (b66.setCell (Nat.le_refl _) _).setCell (Nat.le_refl _) _
    · exact (O1.setOther (fun h => by have := y1 h; omega) _ _).setOther (fun h => by have := y1 h; omega) _ _
    · exact (O2.setOther (fun h => by have := y2 h; omega) _ _).setOther (fun h => by have := y2 h; omega) _ _

end Go.Proofs.YtfkcfjkojfnfnaaDoor
