/-
  What happens by a line, as the specification reads it.
-/
import Derived.Test.YtmdjcfplhmkocaaDoorDeR
namespace Go.Proofs.YtmdjcfplhmkocaaDoor
open Go.RowKit Go.MapKept
set_option linter.unusedVariables false
set_option linter.unusedSimpArgs false
set_option maxRecDepth 100000

/-- What a reader answers; its arguments can be read. -/
def EvS (r : EvR) (w : World) (e : Ending) (w' : World) : Prop := ∃ a n cap, e = .returned (.tuple #[evV r.1 r.2.1 r.2.2.1 a n cap, .bool r.2.2.2.2]) ∧ Below w.heap.size w w' ∧ Ints w' a n r.2.2.2.1
theorem EvS.no {w w' : World} (h : Below w.heap.size w w') : EvS noE w (.returned (.tuple #[evV 0 0 0 none 0 0, .bool false])) w' := ⟨none, 0, 0, rfl, h, rfl, fun i hi => absurd hi (Nat.not_lt_zero _)⟩
theorem ints_put4 {W : World} {b off n B : Nat} {zs : List Int} (h : Ints W (some ⟨b, off, none⟩) n zs) (hB : b ≠ B) (y0 y1 y2 y3 : Value) : Ints ((((W.setCell ⟨B, 0, none⟩ y0).setCell ⟨B, 1, none⟩ y1).setCell ⟨B, 2, none⟩ y2).setCell ⟨B, 3, none⟩ y3) (some ⟨b, off, none⟩) n zs := by
  have one : ∀ {X : World}, Ints X (some ⟨b, off, none⟩) n zs → ∀ (i : Nat) (v : Value), Ints (X.setCell ⟨B, i, none⟩ v) (some ⟨b, off, none⟩) n zs := fun hX i v => ⟨hX.1, fun j hj => by
    obtain ⟨b', o, e, hc⟩ := hX.2 j hj
    cases e
    refine ⟨b, off, rfl, ?_⟩
    rw [World.cell?_setCell_other]
    · exact hc
    · intro hh
      simp only [Addr.mk.injEq] at hh
      exact hB hh.1.symm⟩
  exact one (one (one (one h 0 y0) 1 y1) 2 y2) 3 y3
theorem EvP.toS {r : EvR} {w w1 w' : World} {e : Ending} (h : EvP r w1 e w') (b : Below w.heap.size w w1) : EvS r w e w' := by
  obtain ⟨a, n, cap, he, hn, j⟩ := h
  obtain ⟨a', c', ev, -, hI, -⟩ := j.ints
  rw [hn] at ev hI
  cases ev
  exact ⟨a, n, cap, he, b.trans (j.b.mono b.size), hI⟩

set_option maxHeartbeats 6400000 in
theorem sdsk_any (l : List UInt8) (w : World) : Calls Tryd.prog 7 #[.string ⟨l.toArray⟩] w (EvS (evL l) w) := by
  have r0 := Cel.new w [.int .i64 0, .int .i64 0, .int .i64 0, .slice none 0 0] 26
  have B0 : Below w.heap.size w (w.alloc (.cells #[.int .i64 0, .int .i64 0, .int .i64 0, .slice none 0 0] 26)) := (Below.refl _ _).alloc (Nat.le_refl _) _
  by_cases h120 : l.length ≤ 120
  · obtain ⟨x0, ws, hws⟩ : ∃ x0 ws, wordsOf l = x0 :: ws := by
      cases h : wordsOf l with
      | nil => exact absurd h (words_ne l)
      | cons a b => exact ⟨a, b, rfl⟩
    have HWS : Hid _ := hws
    obtain ⟨n, hn⟩ : ∃ n, ws.length = n := ⟨_, rfl⟩
    have hn121 : n + 1 ≤ 121 := by
      have h := wordsF_len l []
      rw [show wordsF [] l = x0 :: ws from hws, List.length_cons, hn] at h
      omega
    have HS : Hid (∀ x ∈ wordsOf l, x.length ≤ 120) := fun x hx => Nat.le_trans (by have := wordsF_short l [] x hx; simpa using this) h120
    have HLW : Hid ((wordsOf l).length = n + 1) := by show _ = _; rw [hws, List.length_cons, hn]
    have HLEN : Hid ((bytesW (wordsOf l)).length = n + 1) := by show _ = _; rw [hws, List.length_map, List.length_cons, hn]
    have HE : Hid (lineN l = nmS ((wordsOf l).drop 1)) := by show _ = _; rw [lineN, if_pos h120]
    have HH : Hid ((wordsOf l).headD [] = x0) := by show _ = _; rw [hws]; rfl
    clear hws hn
    go_enter Tryd.func7, Tryd.ntmps7
    go_wp2_with fail
    refine (words_any l _ h120).mono ?_
    rintro e W1 ⟨v, rfl, j⟩
    obtain ⟨gw, cw, rfl, hcap, hgw, hcs⟩ := j.cells HLEN.out (by omega)
    have HCW : Hid (∀ (i : Nat) (x : List UInt8), (wordsOf l)[i]? = some x → W1.cell? ⟨gw, i, none⟩ = some (.string ⟨x.toArray⟩)) := fun i x hx => by
      have := hcs i ⟨x.toArray⟩ (by rw [List.getElem?_map, hx]; rfl)
      rw [Nat.zero_add] at this
      exact this
    have r1 := r0.below j.b
    have B1 := B0.trans (j.b.mono B0.size)
    have HC0 : Hid (W1.cell? ⟨gw, 0, none⟩ = some (.string ⟨x0.toArray⟩)) := HCW.out 0 x0 (by rw [HWS.out]; rfl)
    clear hcs hcap j r0 B0
    go_wp2_with fail
    refine (snums_any (wordsOf l) gw (n + 1) cw W1 HLW.out hn121 (Or.inr hgw) HCW.out HS.out).mono ?_
    rintro e W2 ⟨v2, xs, ok, rfl, j2, hok, hnok⟩
    obtain ⟨a, cap, rfl, hcap2, hI, hblk⟩ := j2.ints
    have c0 : W2.cell? ⟨gw, 0, none⟩ = some (.string ⟨x0.toArray⟩) := (j2.b.cell (p := ⟨gw, 0, none⟩) hgw).trans HC0.out
    have r2 := r1.below j2.b
    have B2 := B1.trans (j2.b.mono B1.size)
    have lr1 := r1.lt
    have g0 := r2.cell 0
    have g1 := r2.cell 1
    have g2 := r2.cell 2
    have g3 := r2.cell 3
    have k0 := r2.free 0
    have k1 := r2.free 1
    have k2 := r2.free 2
    have k3 := r2.free 3
    simp only [List.getElem?_cons_zero, List.getElem?_cons_succ] at g0 g1 g2 g3
    have bz := below_put4 B2 (Nat.le_refl _) (.int .i64 0) (.int .i64 0) (.int .i64 0) (.slice none 0 0)
    have dz := r2.put4 (.int .i64 0) (.int .i64 0) (.int .i64 0) (.slice none 0 0)
    have z0 := dz.cell 0
    have z1 := dz.cell 1
    have z2 := dz.cell 2
    have z3 := dz.cell 3
    simp only [List.getElem?_cons_zero, List.getElem?_cons_succ] at z0 z1 z2 z3
    have hx1 : ¬ ((n : Int) + 1 = 0) := by omega
    obtain ⟨q, hq⟩ : ∃ q, xs.length = q := ⟨_, rfl⟩
    rw [hq] at hI hcap2 ⊢
    cases ok with
    | false =>
      have HR : Hid (evL l = noE) := evL_none (by rw [HE.out, hnok rfl])
      clear hok hnok j2 hq hI hblk
      go_wp2
      all_goals rw [HR.out]
      all_goals exact bodyPost_ret (v := .tuple #[evV 0 0 0 none 0 0, .bool false]) (by simp [results, Tryd.results7, go_sem, z0, z1, z2, z3]) rfl (EvS.no bz)
    | true =>
      have HR : Hid (evL l = evX x0 xs) := by show _ = _; rw [evL_some (by rw [HE.out, hok rfl]), HH.out]
      have HQ : Hid _ := hq
      have HNQ : Hid (q = n) := by
        show _ = _
        have h1 := nmS_len (hok rfl)
        rw [List.length_drop, HLW.out] at h1
        omega
      have HI : Hid _ := hI
      have HB : Hid _ := hblk
      have HLR : Hid (w.heap.size < W1.heap.size) := lr1
      have hx2 : ((n : Int) + 1 == 0) = false := by simpa using hx1
      clear hok hnok j2 hq hblk hgw B1 r1 lr1 hn121 h120
      by_cases e1 : x0 = [99, 97, 108, 108]
      · have hE : (x0 == [99, 97, 108, 108]) = true := by rw [e1]; rfl
        have HX : Hid (evX x0 xs = callL xs) := by show _ = _; rw [evX, if_pos e1]
        clear e1
        by_cases hq4 : q = 4
        · subst hq4
          obtain ⟨b, off, rfl, -⟩ := hI.pos (by omega)
          have hbb := HB.out b off rfl
          have y0 := zs_at hI (i := 0) (by omega)
          have y1 := zs_at hI (i := 1) (by omega)
          obtain ⟨u0, hu0⟩ : ∃ z, xs[0]?.getD 0 = z := ⟨_, rfl⟩
          obtain ⟨u1, hu1⟩ : ∃ z, xs[1]?.getD 0 = z := ⟨_, rfl⟩
          rw [hu0, Nat.add_zero] at y0
          rw [hu1] at y1
          have p4 : (4 : Int) ≤ (cap : Int) := by omega
          have HD := ints_put4 hI.drop2 (show b ≠ w.heap.size by have := HLR.out; omega) (.int .i64 1) (.int .i64 u0) (.int .i64 u1) (.slice (some ⟨b, off + 2, none⟩) 2 (cap - 2))
          clear hbb HI
          by_cases hz0 : u0 < 0
          · have hd2 : (u0 < 0) = True := by simpa using hz0
            have HV : Hid (callL xs = noE) := by show _ = _; rw [callL, if_neg (by rw [hu0]; omega)]
            clear hu0 hu1 hI HD
            go_wp2
            all_goals rw [HR.out, HX.out, HV.out]
            all_goals exact bodyPost_ret (v := .tuple #[evV 0 0 0 none 0 0, .bool false]) (by simp [results, Tryd.results7, go_sem, z0, z1, z2, z3]) rfl (EvS.no bz)
          have hd2 : (u0 < 0) = False := by simpa using hz0
          have hd0 : decide (u0 < 0) = false := by simpa using hz0
          by_cases hz1 : u1 < 0
          · have hd3 : (u1 < 0) = True := by simpa using hz1
            have HV : Hid (callL xs = noE) := by show _ = _; rw [callL, if_neg (by rw [hu1]; omega)]
            clear hu0 hu1 hI HD
            go_wp2
            all_goals rw [HR.out, HX.out, HV.out]
            all_goals exact bodyPost_ret (v := .tuple #[evV 0 0 0 none 0 0, .bool false]) (by simp [results, Tryd.results7, go_sem, z0, z1, z2, z3]) rfl (EvS.no bz)
          have HV : Hid (callL xs = (1, u0, u1, xs.drop 2, true)) := by show _ = _; rw [callL, hu0, hu1, if_pos ⟨by rw [HQ.out], by omega, by omega⟩]
          have d := r2.put4 (.int .i64 1) (.int .i64 u0) (.int .i64 u1) (.slice (some ⟨b, off + 2, none⟩) 2 (cap - 2))
          have d0 := d.cell 0
          have d1 := d.cell 1
          have d2 := d.cell 2
          have d3 := d.cell 3
          simp only [List.getElem?_cons_zero, List.getElem?_cons_succ] at d0 d1 d2 d3
          have bd := below_put4 B2 (Nat.le_refl _) (.int .i64 1) (.int .i64 u0) (.int .i64 u1) (.slice (some ⟨b, off + 2, none⟩) 2 (cap - 2))
          have HD' : Hid _ := HD
          clear hu0 hu1 hI HD z0 z1 z2 z3 dz bz
          have hd1 : decide (u1 < 0) = false := by simpa using hz1
          have hd3 : (u1 < 0) = False := by simpa using hz1
          go_upto_region 9 with fail
          go_region
          go_wp2
          rw [HR.out, HX.out, HV.out]
          exact bodyPost_ret (v := .tuple #[evV 1 u0 u1 (some ⟨b, off + 2, none⟩) 2 (cap - 2), .bool true]) (by simp [results, Tryd.results7, go_sem, d0, d1, d2, d3]) rfl ⟨_, 2, _, rfl, bd.drew, Ints.below HD'.out (Below.refl _ _).drew⟩
        · have HV : Hid (callL xs = noE) := by show _ = _; rw [callL, if_neg (by rw [HQ.out]; omega)]
          have hq5 : ¬ (q : Int) = 4 := by omega
          have hq6 : ((q : Int) == 4) = false := by simpa using hq5
          clear hI hq4 HI HB hcap2
          go_wp2
          all_goals rw [HR.out, HX.out, HV.out]
          all_goals exact bodyPost_ret (v := .tuple #[evV 0 0 0 none 0 0, .bool false]) (by simp [results, Tryd.results7, go_sem, z0, z1, z2, z3]) rfl (EvS.no bz)
      have hE1 : (x0 == [99, 97, 108, 108]) = false := by simpa using e1
      by_cases e2 : x0 = [116, 105, 99, 107]
      · have hE : (x0 == [116, 105, 99, 107]) = true := by rw [e2]; rfl
        have HX : Hid (evX x0 xs = bareL 7 0 xs) := by show _ = _; rw [evX, if_neg e1, if_pos e2]
        clear e1 e2
        go_wp2_with fail
        refine (sbare_any (some ⟨gw, 0, none⟩) (n + 1) cw n 7 0 xs _ ?_ rfl).mono ?_
        · rw [HQ.out]; exact HNQ.out
        rintro e W3 ⟨a3, n3, c3, rfl, hn3, j3⟩
        have r3 := r2.below j3.b
        have B3 := B2.trans (j3.b.mono B2.size)
        obtain ⟨a3', c3', ev3, -, hI3, hb3⟩ := j3.ints
        rw [hn3] at ev3 hI3
        cases ev3
        have f0 := r3.cell 0
        have f1 := r3.cell 1
        have f2 := r3.cell 2
        have f3 := r3.cell 3
        have m0 := r3.free 0
        have m1 := r3.free 1
        have m2 := r3.free 2
        have m3 := r3.free 3
        simp only [List.getElem?_cons_zero, List.getElem?_cons_succ] at f0 f1 f2 f3
        obtain ⟨R, hR⟩ : ∃ R : EvR, R = bareL 7 0 xs := ⟨_, rfl⟩
        rw [← hR] at hn3 hI3 ⊢
        obtain ⟨rk, rt, rc, ra, ro⟩ := R
        have HRR : Hid (evX x0 xs = (rk, rt, rc, ra, ro)) := by show _ = _; rw [HX.out, hR]
        have hI3' : Ints W3 a3 n3 ra := hI3
        have d := r3.put4 (.int .i64 rk) (.int .i64 rt) (.int .i64 rc) (.slice a3 n3 c3)
        have d0 := d.cell 0
        have d1 := d.cell 1
        have d2 := d.cell 2
        have d3 := d.cell 3
        simp only [List.getElem?_cons_zero, List.getElem?_cons_succ] at d0 d1 d2 d3
        have bd := below_put4 B3 (Nat.le_refl _) (.int .i64 rk) (.int .i64 rt) (.int .i64 rc) (.slice a3 n3 c3)
        have HD' : Hid (Ints ((((W3.setCell ⟨w.heap.size, 0, none⟩ (.int .i64 rk)).setCell ⟨w.heap.size, 1, none⟩ (.int .i64 rt)).setCell ⟨w.heap.size, 2, none⟩ (.int .i64 rc)).setCell ⟨w.heap.size, 3, none⟩ (.slice a3 n3 c3)) a3 n3 ra) := by
          rcases Nat.eq_zero_or_pos n3 with hz | hz
          · exact ⟨hI3'.1, fun i hi => absurd hi (by omega)⟩
          · obtain ⟨b3, o3, rfl, -⟩ := hI3'.pos hz
            have := (hb3 b3 o3 rfl).1
            have h2 := r2.lt
            exact ints_put4 hI3' (show b3 ≠ w.heap.size by omega) _ _ _ _
        clear hI3 hI3' hb3 hn3 hR j3 z0 z1 z2 z3 dz bz g0 g1 g2 g3 k0 k1 k2 k3 HX
        go_wp2
        rw [HR.out, HRR.out]
        exact bodyPost_ret (v := .tuple #[evV rk rt rc a3 n3 c3, .bool ro]) (by simp [results, Tryd.results7, go_sem, d0, d1, d2, d3]) rfl ⟨a3, n3, c3, rfl, bd, HD'.out⟩
      have hE2 : (x0 == [116, 105, 99, 107]) = false := by simpa using e2
      by_cases e3 : x0 = [99, 108, 101, 114, 107, 102, 97, 108, 108, 115]
      · have hE : (x0 == [99, 108, 101, 114, 107, 102, 97, 108, 108, 115]) = true := by rw [e3]; rfl
        have HX : Hid (evX x0 xs = bareL 10 0 xs) := by show _ = _; rw [evX, if_neg e1, if_neg e2, if_pos e3]
        clear e1 e2 e3
        go_wp2_with fail
        refine (sbare_any (some ⟨gw, 0, none⟩) (n + 1) cw n 10 0 xs _ ?_ rfl).mono ?_
        · rw [HQ.out]; exact HNQ.out
        rintro e W3 ⟨a3, n3, c3, rfl, hn3, j3⟩
        have r3 := r2.below j3.b
        have B3 := B2.trans (j3.b.mono B2.size)
        obtain ⟨a3', c3', ev3, -, hI3, hb3⟩ := j3.ints
        rw [hn3] at ev3 hI3
        cases ev3
        have f0 := r3.cell 0
        have f1 := r3.cell 1
        have f2 := r3.cell 2
        have f3 := r3.cell 3
        have m0 := r3.free 0
        have m1 := r3.free 1
        have m2 := r3.free 2
        have m3 := r3.free 3
        simp only [List.getElem?_cons_zero, List.getElem?_cons_succ] at f0 f1 f2 f3
        obtain ⟨R, hR⟩ : ∃ R : EvR, R = bareL 10 0 xs := ⟨_, rfl⟩
        rw [← hR] at hn3 hI3 ⊢
        obtain ⟨rk, rt, rc, ra, ro⟩ := R
        have HRR : Hid (evX x0 xs = (rk, rt, rc, ra, ro)) := by show _ = _; rw [HX.out, hR]
        have hI3' : Ints W3 a3 n3 ra := hI3
        have d := r3.put4 (.int .i64 rk) (.int .i64 rt) (.int .i64 rc) (.slice a3 n3 c3)
        have d0 := d.cell 0
        have d1 := d.cell 1
        have d2 := d.cell 2
        have d3 := d.cell 3
        simp only [List.getElem?_cons_zero, List.getElem?_cons_succ] at d0 d1 d2 d3
        have bd := below_put4 B3 (Nat.le_refl _) (.int .i64 rk) (.int .i64 rt) (.int .i64 rc) (.slice a3 n3 c3)
        have HD' : Hid (Ints ((((W3.setCell ⟨w.heap.size, 0, none⟩ (.int .i64 rk)).setCell ⟨w.heap.size, 1, none⟩ (.int .i64 rt)).setCell ⟨w.heap.size, 2, none⟩ (.int .i64 rc)).setCell ⟨w.heap.size, 3, none⟩ (.slice a3 n3 c3)) a3 n3 ra) := by
          rcases Nat.eq_zero_or_pos n3 with hz | hz
          · exact ⟨hI3'.1, fun i hi => absurd hi (by omega)⟩
          · obtain ⟨b3, o3, rfl, -⟩ := hI3'.pos hz
            have := (hb3 b3 o3 rfl).1
            have h2 := r2.lt
            exact ints_put4 hI3' (show b3 ≠ w.heap.size by omega) _ _ _ _
        clear hI3 hI3' hb3 hn3 hR j3 z0 z1 z2 z3 dz bz g0 g1 g2 g3 k0 k1 k2 k3 HX
        go_wp2
        rw [HR.out, HRR.out]
        exact bodyPost_ret (v := .tuple #[evV rk rt rc a3 n3 c3, .bool ro]) (by simp [results, Tryd.results7, go_sem, d0, d1, d2, d3]) rfl ⟨a3, n3, c3, rfl, bd, HD'.out⟩
      have hE3 : (x0 == [99, 108, 101, 114, 107, 102, 97, 108, 108, 115]) = false := by simpa using e3
      by_cases e4 : x0 = [99, 108, 101, 114, 107, 114, 105, 115, 101, 115]
      · have hE : (x0 == [99, 108, 101, 114, 107, 114, 105, 115, 101, 115]) = true := by rw [e4]; rfl
        have HX : Hid (evX x0 xs = bareL 10 1 xs) := by show _ = _; rw [evX, if_neg e1, if_neg e2, if_neg e3, if_pos e4]
        clear e1 e2 e3 e4
        go_wp2_with fail
        refine (sbare_any (some ⟨gw, 0, none⟩) (n + 1) cw n 10 1 xs _ ?_ rfl).mono ?_
        · rw [HQ.out]; exact HNQ.out
        rintro e W3 ⟨a3, n3, c3, rfl, hn3, j3⟩
        have r3 := r2.below j3.b
        have B3 := B2.trans (j3.b.mono B2.size)
        obtain ⟨a3', c3', ev3, -, hI3, hb3⟩ := j3.ints
        rw [hn3] at ev3 hI3
        cases ev3
        have f0 := r3.cell 0
        have f1 := r3.cell 1
        have f2 := r3.cell 2
        have f3 := r3.cell 3
        have m0 := r3.free 0
        have m1 := r3.free 1
        have m2 := r3.free 2
        have m3 := r3.free 3
        simp only [List.getElem?_cons_zero, List.getElem?_cons_succ] at f0 f1 f2 f3
        obtain ⟨R, hR⟩ : ∃ R : EvR, R = bareL 10 1 xs := ⟨_, rfl⟩
        rw [← hR] at hn3 hI3 ⊢
        obtain ⟨rk, rt, rc, ra, ro⟩ := R
        have HRR : Hid (evX x0 xs = (rk, rt, rc, ra, ro)) := by show _ = _; rw [HX.out, hR]
        have hI3' : Ints W3 a3 n3 ra := hI3
        have d := r3.put4 (.int .i64 rk) (.int .i64 rt) (.int .i64 rc) (.slice a3 n3 c3)
        have d0 := d.cell 0
        have d1 := d.cell 1
        have d2 := d.cell 2
        have d3 := d.cell 3
        simp only [List.getElem?_cons_zero, List.getElem?_cons_succ] at d0 d1 d2 d3
        have bd := below_put4 B3 (Nat.le_refl _) (.int .i64 rk) (.int .i64 rt) (.int .i64 rc) (.slice a3 n3 c3)
        have HD' : Hid (Ints ((((W3.setCell ⟨w.heap.size, 0, none⟩ (.int .i64 rk)).setCell ⟨w.heap.size, 1, none⟩ (.int .i64 rt)).setCell ⟨w.heap.size, 2, none⟩ (.int .i64 rc)).setCell ⟨w.heap.size, 3, none⟩ (.slice a3 n3 c3)) a3 n3 ra) := by
          rcases Nat.eq_zero_or_pos n3 with hz | hz
          · exact ⟨hI3'.1, fun i hi => absurd hi (by omega)⟩
          · obtain ⟨b3, o3, rfl, -⟩ := hI3'.pos hz
            have := (hb3 b3 o3 rfl).1
            have h2 := r2.lt
            exact ints_put4 hI3' (show b3 ≠ w.heap.size by omega) _ _ _ _
        clear hI3 hI3' hb3 hn3 hR j3 z0 z1 z2 z3 dz bz g0 g1 g2 g3 k0 k1 k2 k3 HX
        go_wp2
        rw [HR.out, HRR.out]
        exact bodyPost_ret (v := .tuple #[evV rk rt rc a3 n3 c3, .bool ro]) (by simp [results, Tryd.results7, go_sem, d0, d1, d2, d3]) rfl ⟨a3, n3, c3, rfl, bd, HD'.out⟩
      have hE4 : (x0 == [99, 108, 101, 114, 107, 114, 105, 115, 101, 115]) = false := by simpa using e4
      obtain ⟨K, hK⟩ : ∃ K, K = kindL x0 := ⟨_, rfl⟩
      have HX0 : Hid (evX x0 xs = if K = 0 then noE else oneL K xs) := by show _ = _; rw [evX, if_neg e1, if_neg e2, if_neg e3, if_neg e4, hK]
      clear e1 e2 e3 e4
      go_wp2_with fail
      refine (skind_any x0 _).mono ?_
      rintro e W4 ⟨rfl, b4⟩
      rw [← hK]
      have r4 := r2.below b4
      have B4 := B2.trans (b4.mono B2.size)
      have hI4 := Ints.below HI.out b4
      clear hK
      by_cases hk0 : K = 0
      · have HX : Hid (evX x0 xs = noE) := by show _ = _; rw [HX0.out, if_pos hk0]
        subst hk0
        have bz := below_put4 B4 (Nat.le_refl _) (.int .i64 0) (.int .i64 0) (.int .i64 0) (.slice none 0 0)
        have dz := r4.put4 (.int .i64 0) (.int .i64 0) (.int .i64 0) (.slice none 0 0)
        have z0 := dz.cell 0
        have z1 := dz.cell 1
        have z2 := dz.cell 2
        have z3 := dz.cell 3
        have k0 := r4.free 0
        have k1 := r4.free 1
        have k2 := r4.free 2
        have k3 := r4.free 3
        have h0 := r4.cell 0
        have h1 := r4.cell 1
        have h2 := r4.cell 2
        have h3 := r4.cell 3
        simp only [List.getElem?_cons_zero, List.getElem?_cons_succ] at z0 z1 z2 z3 h0 h1 h2 h3
        clear hI hI4 HI HB
        go_wp2
        all_goals rw [HR.out, HX.out]
        all_goals exact bodyPost_ret (v := .tuple #[evV 0 0 0 none 0 0, .bool false]) (by simp [results, Tryd.results7, go_sem, z0, z1, z2, z3]) rfl (EvS.no bz)
      · have HX : Hid (evX x0 xs = oneL K xs) := by show _ = _; rw [HX0.out, if_neg hk0]
        have hk1 : (K == 0) = false := by simpa using hk0
        clear hI HI HB
        go_wp2_with fail
        refine (sone_any a q cap K xs _ hI4).mono ?_
        rintro e W3 ⟨a3, n3, c3, rfl, hn3, j3⟩
        have r3 := r4.below j3.b
        have B3 := B4.trans (j3.b.mono B4.size)
        obtain ⟨a3', c3', ev3, -, hI3, hb3⟩ := j3.ints
        rw [hn3] at ev3 hI3
        cases ev3
        have f0 := r3.cell 0
        have f1 := r3.cell 1
        have f2 := r3.cell 2
        have f3 := r3.cell 3
        have m0 := r3.free 0
        have m1 := r3.free 1
        have m2 := r3.free 2
        have m3 := r3.free 3
        simp only [List.getElem?_cons_zero, List.getElem?_cons_succ] at f0 f1 f2 f3
        obtain ⟨R, hR⟩ : ∃ R : EvR, R = oneL K xs := ⟨_, rfl⟩
        rw [← hR] at hn3 hI3 ⊢
        obtain ⟨rk, rt, rc, ra, ro⟩ := R
        have HRR : Hid (evX x0 xs = (rk, rt, rc, ra, ro)) := by show _ = _; rw [HX.out, hR]
        have hI3' : Ints W3 a3 n3 ra := hI3
        have d := r3.put4 (.int .i64 rk) (.int .i64 rt) (.int .i64 rc) (.slice a3 n3 c3)
        have d0 := d.cell 0
        have d1 := d.cell 1
        have d2 := d.cell 2
        have d3 := d.cell 3
        simp only [List.getElem?_cons_zero, List.getElem?_cons_succ] at d0 d1 d2 d3
        have bd := below_put4 B3 (Nat.le_refl _) (.int .i64 rk) (.int .i64 rt) (.int .i64 rc) (.slice a3 n3 c3)
        have HD' : Hid (Ints ((((W3.setCell ⟨w.heap.size, 0, none⟩ (.int .i64 rk)).setCell ⟨w.heap.size, 1, none⟩ (.int .i64 rt)).setCell ⟨w.heap.size, 2, none⟩ (.int .i64 rc)).setCell ⟨w.heap.size, 3, none⟩ (.slice a3 n3 c3)) a3 n3 ra) := by
          rcases Nat.eq_zero_or_pos n3 with hz | hz
          · exact ⟨hI3'.1, fun i hi => absurd hi (by omega)⟩
          · obtain ⟨b3, o3, rfl, -⟩ := hI3'.pos hz
            have := (hb3 b3 o3 rfl).1
            have h2 := r4.lt
            exact ints_put4 hI3' (show b3 ≠ w.heap.size by omega) _ _ _ _
        clear hI3 hI3' hb3 hn3 hR j3 z0 z1 z2 z3 dz bz HX
        go_wp2
        rw [HR.out, HRR.out]
        exact bodyPost_ret (v := .tuple #[evV rk rt rc a3 n3 c3, .bool ro]) (by simp [results, Tryd.results7, go_sem, d0, d1, d2, d3]) rfl ⟨a3, n3, c3, rfl, bd, HD'.out⟩
  · have HR : Hid (evL l = noE) := evL_none (by rw [lineN, if_neg h120])
    go_enter Tryd.func7, Tryd.ntmps7
    go_wp2_with fail
    refine (swords_long l _ (by omega)).mono ?_
    rintro e W1 ⟨rfl, b1⟩
    have r1 := r0.below b1
    have B1 := B0.trans (b1.mono B0.size)
    clear r0 B0 b1
    go_wp2_with fail
    refine (snums_any [] _ 0 0 W1 rfl (by omega) (Or.inl rfl) (fun i x h => by simp at h) (fun x h => by simp at h)).mono ?_
    rintro e W2 ⟨v2, xs, ok, rfl, j2, -, -⟩
    obtain ⟨a, cap, rfl, -, -, -⟩ := j2.ints
    have r2 := r1.below j2.b
    have B2 := B1.trans (j2.b.mono B1.size)
    have k0 := r2.free 0
    have k1 := r2.free 1
    have k2 := r2.free 2
    have k3 := r2.free 3
    have g0 := r2.cell 0
    have g1 := r2.cell 1
    have g2 := r2.cell 2
    have g3 := r2.cell 3
    simp only [List.getElem?_cons_zero, List.getElem?_cons_succ] at g0 g1 g2 g3
    have bz := below_put4 B2 (Nat.le_refl _) (.int .i64 0) (.int .i64 0) (.int .i64 0) (.slice none 0 0)
    have dz := r2.put4 (.int .i64 0) (.int .i64 0) (.int .i64 0) (.slice none 0 0)
    have z0 := dz.cell 0
    have z1 := dz.cell 1
    have z2 := dz.cell 2
    have z3 := dz.cell 3
    simp only [List.getElem?_cons_zero, List.getElem?_cons_succ] at z0 z1 z2 z3
    clear j2 r1 B1
    cases ok with
    | false =>
      go_wp2
      all_goals rw [HR.out]
      all_goals exact bodyPost_ret (v := .tuple #[evV 0 0 0 none 0 0, .bool false]) (by simp [results, Tryd.results7, go_sem, z0, z1, z2, z3]) rfl (EvS.no bz)
    | true =>
      go_wp2
      all_goals rw [HR.out]
      all_goals exact bodyPost_ret (v := .tuple #[evV 0 0 0 none 0 0, .bool false]) (by simp [results, Tryd.results7, go_sem, z0, z1, z2, z3]) rfl (EvS.no bz)

end Go.Proofs.YtmdjcfplhmkocaaDoor
