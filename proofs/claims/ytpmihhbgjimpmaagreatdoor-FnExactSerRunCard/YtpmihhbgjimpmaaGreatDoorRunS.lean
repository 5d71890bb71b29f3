/-
  ActRun: what the specification's function comes to. Lengths at most 1048576.
-/
import Derived.Test.YtpmihhbgjimpmaaGreatDoorKeyed
import Derived.Test.YtpmihhbgjimpmaaGreatDoorRunL
import Derived.Deep.DeepCutAuto
import Derived.Deep.RegionHeld3
namespace Go.Proofs.YtpmihhbgjimpmaaGreatDoor
open Go.RowKit
set_option linter.unusedVariables false
set_option maxRecDepth 100000

/-- All that is asked for is ok. -/
def runB (N : Nat) (ls : List LV) (p : Nat) (V : List Int) (q : Nat) (U : List Int) : Bool := actB N ls && okN 3 10000 p V && okN 2 9 q U
def runCode (N : Nat) (ls : List LV) (p : Nat) (V : List Int) (q : Nat) (U : List Int) : Int := if runB N ls p V q U then (if (runL U ls V).1 then 2 else endCode (runL U ls V).2.1) else 0
def runTells (N : Nat) (ls : List LV) (p : Nat) (V : List Int) (q : Nat) (U : List Int) : List Int := if runB N ls p V q U then (if (runL U ls V).1 then [] else endTells (runL U ls V).2.1 (runL U ls V).2.2) else []
def runPots (N : Nat) (ls : List LV) (p : Nat) (V : List Int) (q : Nat) (U : List Int) : List Int := if runB N ls p V q U then (if (runL U ls V).1 then V else endPots V (runL U ls V).2.1) else []
theorem run_no {N : Nat} {ls : List LV} {p : Nat} {V : List Int} {q : Nat} {U : List Int} (h : runB N ls p V q U = false) : runCode N ls p V q U = 0 ∧ runTells N ls p V q U = [] ∧ runPots N ls p V q U = [] := by
  simp [runCode, runTells, runPots, h]
theorem run_stop {N : Nat} {ls : List LV} {p : Nat} {V : List Int} {q : Nat} {U : List Int} (h : runB N ls p V q U = true) (hs : (runL U ls V).1 = true) : runCode N ls p V q U = 2 ∧ runTells N ls p V q U = [] ∧ runPots N ls p V q U = V := by
  simp [runCode, runTells, runPots, h, hs]
theorem run_go {N : Nat} {ls : List LV} {p : Nat} {V : List Int} {q : Nat} {U : List Int} {x tl : List Int} (h : runB N ls p V q U = true) (hs : runL U ls V = (false, x, tl)) : runCode N ls p V q U = endCode x ∧ runTells N ls p V q U = endTells x tl ∧ runPots N ls p V q U = endPots V x := by
  simp [runCode, runTells, runPots, h, hs]
theorem actB_six {N : Nat} {ls : List LV} (h : actB N ls = true) : N ≤ 6 ∧ ls.all LV.ok = true := by
  simp only [actB, Bool.and_eq_true, decide_eq_true_eq] at h
  exact ⟨by omega, h.1.2⟩
theorem allL_at {ls : List LV} {k : Nat} (h : ls.all LV.ok = true) (hk : k < ls.length) : (ls[k]?.getD noLV).ok = true := by
  rw [List.getElem?_eq_getElem hk]
  exact List.all_eq_true.1 h _ (List.getElem_mem hk)
theorem line_one {pot skip : Int} {n m : Nat} {C D : List Int} {K : Int} (h : lineB 1 pot skip n m C D K = true) : 1 ≤ skip ∧ skip ≤ 6 ∧ smallB n m C D K = true := by
  simp [lineB] at h
  have := inB_iff.1 h.1.2
  exact ⟨this.1, this.2, h.2⟩
theorem line_two {pot skip : Int} {n m : Nat} {C D : List Int} {K : Int} (h : lineB 2 pot skip n m C D K = true) : 0 ≤ pot ∧ pot < 3 ∧ smallB n m C D K = true := by
  simp [lineB] at h
  have := inB_iff.1 h.1.1
  exact ⟨this.1, by omega, h.2⟩
theorem line_three {pot skip : Int} {n m : Nat} {C D : List Int} {K : Int} (h : lineB 3 pot skip n m C D K = true) : smallB n m C D K = true := by
  simp [lineB] at h
  exact h.2
theorem JA.rebase {w w1 W : World} {v : Value} {xs : List Int} (j : JA w1 v xs W) (b : Below w.heap.size w w1) : JA w v xs W := by
  refine ⟨b.trans (j.b.mono b.size), j.o.1, ?_⟩
  have := b.size
  rcases j.o.2 with h2 | ⟨g, cap, cur, hv, hg, r⟩
  · exact Or.inl h2
  · exact Or.inr ⟨g, cap, cur, hv, by omega, r⟩
theorem JA.set {w W : World} {v : Value} {xs : List Int} (j : JA w v xs W) {B : Nat} (hB : w.heap.size ≤ B) (ne : v.ownBlock ≠ some B) (i : Nat) (y : Value) : JA w v xs (W.setCell ⟨B, i, none⟩ y) := by
  refine ⟨j.b.setCell hB _, j.o.1, ?_⟩
  rcases j.o.2 with h2 | ⟨g, cap, cur, hv, hg, hh, r⟩
  · exact Or.inl h2
  · refine Or.inr ⟨g, cap, cur, hv, hg, ?_, r⟩
    have hne : g ≠ B := fun e => ne (by rw [hv, e]; rfl)
    rw [Below.heap_setCell _ _ _ _ hne]; exact hh
/-- x lies apart from a list that has been appended to. -/
theorem OwnX.grown {W W' : World} {a : Option Addr} {B n : Nat} {zs : List Int} {row : Option Nat} {o : Obj} (h : OwnX W a B n zs) (hg : (W.alloc o).grownBy W' row) (hne : row ≠ some B) : OwnX W' a B n zs := by
  refine ⟨h.1, ?_⟩
  rcases h.2 with h0 | ⟨e, cur, hc, hv⟩
  · exact .inl h0
  · refine .inr ⟨e, cur, ?_, hv⟩
    have hl := hc.lt
    have h1 : Cel (W.alloc o) B cur 3 := hc.alloc o
    unfold Cel at *
    rw [hg.block B (by rw [World.size_alloc]; omega) (fun e => hne e.symm)]; exact h1
theorem Cel.grown {W W' : World} {B : Nat} {vs : List Value} {t : TypeId} {row : Option Nat} {o : Obj} (h : Cel W B vs t) (hg : (W.alloc o).grownBy W' row) (hne : row ≠ some B) : Cel W' B vs t := by
  have hl := h.lt
  have h1 : Cel (W.alloc o) B vs t := h.alloc o
  unfold Cel at *
  rw [hg.block B (by rw [World.size_alloc]; omega) (fun e => hne e.symm)]; exact h1

/-- While an act runs: the result's box, old memory, the pots, what was told. -/
structure SR (w w1 : World) (B : Nat) (v : Value) (x tl : List Int) (W : World) : Prop where
  rc : Cel W w.heap.size [.int .i64 0, .slice none 0 0] 54
  b : Below w.heap.size w W
  ox : OwnX W (some ⟨B, 0, none⟩) B 3 x
  j : JA w1 v tl W
  ne : v.ownBlock ≠ some B
theorem SR.below {w w1 W W' : World} {B : Nat} {v : Value} {x tl : List Int} (s : SR w w1 B v x tl W) (h : Below W.heap.size W W') : SR w w1 B v x tl W' := ⟨s.rc.below h, s.b.trans (h.mono s.b.size), s.ox.below h, s.j.below h, s.ne⟩
theorem SR.alloc {w w1 W : World} {B : Nat} {v : Value} {x tl : List Int} (s : SR w w1 B v x tl W) (o : Obj) : SR w w1 B v x tl (W.alloc o) := s.below ((Below.refl _ _).alloc (Nat.le_refl _) _)
theorem SR.set {w w1 W : World} {B : Nat} {v : Value} {x tl : List Int} (s : SR w w1 B v x tl W) (hw : w.heap.size < w1.heap.size) (hB : w1.heap.size ≤ B) {i : Nat} (hi : i < 3) (y : Int) : SR w w1 B v (x.set i y) tl (W.setCell ⟨B, i, none⟩ (.int .i64 y)) :=
  ⟨s.rc.setOther (by omega) _ _, s.b.setCell (by show w.heap.size ≤ B; omega) _, s.ox.set hi y, s.j.set hB s.ne _ _, s.ne⟩
theorem SR.app {w w1 W W' : World} {B : Nat} {v : Value} {x tl : List Int} {y : Int} {g cap k H : Nat} {o : Obj} (s : SR w w1 B v x tl W) (hw : w.heap.size < w1.heap.size) (hk : tl.length = k) (hown : W'.ownsRow w1.heap.size 3 1 (.slice (some ⟨g, 0, none⟩) (k + 1) cap) (k + 1) (tl.map (Value.int .i64) ++ [.int .i64 y])) (hg : (W.alloc o).grownBy W' v.ownBlock) (hat : v.ownBlock = some g ∨ g = H) (hH : B < H) :
    SR w w1 B (.slice (some ⟨g, 0, none⟩) (k + 1) cap) x (tl ++ [y]) W' := by
  have hv : ∀ z, v.ownBlock = some z → w1.heap.size ≤ z := fun z hz => (s.j.o.lt z hz).1
  refine ⟨s.rc.grown hg (fun e => by have := hv _ e; omega), (s.b.alloc s.b.size _).grown hg (by rw [World.size_alloc]; have := s.b.size; omega) (fun z hz => by have := hv z hz; omega), s.ox.grown hg s.ne, s.j.app hk hown hg, ?_⟩
  show some g ≠ some B
  intro e
  simp only [Option.some.injEq] at e
  rcases hat with h | h
  · exact s.ne (by rw [h, e])
  · omega

set_option maxHeartbeats 12800000 in
theorem srun_any (ad : Option Addr) (N cap : Nat) (ls : List LV) (v : Option Addr) (p cv : Nat) (V : List Int) (u : Option Addr) (q cu : Nat) (U : List Int) (w : World) (hN : ls.length = N) (hF : LinesG w ad ls) (hN1 : N ≤ 1048576) (hV : Ints w v p V) (hU : Ints w u q U) (hp : p ≤ 1048576) (hq : q ≤ 1048576) :
    Calls Tryz.prog 67 #[.slice ad N cap, .slice v p cv, .slice u q cu] w fun e w' => ResD w w' e (runCode N ls p V q U) (runTells N ls p V q U) (runPots N ls p V q U) := by
  have rc0 := Cel.new w [.int .i64 0, .slice none 0 0] 54
  have B0 : Below w.heap.size w (w.alloc (.cells #[.int .i64 0, .slice none 0 0] 54)) := (Below.refl _ _).alloc (Nat.le_refl _) _
  have HN : Hid (ls.length = N) := hN
  clear hN
  obtain ⟨i0, hi, hz0, hz1, hz2⟩ := info_parts Tryz.infoInt
  obtain ⟨rb, hrb⟩ : ∃ rb, rb = actB N ls := ⟨_, rfl⟩
  obtain ⟨vb, hvb⟩ : ∃ vb, vb = okN 3 10000 p V := ⟨_, rfl⟩
  obtain ⟨ub, hub⟩ : ∃ ub, ub = okN 2 9 q U := ⟨_, rfl⟩
  have HR : Hid (rb = actB N ls) := hrb
  have HV : Hid (vb = okN 3 10000 p V) := hvb
  have HU : Hid (ub = okN 2 9 q U) := hub
  clear hrb hvb hub
  go_enter Tryz.func67, Tryz.ntmps67
  go_wp2_with fail
  refine (sact_any _ _ _ ls _ HN.out (hF.below B0) hN1).mono ?_
  rintro e w1 ⟨rfl, b1⟩
  have rc1 := rc0.below b1
  have B1 := B0.trans (b1.mono B0.size)
  have hlt1 := rc1.lt
  rw [← HR.out]
  clear b1 rc0 B0
  obtain ⟨d0, d1, f0, f1⟩ := rc1.pair
  cases rb
  · have E : Hid _ := run_no (p := p) (q := q) (V := V) (U := U) (show runB N ls p V q U = false by rw [runB, ← HR.out]; rfl)
    go_wp2
    refine bodyPost_ret (v := .tuple #[resV 0 none 0 0, .slice (some ⟨w1.heap.size, 0, none⟩) 0 0]) (by simp [results, Tryz.results67, go_sem, d0, d1, hlt1]) rfl ?_
    obtain ⟨e1, e2, e3⟩ := E.out
    rw [e1, e2, e3]
    exact ⟨none, 0, 0, 0, _, 0, 0, 0, rfl, rfl, rfl, (((B1.setCell (by simp only []; omega) _).setCell (by simp only []; omega) _).alloc (by rw [size_setCell, size_setCell]; exact B1.size) _), OwnX.nil _ _ _, OwnX.nil _ _ _, fun h => by omega, fun h => by omega, fun h => by omega⟩
  go_wp2_with fail
  refine (sval_any _ _ _ V _ (hV.below B1) hp).mono ?_
  rintro e w2 ⟨rfl, hw2⟩
  rw [← HV.out, hw2]
  clear hw2
  cases vb
  · have E : Hid _ := run_no (p := p) (q := q) (V := V) (U := U) (show runB N ls p V q U = false by rw [runB, ← HR.out, ← HV.out]; rfl)
    go_wp2
    refine bodyPost_ret (v := .tuple #[resV 0 none 0 0, .slice (some ⟨w1.heap.size, 0, none⟩) 0 0]) (by simp [results, Tryz.results67, go_sem, d0, d1, hlt1]) rfl ?_
    obtain ⟨e1, e2, e3⟩ := E.out
    rw [e1, e2, e3]
    exact ⟨none, 0, 0, 0, _, 0, 0, 0, rfl, rfl, rfl, (((B1.setCell (by simp only []; omega) _).setCell (by simp only []; omega) _).alloc (by rw [size_setCell, size_setCell]; exact B1.size) _), OwnX.nil _ _ _, OwnX.nil _ _ _, fun h => by omega, fun h => by omega, fun h => by omega⟩
  go_wp2_with fail
  refine (sarg_any _ _ _ U _ (hU.below B1) hq).mono ?_
  rintro e w2 ⟨rfl, hw2⟩
  rw [← HU.out, hw2]
  clear hw2
  cases ub
  · have E : Hid _ := run_no (p := p) (q := q) (V := V) (U := U) (show runB N ls p V q U = false by rw [runB, ← HR.out, ← HV.out, ← HU.out]; rfl)
    go_wp2
    refine bodyPost_ret (v := .tuple #[resV 0 none 0 0, .slice (some ⟨w1.heap.size, 0, none⟩) 0 0]) (by simp [results, Tryz.results67, go_sem, d0, d1, hlt1]) rfl ?_
    obtain ⟨e1, e2, e3⟩ := E.out
    rw [e1, e2, e3]
    exact ⟨none, 0, 0, 0, _, 0, 0, 0, rfl, rfl, rfl, (((B1.setCell (by simp only []; omega) _).setCell (by simp only []; omega) _).alloc (by rw [size_setCell, size_setCell]; exact B1.size) _), OwnX.nil _ _ _, OwnX.nil _ _ _, fun h => by omega, fun h => by omega, fun h => by omega⟩
  have HB : Hid (runB N ls p V q U = true) := by show _ = _; rw [runB, ← HR.out, ← HV.out, ← HU.out]; rfl
  obtain ⟨h6, hall⟩ := actB_six HR.out.symm
  have HO : Hid (ls.all LV.ok = true) := hall
  obtain ⟨rfl, bV⟩ := okN_nat (c := 3) (by omega) HV.out.symm
  obtain ⟨rfl, bU⟩ := okN_nat (c := 2) (by omega) HU.out.symm
  have HVL : Hid (V.length = 3) := hV.1
  have hV1 := hV.below B1
  obtain ⟨vb, vo, rfl, hcell⟩ := hV1.pos (by omega)
  have HL : Hid ((V.map (Value.int .i64)).length = 3 * 1) := by show _ = _; rw [List.length_map, hV.1]
  have news : ∀ W : World, Below w.heap.size w W → ∀ j u, (V.map (Value.int .i64))[j]? = some u → (W.alloc (.cells #[] 3)).cell? ((⟨vb, vo, none⟩ : Addr).add j) = some u := fun W hW => by
    obtain ⟨b', o', e', hc'⟩ := (hV.below (hW.alloc hW.size (.cells #[] 3))).pos (by omega)
    simp only [Option.some.injEq, Addr.mk.injEq, and_true] at e'
    obtain ⟨rfl, rfl⟩ := e'
    exact newsI hc' hV.1
  have HNW : Hid _ := news
  have HC : Hid _ := news w1 B1
  have HJ : Hid _ := (JA.lit w1).o
  have hAt0 : At U ls V 0 V [] := At.start bV HVL.out
  have HAT : Hid (At U ls V 0 V []) := hAt0
  clear hcell hall news hV1 hAt0
  go_wp2_with (at_builtin; go_must (refine wpList_append_lies _ rfl (.tmp 27) (.tmp 28) 24 rfl w1.heap.size 3 i0 (.int .i64 0) 1 8 Tryz.underlying24 hi hz0 hz1 hz2 rfl (by decide) _ 0 [] rfl HJ.out ⟨vb, vo, none⟩ 3 cv (V.map (Value.int .i64)) rfl HL.out HC.out (oneI _) (by omega) (by unfold maxLen; omega) (by omega) (by rw [World.size_alloc]; omega) _ rfl ?_); intro g2 cp2 w2 hown hgrow hat hlt2)
  have j := JA.copied HVL.out hown hgrow
  obtain ⟨x0, cx, B, hv2, hX, hB⟩ := j.ownx HVL.out
  simp only [Value.slice.injEq, true_and] at hv2
  obtain ⟨rfl, rfl⟩ := hv2
  obtain ⟨eB, _, _⟩ := hX.pos (by omega)
  simp only [Option.some.injEq, Addr.mk.injEq, and_true] at eB
  subst eB
  have hB' := hB (by omega)
  have s2 : SR w w1 g2 (.slice (some ⟨w2.heap.size, 0, none⟩) 0 0) V [] (w2.alloc (.cells #[] 3)) := by
    refine ⟨(rc1.below j.b).alloc _, (B1.trans (j.b.mono B1.size)).alloc (by have := B1.size; have := j.b.size; omega) _, hX.alloc _, (JA.lit w2).rebase j.b, ?_⟩
    show some w2.heap.size ≠ some g2
    intro e
    simp only [Option.some.injEq] at e
    have := hX.lt (by omega)
    omega
  clear j hX hB hown hgrow hat HC HL HJ d0 d1 f0 f1 rc1
  go_wp2_with fail
  go_loopw [9, 10, 11] (fun r i _ wr => ∃ (k : Nat) (x tl : List Int), k ≤ 12 ∧ i = .int .i64 k ∧ At U ls V k x tl ∧ SR w w1 g2 r x tl wr) (fun _ i _ _ => N - (intOf i).toNat)
  case atStart => exact ⟨0, V, [], by omega, rfl, HAT.out, s2⟩
  case round =>
    clear s2 HAT
    obtain ⟨k, x, tl, hk12, rfl, hAt, s⟩ := hrel
    have HAT : Hid (At U ls V k x tl) := hAt
    clear hAt
    have hVr := hV.below s.b
    have hUr := hU.below s.b
    have lB := s.ox.lt (by omega)
    by_cases hlt : k < N
    · obtain ⟨b, off, rfl, hc, hAtL⟩ := (hF.below s.b) k (by rw [HN.out]; exact hlt)
      have hok := allL_at (k := k) HO.out (by rw [HN.out]; exact hlt)
      have hkl : Hid (k < ls.length) := by show k < ls.length; rw [HN.out]; exact hlt
      have h6l : Hid (ls.length ≤ 6) := by show ls.length ≤ 6; rw [HN.out]; exact h6
      have bX := HAT.out.b (by omega)
      have bd6 := bd_six (n := k) (by omega)
      have bdp := bd_pos k
      generalize HG : ls[k]?.getD noLV = g at *
      have HG' : Hid (ls[k]?.getD noLV = g) := HG
      clear HG
      obtain ⟨e0, e1, e2, e3, e4, e5⟩ := six_of hc
      clear hc
      obtain ⟨gk, gp, gz, ⟨ga, gn, gcap, gc, gm, gcap', gK, gC, gD⟩⟩ := g
      obtain ⟨iC, iD, hn, hm⟩ := hAtL
      simp only at e0 e1 e2 e3 e4 e5 iC iD hn hm
      have hok' : lineB gk gp gz gn gm gC gD gK = true := hok
      clear hok
      by_cases hk1 : gk = 1
      · subst hk1
        obtain ⟨z1, z2, hsm⟩ := line_one hok'
        obtain ⟨rfl, rfl, bC, bD, bK1, bK2⟩ := small_elim hsm
        obtain ⟨q1, q2, q3, q4⟩ := small_at bC bD bK1 bK2 bX bU (by omega)
        obtain ⟨y, hy⟩ : ∃ y, atV gC gD gK x U = y := ⟨_, rfl⟩
        have HY : Hid (atV gC gD gK x U = y) := hy
        have HS : Hid (∀ j, (j = if y < 0 then k + 1 + gz.toNat else k + 1) → At U ls V j x tl) := fun j hj => HAT.out.skip hkl.out h6l.out HG'.out rfl (by rw [hj, ← hy]; rfl)
        clear hy hok' hsm bX q3 q4
        by_cases hneg : y < 0
        · go_wp2_with fail
          refine (satG_any _ _ _ _ _ gC gD _ _ _ _ x U _ (iC.alloc _) (iD.alloc _) (s.ox.alloc _).ints (hUr.alloc _) _ _ q1 q2 (by omega) (by omega) (by omega) (by omega) ⟨by omega, by omega⟩).mono ?_
          rintro e w3 ⟨rfl, b3⟩
          rw [HY.out]
          obtain ⟨m0, m1, m2, m3, m4, m5⟩ := ((Cel.new wr _ _).below b3).six
          have s3 := (s.alloc _).below b3
          clear b3 s iC iD e0 e1 e2 e3 e4 e5 q1 q2 hVr hUr
          go_wp2
          go_roundw
          case rel => exact ⟨k + 1 + gz.toNat, x, tl, by omega, by go_num, HS.out _ (by rw [if_pos hneg]), s3⟩
          case measure => simp [intOf]; omega
        · go_wp2_with fail
          refine (satG_any _ _ _ _ _ gC gD _ _ _ _ x U _ (iC.alloc _) (iD.alloc _) (s.ox.alloc _).ints (hUr.alloc _) _ _ q1 q2 (by omega) (by omega) (by omega) (by omega) ⟨by omega, by omega⟩).mono ?_
          rintro e w3 ⟨rfl, b3⟩
          rw [HY.out]
          have s3 := (s.alloc _).below b3
          clear b3 s iC iD e0 e1 e2 e3 e4 e5 q1 q2 hVr hUr
          go_wp2
          go_roundw
          case rel => exact ⟨k + 1, x, tl, by omega, by go_num, HS.out _ (by rw [if_neg (by omega)]), s3⟩
          case measure => simp [intOf]; omega
      · have hk1' : (gk == 1) = false := by simp [hk1]
        by_cases hk2 : gk = 2
        · subst hk2
          obtain ⟨z1, z2, hsm⟩ := line_two hok'
          obtain ⟨rfl, rfl, bC, bD, bK1, bK2⟩ := small_elim hsm
          obtain ⟨q1, q2, q3, q4⟩ := small_at bC bD bK1 bK2 bX bU (by omega)
          obtain ⟨pn, rfl⟩ := Int.eq_ofNat_of_zero_le z1
          have hpn : pn < 3 := by omega
          obtain ⟨xp, hxp⟩ : ∃ xp, x[pn]?.getD 0 = xp := ⟨_, rfl⟩
          have HXP : Hid (x[pn]?.getD 0 = xp) := hxp
          obtain ⟨r1, r2⟩ := bX pn
          rw [hxp] at r1 r2
          obtain ⟨y, hy⟩ : ∃ y, atV gC gD gK x U = y := ⟨_, rfl⟩
          have HY : Hid (atV gC gD gK x U = y) := hy
          rw [hy] at q3 q4
          have HS : Hid (At U ls V (k + 1) (x.set pn (xp + y)) tl) := by
            have := HAT.out.add hkl.out h6l.out HG'.out rfl (by show _ ≤ atV gC gD gK x U; rw [hy]; omega) (by show atV gC gD gK x U ≤ _; rw [hy]; omega)
            simp only [Int.toNat_natCast, hxp] at this
            rw [show atF x U ⟨ga, 3, gcap, gc, 2, gcap', gK, gC, gD⟩ = y from hy] at this
            exact this
          clear hy hxp hok' hsm bX
          have cellp : ∀ W, OwnX W (some ⟨g2, 0, none⟩) g2 3 x → W.cell? ⟨g2, pn, none⟩ = some (.int .i64 xp) ∧ W.frozen? ⟨g2, pn, none⟩ = false := fun W hW => by
            obtain ⟨_, h1, h2⟩ := hW.pos (by omega)
            exact ⟨by rw [h1 pn hpn, HXP.out], h2 pn⟩
          have CP : Hid _ := cellp
          clear cellp
          have sa := s.alloc (.cells #[.int .i64 2, .int .i64 (pn : Int), .int .i64 gz, .slice ga 3 gcap, .slice gc 2 gcap', .int .i64 gK] 153)
          have bxa := Cel.new wr [.int .i64 2, .int .i64 (pn : Int), .int .i64 gz, .slice ga 3 gcap, .slice gc 2 gcap', .int .i64 gK] 153
          have ia := iC.alloc (.cells #[.int .i64 2, .int .i64 (pn : Int), .int .i64 gz, .slice ga 3 gcap, .slice gc 2 gcap', .int .i64 gK] 153)
          have ib := iD.alloc (.cells #[.int .i64 2, .int .i64 (pn : Int), .int .i64 gz, .slice ga 3 gcap, .slice gc 2 gcap', .int .i64 gK] 153)
          have ua := hUr.alloc (.cells #[.int .i64 2, .int .i64 (pn : Int), .int .i64 gz, .slice ga 3 gcap, .slice gc 2 gcap', .int .i64 gK] 153)
          have hpn' : (pn : Int) < 3 := by omega
          go_upto_region 15 with fail
          obtain ⟨Wa, hWa⟩ : ∃ Wa, Wa = wr.alloc (.cells #[.int .i64 2, .int .i64 (pn : Int), .int .i64 gz, .slice ga 3 gcap, .slice gc 2 gcap', .int .i64 gK] 153) := ⟨_, rfl⟩
          rw [← hWa] at sa bxa ia ib ua ⊢
          clear hWa s iC iD e0 e1 e2 e3 e4 e5 hVr hUr
          obtain ⟨ck, fk⟩ := CP.out Wa sa.ox
          obtain ⟨m0, m1, m2, m3, m4, m5⟩ := bxa.six
          have hSS : (Wa.drew.cell? ⟨wr.heap.size, 1, none⟩ = some (.int .i64 (pn : Int)) ∧ Wa.drew.cell? ⟨wr.heap.size, 3, none⟩ = some (.slice ga 3 gcap) ∧ Wa.drew.cell? ⟨wr.heap.size, 4, none⟩ = some (.slice gc 2 gcap') ∧ Wa.drew.cell? ⟨wr.heap.size, 5, none⟩ = some (.int .i64 gK)) ∧ Wa.drew.cell? ⟨g2, pn, none⟩ = some (.int .i64 xp) := ⟨⟨m1, m3, m4, m5⟩, ck⟩
          refine wp_region_ends (fun w' => w'.cell? ⟨wr.heap.size, 1, none⟩ = some (.int .i64 (pn : Int)) ∧ w'.cell? ⟨wr.heap.size, 3, none⟩ = some (.slice ga 3 gcap) ∧ w'.cell? ⟨wr.heap.size, 4, none⟩ = some (.slice gc 2 gcap') ∧ w'.cell? ⟨wr.heap.size, 5, none⟩ = some (.int .i64 gK)) (fun w' => w'.cell? ⟨g2, pn, none⟩ = some (.int .i64 xp)) 14 (by kernel_rfl) ?_
          refine wpAnyE_take0 (i := 0) (v := ?v0) rfl (by kernel_rfl) (by kernel_rfl) (by kernel_rfl) (by decide) (fun _ _ _ h => h) (Or.inl ⟨by rfl, ?hy0⟩) hSS ?_
          case hy0 => (intro wz hSw; (try dsimp only at hSw); go_simp; try (with_reducible rfl))
          refine wpAnyE_take0 (i := 1) (v := ?v1) rfl (by kernel_rfl) (by kernel_rfl) (by kernel_rfl) (by decide) (fun _ _ _ h => h) (Or.inl ⟨by rfl, ?hy1⟩) hSS ?_
          case hy1 => (intro wz hSw; (try dsimp only at hSw); go_simp; try (with_reducible rfl))
          refine wpAnyE_take0 (i := 2) (v := ?v2) rfl (by kernel_rfl) (by kernel_rfl) (by kernel_rfl) (by decide) (fun _ _ _ h => h) (Or.inl ⟨by rfl, ?hy2⟩) hSS ?_
          case hy2 => (intro wz hSw; (try dsimp only at hSw); go_simp; try (with_reducible rfl))
          refine wpAnyE_take0 (i := 3) (v := ?v3) rfl (by kernel_rfl) (by kernel_rfl) (by kernel_rfl) (by decide) (fun _ _ _ h => h) (Or.inl ⟨by rfl, ?hy3⟩) hSS ?_
          case hy3 => (intro wz hSw; (try dsimp only at hSw); go_simp; try (with_reducible rfl))
          refine wpAnyE_take0 (i := 4) (v := ?v4) rfl (by kernel_rfl) (by kernel_rfl) (by kernel_rfl) (by decide) (fun _ _ _ h => h) (Or.inl ⟨by rfl, ?hy4⟩) hSS ?_
          case hy4 => (intro wz hSw; (try dsimp only at hSw); go_simp; try (with_reducible rfl))
          refine wpAnyE_take0 (i := 5) (v := ?v5) rfl (by kernel_rfl) (by kernel_rfl) (by kernel_rfl) (by decide) (fun _ _ _ h => h) (Or.inl ⟨by rfl, ?hy5⟩) hSS ?_
          case hy5 => (intro wz hSw; (try dsimp only at hSw); go_simp; try (with_reducible rfl))
          refine wpAnyE_take0 (i := 6) (v := ?v6) rfl (by kernel_rfl) (by kernel_rfl) (by kernel_rfl) (by decide) (fun _ _ _ h => h) (Or.inl ⟨by rfl, ?hy6⟩) hSS ?_
          case hy6 => (intro wz hSw; (try dsimp only at hSw); go_simp; try (with_reducible rfl))
          refine wpAnyE_take1 (i := 7) (v := ?v7) rfl rfl (by kernel_rfl) (by kernel_rfl) (by kernel_rfl) (by decide) (by rfl) (by simp [Region.binds]) (fun _ _ _ h => h) (Or.inl ⟨by rfl, ?hy7⟩) hSS ?_
          case hy7 => (intro wz hSw; (try dsimp only at hSw); go_simp; try (with_reducible rfl))
          refine wpAnyE_take0 (i := 8) (v := ?v8) rfl (by kernel_rfl) (by kernel_rfl) (by kernel_rfl) (by decide) (fun _ _ _ h => h) (Or.inl ⟨by rfl, ?hy8⟩) hSS ?_
          case hy8 => (intro wz hSw; (try dsimp only at hSw); go_simp; try (with_reducible rfl))
          refine wpAnyE_take0 (i := 9) (v := ?v9) rfl (by kernel_rfl) (by kernel_rfl) (by kernel_rfl) (by decide) (fun _ _ _ h => h) (Or.inl ⟨by rfl, ?hy9⟩) hSS ?_
          case hy9 => (intro wz hSw; (try dsimp only at hSw); go_simp; try (with_reducible rfl))
          refine wpAnyE_take0 (i := 10) (v := ?v10) rfl (by kernel_rfl) (by kernel_rfl) (by kernel_rfl) (by decide) (fun _ _ _ h => h) (Or.inl ⟨by rfl, ?hy10⟩) hSS ?_
          case hy10 => (intro wz hSw; (try dsimp only at hSw); go_simp; try (with_reducible rfl))
          refine wpAnyE_take0 (i := 11) (v := ?v11) rfl (by kernel_rfl) (by kernel_rfl) (by kernel_rfl) (by decide) (fun _ _ _ h => h) (Or.inl ⟨by rfl, ?hy11⟩) hSS ?_
          case hy11 => (intro wz hSw; (try dsimp only at hSw); go_simp; try (with_reducible rfl))
          refine wpAnyE_one (i := 12) (by kernel_rfl) rfl (fun K hK => ?_)
          go_simp
          refine (satG_any _ _ _ _ _ gC gD _ _ _ _ x U _ (ia.below (Below.refl _ _).drew) (ib.below (Below.refl _ _).drew) (sa.ox.ints.below (Below.refl _ _).drew) (ua.below (Below.refl _ _).drew) _ _ q1 q2 (by omega) (by omega) (by omega) (by omega) ⟨by omega, by omega⟩).mono ?_
          rintro ee w3 ⟨rfl, b3⟩
          rw [HY.out]
          have b3' := below_of_drew b3
          obtain ⟨ck3, fk3⟩ := CP.out w3 (sa.ox.below b3')
          have bx3 := bxa.below b3'
          obtain ⟨n0, n1, n2, n3, n4, n5⟩ := bx3.six
          have hSS3 := And.intro (And.intro n1 (And.intro n3 (And.intro n4 n5))) ck3
          obtain ⟨o0, o1, o2, o3, o4, o5⟩ := (bx3.setOther (show wr.heap.size ≠ g2 by omega) pn (.int .i64 (xp + y))).six
          have hSS4 := And.intro o1 (And.intro o3 (And.intro o4 o5))
          have s3 := (sa.below b3').set (i := pn) hlt1 hB' hpn (xp + y)
          have hwr : IntKind.i64.wrap (xp + y) = xp + y := wrap_id (by omega) (by omega)
          dsimp only
          refine hK.out _ _ ⟨hSS3.1, fun _ => hSS3.2⟩ ?_
          clear hK K hSS
          refine wpAnyE_take0 (i := 13) (v := ?v13) rfl (by kernel_rfl) (by kernel_rfl) (by kernel_rfl) (by decide) (fun _ _ _ h => h) (Or.inl ⟨by rfl, ?hy13⟩) hSS3 ?_
          case hy13 => (intro wz hSw; (try dsimp only at hSw); go_simp; try (with_reducible rfl))
          refine wpAnyE_one (i := 14) (by kernel_rfl) rfl (fun K hK => ?_)
          go_simp
          refine hK.out _ _ ⟨hSS3.1, fun _ => hSS3.2⟩ ?_
          clear hK K
          refine wpAnyE_one (i := 15) (by kernel_rfl) rfl (fun K hK => ?_)
          go_simp
          refine hK.out _ _ ⟨hSS4, fun h => absurd (show true = false from h) (by decide)⟩ ?_
          clear hK K
          refine wpAnyE_done (by kernel_rfl) ?_ _
          clear b3 b3' sa bxa ia ib ua bx3 hSS3 hSS4 ck fk ck3 fk3 m0 m1 m2 m3 m4 m5 n0 n1 n2 n3 n4 n5 o0 o1 o2 o3 o4 o5
          go_wp2
          go_roundw
          case rel => exact ⟨k + 1, _, tl, by omega, by go_num, HS.out, s3⟩
          case measure => simp [intOf]; omega
        · have hk2' : (gk == 2) = false := by simp [hk2]
          by_cases hk3 : gk = 3
          · subst hk3
            have hsm := line_three hok'
            obtain ⟨rfl, rfl, bC, bD, bK1, bK2⟩ := small_elim hsm
            obtain ⟨q1, q2, q3, q4⟩ := small_at bC bD bK1 bK2 bX bU (by omega)
            obtain ⟨y, hy⟩ : ∃ y, atV gC gD gK x U = y := ⟨_, rfl⟩
            have HY : Hid (atV gC gD gK x U = y) := hy
            have HS : Hid (At U ls V (k + 1) x (tl ++ [y])) := by
              have := HAT.out.tell hkl.out h6l.out HG'.out rfl
              rw [show atF x U ⟨ga, 3, gcap, gc, 2, gcap', gK, gC, gD⟩ = y from hy] at this
              exact this
            have ht := HAT.out.t
            obtain ⟨tn, htn⟩ : ∃ tn, tl.length = tn := ⟨_, rfl⟩
            have HTN : Hid (tl.length = tn) := htn
            rw [htn] at ht
            clear hy hok' hsm bX q3 q4 htn
            go_wp2_with fail
            refine (satG_any _ _ _ _ _ gC gD _ _ _ _ x U _ (iC.alloc _) (iD.alloc _) (s.ox.alloc _).ints (hUr.alloc _) _ _ q1 q2 (by omega) (by omega) (by omega) (by omega) ⟨by omega, by omega⟩).mono ?_
            rintro e w3 ⟨rfl, b3⟩
            rw [HY.out]
            have s3 := (s.alloc _).below b3
            have jo := s3.j.o
            rw [HTN.out] at jo
            have hjb := s3.j.b.size
            have lB3 := s3.ox.lt (by omega)
            clear b3 s iC iD e0 e1 e2 e3 e4 e5 q1 q2 hVr hUr
            go_wp2_with (at_builtin; go_must (refine wpList_append_lies _ rfl (.tmp 78) (.tmp 84) 24 rfl w1.heap.size 3 i0 (.int .i64 0) 1 8 Tryz.underlying24 hi hz0 hz1 hz2 rfl (by decide) _ _ _ rfl (jo.alloc _) ⟨w3.heap.size, 0, none⟩ 1 1 [.int .i64 y] rfl rfl (news1 _ _ _) (one1 _ _) (by omega) (by unfold maxLen; omega) (by omega) (by rw [World.size_alloc]; omega) _ rfl ?_); intro g4 cp4 w4 hown hgrow hat hlt4)
            have s4 := s3.app hlt1 HTN.out hown hgrow hat (by rw [World.size_alloc]; omega)
            clear hown hgrow jo s3 hat
            go_wp2
            go_roundw
            case rel => exact ⟨k + 1, x, tl ++ [y], by omega, by go_num, HS.out, s4⟩
            case measure => simp [intOf]; omega
          · have hk3' : (gk == 3) = false := by simp [hk3]
            have E : Hid _ := run_stop HB.out (HAT.out.stop hkl.out h6l.out HG'.out hk1 hk2 hk3)
            clear bX hok'
            have sa := s.alloc (.cells #[.int .i64 gk, .int .i64 gp, .int .i64 gz, .slice ga gn gcap, .slice gc gm gcap', .int .i64 gK] 153)
            go_upto_region 10 with fail
            obtain ⟨Wa, hWa⟩ : ∃ Wa, Wa = wr.alloc (.cells #[.int .i64 gk, .int .i64 gp, .int .i64 gz, .slice ga gn gcap, .slice gc gm gcap', .int .i64 gK] 153) := ⟨_, rfl⟩
            rw [← hWa] at sa ⊢
            clear hWa s iC iD e0 e1 e2 e3 e4 e5 hVr hUr
            have HL : Hid ((V.map (Value.int .i64)).length = 3 * 1) := by show _ = _; rw [List.length_map, HVL.out]
            have HC : Hid _ := HNW.out Wa sa.b
            have HJ : Hid _ := (JA.lit Wa).o
            have hwa := sa.rc.lt
            go_wp2_with (at_builtin; go_must (refine wpList_append_lies _ rfl (.tmp 44) (.tmp 45) 24 rfl Wa.heap.size 3 i0 (.int .i64 0) 1 8 Tryz.underlying24 hi hz0 hz1 hz2 rfl (by decide) _ 0 [] rfl HJ.out ⟨vb, vo, none⟩ 3 cv (V.map (Value.int .i64)) rfl HL.out HC.out (oneI _) (by omega) (by unfold maxLen; omega) (by omega) (by rw [World.size_alloc]; omega) _ rfl ?_); intro g5 cp5 w5 hown hgrow hat hlt5; have j := JA.copied HVL.out hown hgrow; have rc5 := sa.rc.below j.b; obtain ⟨d0, d1, f0, f1⟩ := rc5.pair; have hlt6 := rc5.lt; clear hown hgrow hat)
            obtain ⟨x5, cx5, B5, hv5, hX5, hB5⟩ := j.ownx HVL.out
            simp only [Value.slice.injEq, true_and] at hv5
            obtain ⟨rfl, rfl⟩ := hv5
            have bb := sa.b.trans (j.b.mono sa.b.size)
            refine bodyPost_ret (v := .tuple #[resV 2 none 0 0, .slice (some ⟨g5, 0, none⟩) 3 cp5]) (by simp [results, Tryz.results67, go_sem, d0, d1]) rfl ?_
            obtain ⟨e1, e2, e3⟩ := E.out
            rw [e1, e2, e3]
            refine ⟨none, 0, 0, 0, some ⟨g5, 0, none⟩, 3, cp5, B5, rfl, rfl, HVL.out, ?_, OwnX.nil _ _ _, ?_, fun h => by omega, fun h => by have := hB5 h; have := sa.b.size; omega, fun h => by omega⟩
            · exact (bb.setCell (Nat.le_refl _) _).setCell (Nat.le_refl _) _
            · exact (hX5.setOther (fun h => by have := hB5 h; omega) _ _).setOther (fun h => by have := hB5 h; omega) _ _
    · have E : Hid _ := run_go HB.out (HAT.out.done (by rw [HN.out]; omega))
      obtain ⟨tn, htn⟩ : ∃ tn, tl.length = tn := ⟨_, rfl⟩
      have HTN : Hid (tl.length = tn) := htn
      obtain ⟨ta, ctt, BT, hv, hT, hBT⟩ := s.j.ownx HTN.out
      have hne : 0 < tn → BT ≠ g2 := fun h0 e => by
        obtain ⟨e1, _, _⟩ := hT.pos h0
        exact s.ne (by rw [hv, e1, e]; rfl)
      have ox := s.ox
      have sb := s.b
      have rc := s.rc
      clear htn
      subst hv
      clear s
      go_wp2_with fail
      refine (end_any _ _ _ _ g2 _ _ _ BT V x tl _ hVr ox hT hne (w.heap.size + 1) (fun h => by have := hBT h; omega) (by omega) (by have := rc.lt; omega)).mono ?_
      rintro e w6 ⟨ra, rn, rcap, RB1, pb, pm, pcap, RB2, rfl, L1, L2, b6, O1, O2, y1, y2, y3⟩
      have rc6 := rc.below b6
      have b66 := sb.trans (b6.mono sb.size)
      have hlt6 := rc6.lt
      obtain ⟨d0, d1, f0, f1⟩ := rc6.pair
      clear rc6 rc sb ox hT hVr hUr
      go_wp2
      refine bodyPost_ret (v := .tuple #[resV (endCode x) ra rn rcap, .slice pb pm pcap]) (by simp [results, Tryz.results67, go_sem, d0, d1]) rfl ?_
      obtain ⟨e1, e2, e3⟩ := E.out
      rw [e1, e2, e3]
      refine ⟨ra, rn, rcap, RB1, pb, pm, pcap, RB2, rfl, L1, L2, ?_, ?_, ?_, fun h => by have := y1 h; omega, fun h => by have := y2 h; omega, y3⟩
      · exact (b66.setCell (Nat.le_refl _) _).setCell (Nat.le_refl _) _
      · exact (O1.setOther (fun h => by have := y1 h; omega) _ _).setOther (fun h => by have := y1 h; omega) _ _
      · exact (O2.setOther (fun h => by have := y2 h; omega) _ _).setOther (fun h => by have := y2 h; omega) _ _

end Go.Proofs.YtpmihhbgjimpmaaGreatDoor
