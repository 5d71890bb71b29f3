/-
  For all plans and slices of calls that were done FnExactSerRun returns true, and all read behind the call as they did. The library's tables that are listed are as its text lays them; no other condition.
-/
import Derived.Test.YtpmihhbgjimpmaaGreatDoorJExactSerRunCardE
import Derived.Test.YtpmihhbgjimpmaaGreatDoorMkRs
import Derived.Test.YtpmihhbgjimpmaaGreatDoorJExactSerRunCardA
import Derived.Test.YtpmihhbgjimpmaaGreatDoorJExactSerRunCardB
import Derived.Test.YtpmihhbgjimpmaaGreatDoorTie
import Derived.Test.YtpmihhbgjimpmaaGreatDoorCards
import Derived.Stop.LaidErr
import Derived.Lib.LaidTab
import Derived.LaidMore
import Derived.Lay
import Derived.SevenTiedAt
import Derived.Stop.Joined
namespace Go.Proofs.YtpmihhbgjimpmaaGreatDoor.fnExactSerRun
open Go.ChangeShapes Go.WideShapes Go.ChangeAt Go.RowKit Go.Deep
set_option linter.unusedVariables false
set_option maxRecDepth 100000

/-- A copy runs as the act does. -/
theorem copiesL_go {fs gs : List LV} {U : List Int} (hl : gs.length = fs.length) (h : copiesL fs gs) (f : Nat) : ∀ (i : Nat) (x tl : List Int), goL U gs f i x tl = goL U fs f i x tl := by
  induction f with
  | zero => intro i x tl; rfl
  | succ f ih =>
    intro i x tl
    by_cases hi : i < gs.length
    · obtain ⟨a1, a2, a3, a4, a5, a6, _⟩ := h i hi
      have eF : atF x U (gs[i]?.getD noLV).f = atF x U (fs[i]?.getD noLV).f := by simp only [atF, a4, a5, a6]
      rw [goL, goL, if_pos hi, if_pos (show i < fs.length by omega), a1, a2, a3, eF]
      simp only [ih]
    · rw [goL_end (by omega), goL_end (by omega)]
theorem copies_sameLg {ss ts us : List LgV} {N : Nat} (h1 : ts.length = N) (h2 : us.length = N) (c1 : copiesLgS ss ts) (c2 : copiesLgS ss us) : ∀ i, i < N → sameLg (ts[i]?.getD noLg) (us[i]?.getD noLg) := fun i hi => by
  obtain ⟨a1, a2, a3, a4, a5, a6, -⟩ := c1 i (by omega)
  obtain ⟨b1, b2, b3, b4, b5, b6, -⟩ := c2 i (by omega)
  exact ⟨by rw [a1, b1], by rw [a2, b2], by rw [a3, b3], by show _ = _; rw [a4.2, b4.2], by rw [a5, b5], by show _ = _; rw [a6.2, b6.2], trivial⟩
theorem same_rs {ts us : List RsV} (h : ts.map dRs = us.map dRs) : ∀ i, i < ts.length → sameRs (ts[i]?.getD noRs) (us[i]?.getD noRs) := fun i hi => by
  have hl : ts.length = us.length := by simpa using congrArg List.length h
  have h1 := congrArg (fun l => l[i]?) h
  simp only [List.getElem?_map] at h1
  have et : ts[i]? = some (ts[i]?.getD noRs) := by rw [List.getElem?_eq_getElem (by omega)]; rfl
  have eu : us[i]? = some (us[i]?.getD noRs) := by rw [List.getElem?_eq_getElem (by omega)]; rfl
  rw [et, eu] at h1
  simp only [Option.map_some, Option.some.injEq, dRs, Prod.mk.injEq] at h1
  exact ⟨h1.1, h1.2, trivial⟩
theorem off_rs {f : Nat → RsV} {n : Nat} (h : ∀ j, j < n → (f j).t.n ≤ 1048576) : offRs f n ≤ n * 1048577 := by
  induction n with
  | zero => simp [offRs]
  | succ n ih =>
    have := h n (by omega)
    have := ih (fun j hj => h j (by omega))
    simp only [offRs]
    omega
theorem run_copies {ls gs : List LV} (hl : gs.length = ls.length) (h : copiesL ls gs) (N p : Nat) (V : List Int) (q : Nat) (U : List Int) : runCode N gs p V q U = runCode N ls p V q U ∧ runTells N gs p V q U = runTells N ls p V q U ∧ runPots N gs p V q U = runPots N ls p V q U := by
  have e1 : actB N gs = actB N ls := copiesL_act hl h
  have e2 : runL U gs V = runL U ls V := copiesL_go hl h _ _ _ _
  simp only [runCode, runTells, runPots, runB, e1, e2]
  exact ⟨rfl, rfl, rfl⟩
theorem step_copies {ss gs : List L2V} (hl : gs.length = ss.length) (h : copiesL2S ss gs) {f g : LgV} (e : copiesLg f g) (st : List (Int × List Int) × List Int) : serStep gs st g = serStep ss st f := by
  obtain ⟨-, -, e3, e4, -⟩ := e
  have hc : (gs[f.c.toNat]?.getD noL).n = (ss[f.c.toNat]?.getD noL).n ∧ (gs[f.c.toNat]?.getD noL).x.length = (ss[f.c.toNat]?.getD noL).x.length ∧ copiesL (ss[f.c.toNat]?.getD noL).x (gs[f.c.toNat]?.getD noL).x := by
    by_cases hi : f.c.toNat < gs.length
    · exact h _ hi
    · rw [List.getElem?_eq_none (by omega), List.getElem?_eq_none (by omega)]
      exact ⟨rfl, rfl, fun i hi => by simp [noL] at hi⟩
  obtain ⟨r1, r2, r3⟩ := run_copies hc.2.1 hc.2.2 (ss[f.c.toNat]?.getD noL).n st.2.length st.2 f.t.n f.t.x
  unfold serStep
  rw [e3, e4.1, e4.2, hc.1, r1, r2, r3]
theorem fold_copies {ss gs : List L2V} (hl : gs.length = ss.length) (h : copiesL2S ss gs) : ∀ (fs hs : List LgV), hs.length = fs.length → copiesLgS fs hs → ∀ st, hs.foldl (serStep gs) st = fs.foldl (serStep ss) st
  | [], [], _, _, st => rfl
  | f :: fs, g :: hs, e, c, st => by
    rw [List.foldl_cons, List.foldl_cons, step_copies (f := f) (g := g) hl h (c 0 (by simp)) st]
    exact fold_copies hl h fs hs (by simpa using e) (fun i hi => by have := c (i + 1) (by simpa using hi); simpa using this) _
  | [], _ :: _, e, _, _ => by simp at e
  | _ :: _, [], e, _, _ => by simp at e
theorem log_copies (cl : Int) (N ln : Nat) : ∀ (fs hs : List LgV), hs.length = fs.length → copiesLgS fs hs → hs.all (lgOk cl N) = fs.all (lgOk cl N)
  | [], [], _, _ => rfl
  | f :: fs, g :: hs, e, c => by
    have h0 := c 0 (by simp)
    obtain ⟨e1, e2, e3, e4, e5, e6, -⟩ := h0
    simp only [List.getElem?_cons_zero, Option.getD_some] at e1 e2 e3 e4 e5 e6
    have hk : lgOk cl N g = lgOk cl N f := by simp only [lgOk, e1, e2, e3, e4.1, e4.2, e5, e6.1, e6.2]
    rw [List.all_cons, List.all_cons, hk, log_copies cl N ln fs hs (by simpa using e) (fun i hi => by have := c (i + 1) (by simpa using hi); simpa using this)]
  | [], _ :: _, e, _ => by simp at e
  | _ :: _, [], e, _ => by simp at e
theorem ser_copies {cl : Int} {N : Nat} {ss gs : List L2V} {gn : Nat} {G : List Int} {sn : Nat} {S : List Int} {ln : Nat} {fs hs : List LgV} {R : List (Int × List Int) × List Int} (hl : gs.length = ss.length) (h : copiesL2S ss gs) (hl' : hs.length = fs.length) (h' : copiesLgS fs hs) (hR : serX cl N ss gn G sn S ln fs = R) : serX cl N gs gn G sn S ln hs = R := by
  have e1 : plnB cl N gs gn G sn S = plnB cl N ss gn G sn S := by rw [plnB, plnB, copies_catP hl h]
  have e2 : logB cl N ln hs = logB cl N ln fs := by rw [logB, logB, log_copies cl N ln fs hs hl' h']
  have e3 : serL gs S hs = serL ss S fs := fold_copies hl h fs hs hl' h' _
  rw [serX, e1, e2, e3]
  exact hR
/-- The memory of an elder world, as it is now. -/
theorem trim {w w' : World} (h : w.heap.size ≤ w'.heap.size) : ∃ u, u.heap.size = w.heap.size ∧ Below u.heap.size u w' ∧ ∀ S, Touch S w w' → Touch S w u := by
  have hs : (w'.heap.extract 0 w.heap.size).size = w.heap.size := by simp; omega
  have hg : ∀ k, k < w.heap.size → (w'.heap.extract 0 w.heap.size)[k]? = w'.heap[k]? := fun k hk => by
    rw [Array.getElem?_extract]
    simp
    omega
  refine ⟨{ w' with heap := w'.heap.extract 0 w.heap.size }, hs, ⟨rfl, rfl, rfl, by show _ ≤ _; rw [hs]; exact h, fun k hk => (hg k (by rw [← hs]; exact hk)).symm⟩, fun S t => ⟨t.os, t.tape, t.output, by show _ ≤ _; rw [hs]; exact Nat.le_refl _, fun k hk hn => (hg k hk).trans (t.block k hk hn)⟩⟩

set_option maxHeartbeats 25600000 in
theorem walk (w : World) (cl : Int) (ad : Option Addr) (N cap : Nat) (ss : List L2V) (ga : Option Addr) (gn gc : Nat) (G : List Int) (sa : Option Addr) (sn sc : Nat) (S : List Int) (hl : ss.length = N) (hM : LSM w ad ss) (hN1 : N ≤ maxLen) (hG : Ints w ga gn G) (hg1 : gn ≤ maxLen) (hS : Ints w sa sn S) (hs1 : sn ≤ maxLen) (la : Option Addr) (ln lc : Nat) (fs : List LgV) (hfl : fs.length = ln) (hML : LgSM w la fs) (hl1 : ln ≤ maxLen) (hT : Lib.TabBelow Tryz.prog w.heap.size w "internal/strconv.uint64pow10" .u64 Lib.pow10Tab) :
    Calls Tryz.prog 5 #[plV cl ad N cap ga gn gc sa sn sc, .slice la ln lc] w fun r w' => r = .returned (.bool true) ∧ Below w.heap.size w w' := by
  have HN : Hid (ss.length = N) := hl
  have HL : Hid (fs.length = ln) := hfl
  have HT : Hid _ := hT
  clear hl hfl hT
  have q := Cel.new w [.int .i64 cl, .slice ad N cap, .slice ga gn gc, .slice sa sn sc] 65
  have B := (Below.refl w.heap.size w).alloc (Nat.le_refl _) (.cells #[.int .i64 cl, .slice ad N cap, .slice ga gn gc, .slice sa sn sc] 65)
  obtain ⟨W0, hW0⟩ : ∃ W, W = w.alloc (.cells #[.int .i64 cl, .slice ad N cap, .slice ga gn gc, .slice sa sn sc] 65) := ⟨_, rfl⟩
  have q0 := q.cell 0
  have q1 := q.cell 1
  have q2 := q.cell 2
  have q3 := q.cell 3
  simp only [List.getElem?_cons_zero, List.getElem?_cons_succ] at q0 q1 q2 q3
  go_enter Tryz.func5, Tryz.ntmps5
  go_wp2_with fail
  rw [← hW0] at q B
  rw [← hW0]
  clear hW0 q0 q1 q2 q3
  have B2 : Below W0.heap.size W0 W0 := Below.refl _ _
  have zB := B.size
  have lq := q.lt
  refine (szP_any _ _ _ _ ss _ _ _ G _ _ _ S _ _ HN.out (hM.below B) hN1 (hG.below B) hg1 (hS.below B) hs1 (by omega) (by omega)).mono ?_
  rintro ee w1 ⟨y, rfl, p1, p2, p3, b⟩
  replace B := B.trans (b.mono B.size)
  replace B2 := B2.trans (b.mono B2.size)
  replace q := q.below b
  have z1 := b.size
  clear b
  by_cases hr : y < 0
  · go_wp2
    go_ret
    exact ⟨rfl, B⟩
  have hr' : 0 ≤ y := by omega
  have A := p3 hr'
  have zA := A.za
  have zg := A.zg
  have zs := A.zs
  have HG : Hid (G.length = gn) := A.g.1
  have HS : Hid (S.length = sn) := A.s.1
  have hyn : ¬ y < 0 := hr
  clear p3 p1 hr hM hG hS
  go_wp2_with fail
  refine (szLgS_any _ _ _ fs _ _ HL.out (hML.below B) hl1 hr' p2).mono ?_
  rintro ee w2 ⟨y2, rfl, p1, p4, s2, b⟩
  replace B := B.trans (b.mono B.size)
  replace B2 := B2.trans (b.mono B2.size)
  replace q := q.below b
  have z2 := b.size
  clear b
  by_cases hr : y2 < 0
  · go_wp2
    go_ret
    exact ⟨rfl, B⟩
  have hr2 : 0 ≤ y2 := by omega
  obtain ⟨hLN, hsz⟩ := s2 hr2
  have hF := hML.g hsz
  have hyn2 : ¬ y2 < 0 := hr
  clear s2 hsz p1 p4 hr hML
  obtain ⟨R, hR⟩ : ∃ R, serX cl N ss gn G sn S ln fs = R := ⟨_, rfl⟩
  have HSP : Hid (∀ (W : World) (ad : Option Addr) (cap : Nat) (ga : Option Addr) (gc : Nat) (sa : Option Addr) (sc : Nat) (la : Option Addr) (lc : Nat) (gs : List L2V) (hs : List LgV), PlAt W ad N gs ga gn G sa sn S → copiesL2S ss gs → hs.length = ln → copiesLgS fs hs → LgSG W la hs → Calls Tryz.prog 22 #[plV cl ad N cap ga gn gc sa sn sc, .slice la ln lc] W fun r w' => SerD W w' r R) := by
    intro W ad cap ga gc sa sc la lc gs hs h1 h2 h3 h4 h5
    have := sser_any cl ad N cap ga gn gc sa sn sc gs G S la ln lc hs W h1 h3 h5 hLN
    rw [ser_copies (by rw [h1.ha, HN.out]) h2 (by rw [h3, HL.out]) h4 hR] at this
    exact this
  have HIP : Hid (∀ (W : World) (ad : Option Addr) (cap : Nat) (ga : Option Addr) (gc : Nat) (sa : Option Addr) (sc : Nat) (la : Option Addr) (lc : Nat) (gs : List L2V) (hs : List LgV), PlAt W ad N gs ga gn G sa sn S → copiesL2S ss gs → hs.length = ln → copiesLgS fs hs → LgSG W la hs → Lib.TabBelow Tryz.prog W.heap.size W "internal/strconv.uint64pow10" .u64 Lib.pow10Tab → Calls Tryz.prog 21 #[plV cl ad N cap ga gn gc sa sn sc, .slice la ln lc] W fun r w' => SerD W w' r R) := by
    intro W ad cap ga gc sa sc la lc gs hs h1 h2 h3 h4 h5 h6
    have := iser_any cl ad N cap ga gn gc sa sn sc gs G S la ln lc hs W h1 h3 h5 hLN h6
    rw [ser_copies (by rw [h1.ha, HN.out]) h2 (by rw [h3, HL.out]) h4 hR] at this
    exact this
  have HRL : Hid (R.1.length ≤ ln) := by
    show _ ≤ _
    rw [← hR, serX]
    split
    · rw [serL_len, HL.out]; exact Nat.le_refl _
    · exact Nat.zero_le _
  clear hR
  obtain ⟨R1, R2⟩ := R
  have cq_0 := q.cell 0
  have cq_1 := q.cell 1
  have cq_2 := q.cell 2
  have cq_3 := q.cell 3
  simp only [List.getElem?_cons_zero, List.getElem?_cons_succ] at cq_0 cq_1 cq_2 cq_3
  go_wp2_with fail
  refine (toP_sep _ _ _ _ ss _ _ _ G _ _ _ S _ (A.below B2)).mono ?_
  rintro ee w3 ⟨C1, C2, C3, gs, rfl, hg, hc, b, mm, kb, kc, -, -, -, -⟩
  clear cq_0 cq_1 cq_2 cq_3
  replace B := B.trans (b.mono B.size)
  replace B2 := B2.trans (b.mono B2.size)
  replace q := q.below b
  have z3 := b.size
  clear b
  go_wp2_with fail
  refine (toLgS_any _ _ _ fs _ HL.out (hF.below B) hLN).mono ?_
  rintro ee w4 ⟨hs, rfl, hg2, hc2, b, ml⟩
  replace B := B.trans (b.mono B.size)
  replace B2 := B2.trans (b.mono B2.size)
  replace q := q.below b
  replace mm := mm.below b
  replace kb := kb.below b
  replace kc := kc.below b
  have z4 := b.size
  clear b
  go_wp2_with fail
  refine (HSP.out _ _ _ _ _ _ _ _ _ gs hs ⟨mm.g, hg, zA, kb.ints' HG.out, zg, kc.ints' HS.out, zs⟩ hc hg2 hc2 ml.g).mono ?_
  rintro ee w5 ⟨v3, t3, bs3, a3, m, c3, O3, rfl, j3, x3, L3, z3, o3, -⟩
  dsimp only at x3 L3 o3
  obtain ⟨n, hn3⟩ : ∃ n, t3.length = n := ⟨_, rfl⟩
  have b3 := j3.b
  obtain ⟨a3', G3, c3', rfl, l3, -⟩ := j3.lies hn3
  have g3 : RsSG w5 a3' t3 := l3.sg hn3
  have HN3 : Hid (t3.length = n) := hn3
  have HX3 : Hid (t3.map dRs = R1) := x3
  have HM3 : Hid (R2.length = m) := L3
  have o3i := o3.ints
  have hnn : n ≤ 1048576 := by
    have h1 := congrArg List.length x3
    rw [List.length_map] at h1
    have h2 : R1.length ≤ ln := HRL.out
    omega
  clear j3 l3 x3 L3 hn3 o3 HRL
  clear mm kb kc ml
  clear hg hc hg2 hc2
  clear gs hs
  replace B := B.trans (b3.mono B.size)
  replace B2 := B2.trans (b3.mono B2.size)
  replace q := q.below b3
  have z5 := b3.size
  clear b3
  have V : Below w5.heap.size w5 w5 := Below.refl _ _
  have cq_0 := q.cell 0
  have cq_1 := q.cell 1
  have cq_2 := q.cell 2
  have cq_3 := q.cell 3
  simp only [List.getElem?_cons_zero, List.getElem?_cons_succ] at cq_0 cq_1 cq_2 cq_3
  go_wp2_with fail
  refine (toP_sep _ _ _ _ ss _ _ _ G _ _ _ S _ (A.below B2)).mono ?_
  rintro ee w6 ⟨C1, C2, C3, gs, rfl, hg, hc, b, mm, kb, kc, lC1, lC23, lC3, ci, cc0, cc1, cc2⟩
  clear cq_0 cq_1 cq_2 cq_3
  replace B := B.trans (b.mono B.size)
  replace B2 := B2.trans (b.mono B2.size)
  replace q := q.below b
  replace V := V.trans (b.mono V.size)
  have z6 := b.size
  clear b
  have HGS : Hid (gs.length = N) := hg
  have HCP : Hid (copiesL2S ss gs) := hc
  have HCC : Hid _ := cc2
  have HLE : Hid _ := mm.lens hg
  clear cc2 hg hc
  have al := (Below.refl w6.heap.size w6).alloc (Nat.le_refl _) (.cells #[.int .i64 cl, .slice (some ⟨C1, 0, none⟩) N N, .slice (some ⟨C2, 0, none⟩) gn gn, .slice (some ⟨C3, 0, none⟩) sn sn] 26)
  replace B := B.trans (al.mono B.size)
  replace B2 := B2.trans (al.mono B2.size)
  replace q := q.below al
  replace V := V.trans (al.mono V.size)
  replace mm := mm.below al
  replace kb := kb.below al
  replace kc := kc.below al
  clear al
  have x := Cel.new w6 [.int .i64 cl, .slice (some ⟨C1, 0, none⟩) N N, .slice (some ⟨C2, 0, none⟩) gn gn, .slice (some ⟨C3, 0, none⟩) sn sn] 26
  go_wp2_with fail
  obtain ⟨w7, hw7⟩ : ∃ W, W = w6.alloc (.cells #[.int .i64 cl, .slice (some ⟨C1, 0, none⟩) N N, .slice (some ⟨C2, 0, none⟩) gn gn, .slice (some ⟨C3, 0, none⟩) sn sn] 26) := ⟨_, rfl⟩
  rw [← hw7]
  rw [← hw7] at B B2 q V mm kb kc x
  have zb7 : w7.heap.size = w6.heap.size + 1 := by rw [hw7, World.size_alloc]
  have za7 : w7.heap.size ≤ w6.heap.size + 1 ∧ w6.heap.size + 1 ≤ w7.heap.size := by omega
  clear hw7 zb7
  refine (toLgS_any _ _ _ fs _ HL.out (hF.below B) hLN).mono ?_
  rintro ee w8 ⟨hs, rfl, hg2, hc2, b, ml⟩
  replace B := B.trans (b.mono B.size)
  replace B2 := B2.trans (b.mono B2.size)
  replace q := q.below b
  replace V := V.trans (b.mono V.size)
  replace mm := mm.below b
  replace kb := kb.below b
  replace kc := kc.below b
  replace x := x.below b
  have z8 := b.size
  clear b
  have HGL : Hid (hs.length = ln) := hg2
  have HCL : Hid (copiesLgS fs hs) := hc2
  have M6 : MLg w8 w7.heap.size ln hs := ml
  have lml := ml.lt
  have U : Below w8.heap.size w8 w8 := Below.refl _ _
  clear hg2 hc2
  have cx_0 := x.cell 0
  have cx_1 := x.cell 1
  have cx_2 := x.cell 2
  have cx_3 := x.cell 3
  simp only [List.getElem?_cons_zero, List.getElem?_cons_succ] at cx_0 cx_1 cx_2 cx_3
  go_wp2_with fail
  refine (HIP.out _ _ _ _ _ _ _ _ _ gs hs ⟨mm.g, HGS.out, zA, kb.ints' HG.out, zg, kc.ints' HS.out, zs⟩ HCP.out HGL.out HCL.out ml.g (fun w' h' => HT.out w' (B.trans (h'.mono B.size)))).mono ?_
  rintro ee w9 ⟨v5, t5, bs5, a5, m5, c5, O5, rfl, j5, x5, L5, z5, o5, hO5⟩
  dsimp only at x5 L5 o5
  obtain rfl : m = m5 := by rw [← L5]; exact HM3.out.symm
  have hn5 : t5.length = n := by
    have h1 := congrArg List.length x5
    have h2 := congrArg List.length HX3.out
    rw [List.length_map] at h1 h2
    rw [h1, ← h2]; exact HN3.out
  have HSM : Hid (∀ i, i < n → sameRs (t5[i]?.getD noRs) (t3[i]?.getD noRs)) := fun i hi => same_rs (x5.trans HX3.out.symm) i (by omega)
  have hjk : ∀ i, i < n → (t5[i]?.getD noRs).t.n ≤ 1048576 := fun i hi => (j5.k i (by omega)).2.1
  have b5 := j5.b
  obtain ⟨a5', G5, c5', rfl, l5, hG5, hb5⟩ := j5.lies hn5
  have HG5 : Hid _ := hG5
  have HB5 : Hid _ := hb5
  have HO5 : Hid (0 < m → w8.heap.size ≤ O5 ∧ (0 < n → O5 ≠ G5) ∧ ∀ j, j < n → 0 < (t5[j]?.getD noRs).t.n → bs5 j ≠ O5) := fun h0 => by
    obtain ⟨h1, h2, h3⟩ := hO5 h0
    refine ⟨h1, fun hn e => h2 ?_, fun j hj => h3 j (by omega)⟩
    rw [(l5.at hn).1, e]; rfl
  have hoff : (1 : Int) + offRs (fun i => t5[i]?.getD noRs) n ≤ 100000000000000 := by
    have := off_rs (f := fun i => t5[i]?.getD noRs) (n := n) hjk
    omega
  obtain ⟨FO, hFO⟩ : ∃ F : Int, F = 1 + offRs (fun i => t5[i]?.getD noRs) n := ⟨_, rfl⟩
  have HFO : Hid _ := hFO
  have hFO0 : ¬ (FO < 0) := by omega
  have hFO1 : 0 ≤ FO ∧ FO ≤ 100000000000000 := by omega
  have hFO2 : ¬ (FO + (m : Int) < 0) := by omega
  have hFO3 : (FO + (m : Int) != FO + m) = false := by simp
  have hOFF : Hid _ := hoff
  have HN5 : Hid (t5.length = n) := hn5
  clear j5 x5 L5 hn5 hFO hoff hG5 hb5 hO5 hjk
  clear cx_0 cx_1 cx_2 cx_3
  replace B := B.trans (b5.mono B.size)
  replace B2 := B2.trans (b5.mono B2.size)
  replace q := q.below b5
  replace V := V.trans (b5.mono V.size)
  replace mm := mm.below b5
  replace kb := kb.below b5
  replace kc := kc.below b5
  replace x := x.below b5
  replace ml := ml.below b5
  replace U := U.trans (b5.mono U.size)
  have z9 := b5.size
  clear b5
  have heR := eqB_refl R2
  go_wp2_with fail
  refine (eqRsS_same _ _ _ _ _ t5 t3 _ HN5.out HN3.out (l5.sg HN5.out) (g3.below V) hnn HSM.out).mono ?_
  rintro ee w10 ⟨rfl, b⟩
  replace B := B.trans (b.mono B.size)
  replace B2 := B2.trans (b.mono B2.size)
  replace q := q.below b
  replace V := V.trans (b.mono V.size)
  replace mm := mm.below b
  replace kb := kb.below b
  replace kc := kc.below b
  replace x := x.below b
  replace ml := ml.below b
  replace U := U.trans (b.mono U.size)
  replace l5 := l5.below b
  replace o5 := o5.below b
  have z10 := b.size
  clear b
  go_wp2_with fail
  refine (eq_any _ _ _ _ _ _ R2 R2 _ o5.ints (o3i.below V) z3 z3).mono ?_
  rintro ee w11 ⟨rfl, b⟩
  replace B := B.trans (b.mono B.size)
  replace B2 := B2.trans (b.mono B2.size)
  replace q := q.below b
  replace V := V.trans (b.mono V.size)
  replace mm := mm.below b
  replace kb := kb.below b
  replace kc := kc.below b
  replace x := x.below b
  replace ml := ml.below b
  replace U := U.trans (b.mono U.size)
  replace l5 := l5.below b
  replace o5 := o5.below b
  have z11 := b.size
  clear b
  have qq0 := q.cell 0
  have qq1 := q.cell 1
  have qq2 := q.cell 2
  have qq3 := q.cell 3
  have xx0 := x.cell 0
  have xx1 := x.cell 1
  have xx2 := x.cell 2
  have xx3 := x.cell 3
  simp only [List.getElem?_cons_zero, List.getElem?_cons_succ] at qq0 qq1 qq2 qq3 xx0 xx1 xx2 xx3
  go_upto_region 14 with fail
  have KP : Hid (∀ X, Below w11.heap.size w11 X → X.cell? ⟨w.heap.size, 0, none⟩ = some (.int .i64 cl) ∧ X.cell? ⟨w.heap.size, 1, none⟩ = some (.slice ad N cap) ∧ X.cell? ⟨w.heap.size, 2, none⟩ = some (.slice ga gn gc) ∧ X.cell? ⟨w.heap.size, 3, none⟩ = some (.slice sa sn sc) ∧ X.cell? ⟨w6.heap.size, 0, none⟩ = some (.int .i64 cl) ∧ X.cell? ⟨w6.heap.size, 1, none⟩ = some (.slice (some ⟨C1, 0, none⟩) N N) ∧ X.cell? ⟨w6.heap.size, 2, none⟩ = some (.slice (some ⟨C2, 0, none⟩) gn gn) ∧ X.cell? ⟨w6.heap.size, 3, none⟩ = some (.slice (some ⟨C3, 0, none⟩) sn sn)) := fun X hX => ⟨(hX.cell (p := ⟨w.heap.size, 0, none⟩) (block_lt qq0)).trans qq0, (hX.cell (p := ⟨w.heap.size, 1, none⟩) (block_lt qq1)).trans qq1, (hX.cell (p := ⟨w.heap.size, 2, none⟩) (block_lt qq2)).trans qq2, (hX.cell (p := ⟨w.heap.size, 3, none⟩) (block_lt qq3)).trans qq3, (hX.cell (p := ⟨w6.heap.size, 0, none⟩) (block_lt xx0)).trans xx0, (hX.cell (p := ⟨w6.heap.size, 1, none⟩) (block_lt xx1)).trans xx1, (hX.cell (p := ⟨w6.heap.size, 2, none⟩) (block_lt xx2)).trans xx2, (hX.cell (p := ⟨w6.heap.size, 3, none⟩) (block_lt xx3)).trans xx3⟩
  have d : Below w11.heap.size w11 w11.drew := (Below.refl _ _).drew
  have hSS : (w11.drew.cell? ⟨w.heap.size, 0, none⟩ = some (.int .i64 cl) ∧ w11.drew.cell? ⟨w.heap.size, 1, none⟩ = some (.slice ad N cap) ∧ w11.drew.cell? ⟨w.heap.size, 2, none⟩ = some (.slice ga gn gc) ∧ w11.drew.cell? ⟨w.heap.size, 3, none⟩ = some (.slice sa sn sc) ∧ w11.drew.cell? ⟨w6.heap.size, 0, none⟩ = some (.int .i64 cl) ∧ w11.drew.cell? ⟨w6.heap.size, 1, none⟩ = some (.slice (some ⟨C1, 0, none⟩) N N) ∧ w11.drew.cell? ⟨w6.heap.size, 2, none⟩ = some (.slice (some ⟨C2, 0, none⟩) gn gn) ∧ w11.drew.cell? ⟨w6.heap.size, 3, none⟩ = some (.slice (some ⟨C3, 0, none⟩) sn sn)) ∧ True := ⟨KP.out _ d, trivial⟩
  refine wp_region_ends (fun X => X.cell? ⟨w.heap.size, 0, none⟩ = some (.int .i64 cl) ∧ X.cell? ⟨w.heap.size, 1, none⟩ = some (.slice ad N cap) ∧ X.cell? ⟨w.heap.size, 2, none⟩ = some (.slice ga gn gc) ∧ X.cell? ⟨w.heap.size, 3, none⟩ = some (.slice sa sn sc) ∧ X.cell? ⟨w6.heap.size, 0, none⟩ = some (.int .i64 cl) ∧ X.cell? ⟨w6.heap.size, 1, none⟩ = some (.slice (some ⟨C1, 0, none⟩) N N) ∧ X.cell? ⟨w6.heap.size, 2, none⟩ = some (.slice (some ⟨C2, 0, none⟩) gn gn) ∧ X.cell? ⟨w6.heap.size, 3, none⟩ = some (.slice (some ⟨C3, 0, none⟩) sn sn)) (fun _ => True) 4 (by kernel_rfl) ?_
  obtain ⟨V11_, hV0⟩ : ∃ V, V = w11.drew := ⟨_, rfl⟩
  rw [← hV0] at hSS d
  rw [← hV0]
  clear hV0
  refine tkL (i := 0) rfl hSS ?_
  refine tkL (i := 1) rfl hSS ?_
  (try simp only [Act.put, List.setIfInBounds_toArray, List.set_cons_succ, List.set_cons_zero, List.getElem_toArray, List.getElem_cons_succ, List.getElem_cons_zero])
  have bv := d
  clear d
  replace B := B.trans (bv.mono B.size)
  replace B2 := B2.trans (bv.mono B2.size)
  replace q := q.below bv
  replace V := V.trans (bv.mono V.size)
  replace mm := mm.below bv
  replace kb := kb.below bv
  replace kc := kc.below bv
  replace x := x.below bv
  replace ml := ml.below bv
  replace U := U.trans (bv.mono U.size)
  replace l5 := l5.below bv
  replace o5 := o5.below bv
  have dd := bv
  have z12 := bv.size
  clear bv
  refine wpAnyE_one (i := 2) (by kernel_rfl) rfl (fun K hK => ?_)
  go_simp
  refine (toP_sep _ _ _ _ ss _ _ _ G _ _ _ S _ (A.below B2)).mono ?_
  rintro ee w13 ⟨Y1, Y2, Y3, us, rfl, hg3, hc3, b, my, ky, kz, -, -, -, -⟩
  replace dd := dd.trans (b.mono dd.size)
  replace B := B.trans (b.mono B.size)
  replace B2 := B2.trans (b.mono B2.size)
  replace q := q.below b
  replace V := V.trans (b.mono V.size)
  replace mm := mm.below b
  replace kb := kb.below b
  replace kc := kc.below b
  replace x := x.below b
  replace ml := ml.below b
  replace U := U.trans (b.mono U.size)
  replace l5 := l5.below b
  replace o5 := o5.below b
  have z13 := b.size
  clear b
  (try dsimp only)
  replace hSS : (w13.cell? ⟨w.heap.size, 0, none⟩ = some (.int .i64 cl) ∧ w13.cell? ⟨w.heap.size, 1, none⟩ = some (.slice ad N cap) ∧ w13.cell? ⟨w.heap.size, 2, none⟩ = some (.slice ga gn gc) ∧ w13.cell? ⟨w.heap.size, 3, none⟩ = some (.slice sa sn sc) ∧ w13.cell? ⟨w6.heap.size, 0, none⟩ = some (.int .i64 cl) ∧ w13.cell? ⟨w6.heap.size, 1, none⟩ = some (.slice (some ⟨C1, 0, none⟩) N N) ∧ w13.cell? ⟨w6.heap.size, 2, none⟩ = some (.slice (some ⟨C2, 0, none⟩) gn gn) ∧ w13.cell? ⟨w6.heap.size, 3, none⟩ = some (.slice (some ⟨C3, 0, none⟩) sn sn)) ∧ True := ⟨KP.out _ dd, trivial⟩
  refine hK.out _ _ ⟨hSS.1, fun _ => trivial⟩ ?_
  clear hK K
  refine wpAnyE_one (i := 3) (by kernel_rfl) rfl (fun K hK => ?_)
  go_simp
  refine (eqP_same _ _ _ _ gs _ _ _ G _ _ _ S _ _ us _ _ _ _ _ ⟨mm.g, HGS.out, zA, kb.ints' HG.out, zg, kc.ints' HS.out, zs⟩ ⟨my.g, hg3, zA, ky.ints' HG.out, zg, kz.ints' HS.out, zs⟩ (copies_sameP HGS.out hg3 HCP.out hc3 HLE.out)).mono ?_
  rintro ee w14 ⟨rfl, b⟩
  replace dd := dd.trans (b.mono dd.size)
  replace B := B.trans (b.mono B.size)
  replace B2 := B2.trans (b.mono B2.size)
  replace q := q.below b
  replace V := V.trans (b.mono V.size)
  replace mm := mm.below b
  replace kb := kb.below b
  replace kc := kc.below b
  replace x := x.below b
  replace ml := ml.below b
  replace U := U.trans (b.mono U.size)
  replace l5 := l5.below b
  replace o5 := o5.below b
  replace my := my.below b
  replace ky := ky.below b
  replace kz := kz.below b
  have z14 := b.size
  clear b
  (try dsimp only)
  replace hSS : (w14.cell? ⟨w.heap.size, 0, none⟩ = some (.int .i64 cl) ∧ w14.cell? ⟨w.heap.size, 1, none⟩ = some (.slice ad N cap) ∧ w14.cell? ⟨w.heap.size, 2, none⟩ = some (.slice ga gn gc) ∧ w14.cell? ⟨w.heap.size, 3, none⟩ = some (.slice sa sn sc) ∧ w14.cell? ⟨w6.heap.size, 0, none⟩ = some (.int .i64 cl) ∧ w14.cell? ⟨w6.heap.size, 1, none⟩ = some (.slice (some ⟨C1, 0, none⟩) N N) ∧ w14.cell? ⟨w6.heap.size, 2, none⟩ = some (.slice (some ⟨C2, 0, none⟩) gn gn) ∧ w14.cell? ⟨w6.heap.size, 3, none⟩ = some (.slice (some ⟨C3, 0, none⟩) sn sn)) ∧ True := ⟨KP.out _ dd, trivial⟩
  refine hK.out _ _ ⟨hSS.1, fun _ => trivial⟩ ?_
  clear hK K
  refine wpAnyE_one (i := 4) (by kernel_rfl) rfl (fun K hK => ?_)
  go_simp
  refine hK.out _ _ ⟨hSS.1, fun _ => trivial⟩ ?_
  clear hK K
  refine wpAnyE_done (by kernel_rfl) ?_ _
  clear hSS KP dd
  clear my ky kz
  clear hg3 hc3
  clear us
  clear qq0 xx0 qq1 xx1 qq2 xx2 qq3 xx3
  go_wp2_with fail
  refine (toLgS_any _ _ _ fs _ HL.out (hF.below B) hLN).mono ?_
  rintro ee w15 ⟨us, rfl, hg3, hc3, b, mu⟩
  replace B := B.trans (b.mono B.size)
  replace B2 := B2.trans (b.mono B2.size)
  replace q := q.below b
  replace V := V.trans (b.mono V.size)
  replace mm := mm.below b
  replace kb := kb.below b
  replace kc := kc.below b
  replace x := x.below b
  replace ml := ml.below b
  replace U := U.trans (b.mono U.size)
  replace l5 := l5.below b
  replace o5 := o5.below b
  have z15 := b.size
  clear b
  go_wp2_with fail
  refine (eqLgS_same _ _ _ _ _ hs us _ HGL.out hg3 ml.g mu.g hLN (copies_sameLg HGL.out hg3 HCL.out hc3)).mono ?_
  rintro ee w16 ⟨rfl, b⟩
  replace B := B.trans (b.mono B.size)
  replace B2 := B2.trans (b.mono B2.size)
  replace q := q.below b
  replace V := V.trans (b.mono V.size)
  replace mm := mm.below b
  replace kb := kb.below b
  replace kc := kc.below b
  replace x := x.below b
  replace ml := ml.below b
  replace U := U.trans (b.mono U.size)
  replace l5 := l5.below b
  replace o5 := o5.below b
  replace mu := mu.below b
  have z16 := b.size
  clear b
  clear mu
  clear hg3 hc3
  clear us
  clear ml
  have U8 := U
  clear U
  have TM : Touch (fun x => C1 < x ∧ x ≤ C3) w8 w16 := Touch.of U8
  have cx_0 := x.cell 0
  have cx_1 := x.cell 1
  have cx_2 := x.cell 2
  have cx_3 := x.cell 3
  simp only [List.getElem?_cons_zero, List.getElem?_cons_succ] at cx_0 cx_1 cx_2 cx_3
  go_wp2_with fail
  refine (markPb_any _ _ _ _ _ _ _ _ _ _ gs G S ci _ mm HGS.out zA cc0 cc1 HCC.out kb HG.out zg kc HS.out zs lC23).mono ?_
  rintro ee w17 ⟨r1, rfl, r10, r11, t⟩
  have TN := TM.trans t
  clear cx_0 cx_1 cx_2 cx_3
  replace B := B.trans (t.below B.size (fun k h => by omega))
  replace B2 := B2.trans (t.below B2.size (fun k h => by omega))
  replace q := q.touch t (fun h => by omega)
  replace V := V.trans (t.below V.size (fun k h => by omega))
  replace x := x.touch t (fun h => by omega)
  replace l5 := l5.touch t (fun h0 h => by have := HG5.out h0; omega) (fun j hj h0 h => by have := HB5.out j hj h0; omega)
  replace o5 := o5.touch t (fun h0 h => by have := (HO5.out h0).1; omega)
  have z17 := t.size
  clear t mm kb kc
  obtain ⟨u, hu1, hu2, hu3⟩ := trim (w := w8) (w' := w17) TN.size
  have MU : MLg u w7.heap.size ln hs := M6.touch (hu3 _ TN) (fun k h => by omega)
  clear M6 TM TN U8 hu3
  go_wp2_with fail
  refine (markMLg_any _ _ _ w7.heap.size u.heap.size hs _ u _ MU (fun _ => False) 0 (Mkd.below hu2) (fun h => h) HGL.out hLN (Nat.le_refl _) (Nat.le_refl _) r10 (by omega)).mono ?_
  rintro ee w18 ⟨r2, rfl, r20, r21, -, t⟩
  replace B := B.trans (t.below B.size (fun k h => by have h : w7.heap.size ≤ k ∧ k < u.heap.size := h; omega))
  replace B2 := B2.trans (t.below B2.size (fun k h => by have h : w7.heap.size ≤ k ∧ k < u.heap.size := h; omega))
  replace q := q.touch t (fun h => by have h : w7.heap.size ≤ w.heap.size ∧ w.heap.size < u.heap.size := h; omega)
  replace V := V.trans (t.below V.size (fun k h => by have h : w7.heap.size ≤ k ∧ k < u.heap.size := h; omega))
  replace x := x.touch t (fun h => by have h : w7.heap.size ≤ w6.heap.size ∧ w6.heap.size < u.heap.size := h; omega)
  replace l5 := l5.touch t (fun h0 h => by have h : w7.heap.size ≤ G5 ∧ G5 < u.heap.size := h; have := HG5.out h0; omega) (fun j hj h0 h => by have h : w7.heap.size ≤ bs5 j ∧ bs5 j < u.heap.size := h; have := HB5.out j hj h0; omega)
  replace o5 := o5.touch t (fun h0 h => by have h : w7.heap.size ≤ O5 ∧ O5 < u.heap.size := h; have := (HO5.out h0).1; omega)
  have z18 := t.size
  clear t
  clear MU hu2
  have yA' : decide (r2 < 0) = false := by simp; omega
  have yA : ¬ (r2 < 0) := by omega
  clear x
  go_wp2_with fail
  refine (eqRsS_same _ _ _ _ _ t5 t3 _ HN5.out HN3.out (l5.sg HN5.out) (g3.below V) hnn HSM.out).mono ?_
  rintro ee w19 ⟨rfl, b⟩
  replace B := B.trans (b.mono B.size)
  replace B2 := B2.trans (b.mono B2.size)
  replace q := q.below b
  replace V := V.trans (b.mono V.size)
  replace l5 := l5.below b
  replace o5 := o5.below b
  have z19 := b.size
  clear b
  go_wp2_with fail
  refine (eq_any _ _ _ _ _ _ R2 R2 _ o5.ints (o3i.below V) z3 z3).mono ?_
  rintro ee w20 ⟨rfl, b⟩
  replace B := B.trans (b.mono B.size)
  replace B2 := B2.trans (b.mono B2.size)
  replace q := q.below b
  replace V := V.trans (b.mono V.size)
  replace l5 := l5.below b
  replace o5 := o5.below b
  have z20 := b.size
  clear b
  have hlow : Hid (∀ k, ((0 < n ∧ k = G5) ∨ (∃ j, j < n ∧ 0 < (t5[j]?.getD noRs).t.n ∧ k = bs5 j)) → w8.heap.size ≤ k ∧ (0 < m → k ≠ O5)) := fun k hk => by
    rcases hk with ⟨h0, rfl⟩ | ⟨j, hj, h0, rfl⟩
    · exact ⟨HG5.out h0, fun hm e => (HO5.out hm).2.1 h0 e.symm⟩
    · exact ⟨HB5.out j hj h0, fun hm => (HO5.out hm).2.2 j hj h0⟩
  go_wp2_with fail
  refine (markRsL_any _ _ _ _ (fun i => t5[i]?.getD noRs) bs5 _ _ l5 hnn (by omega) hOFF.out).mono ?_
  rintro ee w21 ⟨rfl, t, lm⟩
  replace B := B.trans (t.below B.size (fun k h => by have := hlow.out k h; omega))
  replace B2 := B2.trans (t.below B2.size (fun k h => by have := hlow.out k h; omega))
  replace q := q.touch t (fun h => by have := hlow.out _ h; omega)
  replace V := V.trans (t.below V.size (fun k h => by have := hlow.out k h; omega))
  replace o5 := o5.touch t (fun h0 h => (hlow.out _ h).2 h0 rfl)
  have z21 := t.size
  clear t l5
  rw [← HFO.out]
  go_wp2_with fail
  refine (markX_any _ _ _ O5 R2 _ _ o5 z3 hFO1.1 (by omega)).mono ?_
  rintro ee w22 ⟨rfl, t, om⟩
  replace B := B.trans (t.below B.size (fun k h => by have := HO5.out h.2; omega))
  replace B2 := B2.trans (t.below B2.size (fun k h => by have := HO5.out h.2; omega))
  replace q := q.touch t (fun h => by have := HO5.out h.2; omega)
  replace V := V.trans (t.below V.size (fun k h => by have := HO5.out h.2; omega))
  replace lm := lm.touch t (fun h0 h => (HO5.out h.2).2.1 h0 h.1.symm) (fun j hj h0 h => (HO5.out h.2).2.2 j hj h0 h.1)
  have z22 := t.size
  clear t o5
  go_wp2_with fail
  refine (heldRsL_any _ _ _ _ (fun i => t5[i]?.getD noRs) bs5 _ _ lm hnn (by omega) hOFF.out).mono ?_
  rintro ee wh ⟨rfl, hwh⟩
  rw [hwh, ← HFO.out]
  clear hwh
  go_wp2_with fail
  refine (held_any _ _ _ _ _ om.ints z3 hFO1.1 (by omega)).mono ?_
  rintro ee wh2 ⟨rfl, hwh⟩
  rw [hwh]
  clear hwh
  have cq_0 := q.cell 0
  have cq_1 := q.cell 1
  have cq_2 := q.cell 2
  have cq_3 := q.cell 3
  simp only [List.getElem?_cons_zero, List.getElem?_cons_succ] at cq_0 cq_1 cq_2 cq_3
  go_wp2_with fail
  refine (toP_sep _ _ _ _ ss _ _ _ G _ _ _ S _ (A.below B2)).mono ?_
  rintro ee w23 ⟨C1', C2', C3', gs, rfl, hg, hc, b, mm, kb, kc, -, -, -, -⟩
  clear cq_0 cq_1 cq_2 cq_3
  replace B := B.trans (b.mono B.size)
  replace B2 := B2.trans (b.mono B2.size)
  replace q := q.below b
  replace V := V.trans (b.mono V.size)
  replace lm := lm.below b
  replace om := om.below b
  have z23 := b.size
  clear b
  go_wp2_with fail
  refine (toLgS_any _ _ _ fs _ HL.out (hF.below B) hLN).mono ?_
  rintro ee w24 ⟨hs, rfl, hg2, hc2, b, ml⟩
  replace B := B.trans (b.mono B.size)
  replace B2 := B2.trans (b.mono B2.size)
  replace q := q.below b
  replace V := V.trans (b.mono V.size)
  replace lm := lm.below b
  replace om := om.below b
  replace mm := mm.below b
  replace kb := kb.below b
  replace kc := kc.below b
  have z24 := b.size
  clear b
  go_wp2_with fail
  refine (HIP.out _ _ _ _ _ _ _ _ _ gs hs ⟨mm.g, hg, zA, kb.ints' HG.out, zg, kc.ints' HS.out, zs⟩ hc hg2 hc2 ml.g (fun w' h' => HT.out w' (B.trans (h'.mono B.size)))).mono ?_
  rintro ee w25 ⟨v9, t9, bs9, a9, m9, c9, O9, rfl, j9, x9, L9, z9, o9, -⟩
  dsimp only at x9 L9 o9
  obtain rfl : m = m9 := by rw [← L9]; exact HM3.out.symm
  have hn9 : t9.length = n := by
    have h1 := congrArg List.length x9
    have h2 := congrArg List.length HX3.out
    rw [List.length_map] at h1 h2
    rw [h1, ← h2]; exact HN3.out
  have HS9 : Hid (∀ i, i < n → sameRs (t9[i]?.getD noRs) (t3[i]?.getD noRs)) := fun i hi => same_rs (x9.trans HX3.out.symm) i (by omega)
  have b9 := j9.b
  obtain ⟨a9', G9, c9', rfl, l9, -⟩ := j9.lies hn9
  have HN9 : Hid (t9.length = n) := hn9
  clear j9 x9 L9 hn9
  clear mm kb kc ml
  replace B := B.trans (b9.mono B.size)
  replace B2 := B2.trans (b9.mono B2.size)
  replace q := q.below b9
  replace V := V.trans (b9.mono V.size)
  replace lm := lm.below b9
  replace om := om.below b9
  have z25 := b9.size
  clear b9
  go_wp2_with fail
  refine (eqRsS_same _ _ _ _ _ t9 t3 _ HN9.out HN3.out (l9.sg HN9.out) (g3.below V) hnn HS9.out).mono ?_
  rintro ee w26 ⟨rfl, b⟩
  replace B := B.trans (b.mono B.size)
  replace B2 := B2.trans (b.mono B2.size)
  replace q := q.below b
  replace V := V.trans (b.mono V.size)
  replace lm := lm.below b
  replace om := om.below b
  replace l9 := l9.below b
  replace o9 := o9.below b
  have z26 := b.size
  clear b
  go_wp2_with fail
  refine (eq_any _ _ _ _ _ _ R2 R2 _ o9.ints (o3i.below V) z3 z3).mono ?_
  rintro ee w27 ⟨rfl, b⟩
  replace B := B.trans (b.mono B.size)
  replace B2 := B2.trans (b.mono B2.size)
  replace q := q.below b
  replace V := V.trans (b.mono V.size)
  replace lm := lm.below b
  replace om := om.below b
  replace l9 := l9.below b
  replace o9 := o9.below b
  have z27 := b.size
  clear b
  go_wp2_with fail
  refine (heldRsL_any _ _ _ _ (fun i => t5[i]?.getD noRs) bs5 _ _ lm hnn (by omega) hOFF.out).mono ?_
  rintro ee wh ⟨rfl, hwh⟩
  rw [hwh, ← HFO.out]
  clear hwh
  go_wp2_with fail
  refine (held_any _ _ _ _ _ om.ints z3 hFO1.1 (by omega)).mono ?_
  rintro ee wh2 ⟨rfl, hwh⟩
  rw [hwh]
  clear hwh
  go_wp2
  go_ret
  exact ⟨rfl, B⟩

/-! ### The row's step -/
theorem tab_of {W : World} (h : laidMetH Tryz.prog Rows.fnExactSerRunRow.laid W) : Lib.TabIs Tryz.prog W "internal/strconv.uint64pow10" .u64 Lib.pow10Tab := by
  rw [MakeChecks.laidMetH_plain _ _ _ (by kernel_rfl)] at h
  have h2 : laidMet Tryz.prog [("internal/strconv.uint64pow10", Lib.tabData .u64 Lib.pow10Tab)] W := h.tail.tail
  exact Lib.tabIs_of_head (g := 1) (t := 271) (e := 265) (n := 20) (by kernel_rfl) (by kernel_rfl) Tryz.underlying271 Tryz.underlying265 (by kernel_rfl) (by kernel_rfl) h2

set_option maxRecDepth 100000 in
theorem lifted (os : Os) (started : os.Started) (H : Type) (enc : TypeId × Value → H) :
    ReturnsInHanded {} Tryz.checked os 5 .any (fun w args => (Rows.fnExactSerRunSpec.pre enc Tryz.prog Tryz.f5 Rows.fnExactSerRunRow.domain false w args ∧ laidMetH Tryz.prog Rows.fnExactSerRunRow.laid w) ∧ sizedMet enc Tryz.prog Tryz.f5 (OpenSpec.ofChange Rows.fnExactSerRunSpec) false w args) (Rows.fnExactSerRunSpec.post enc Tryz.prog Tryz.f5 false true false false) := by
  refine returnsInHanded_of_change_and (C := Tryz.checked) (X := fun w _ => laidMetH Tryz.prog Rows.fnExactSerRunRow.laid w) (fun _ _ _ hh h => h.of_heap hh) own started (by kernel_rfl) Tryz.func5
    (ChangeSpec.witness_shaped (enc := enc) (C := Tryz.checked) (os := os) (X := fun w _ => laidMetH Tryz.prog Rows.fnExactSerRunRow.laid w) false (World.laidAll Tryz.prog os Rows.fnExactSerRunRow.laid) #[.agg #[.int .i64 0, .slice none 0 0, .slice none 0 0, .slice none 0 0], .slice none 0 0] 8 (World.laidAll_os _ _ _)
      (World.shaped_of_ZipB (by kernel_rfl) (by kernel_rfl)) (by kernel_rfl) (by kernel_rfl) (by kernel_rfl)
      (by rw [MakeChecks.laidMetH_plain _ _ _ (by kernel_rfl)]; exact laidMet_laidAll _ (by kernel_rfl) (by kernel_rfl))) ?_
  intro W base args ds gs before hval0 hW hcnd _ hL _
  have hval : ∀ (j : Nat) t v, Tryz.f5.params[j]? = some t → args[j]? = some v → Value.okWide Tryz.prog W .any base t v := hval0
  have hW' := hW
  obtain ⟨p, q, hA0, hV, rfl, hfz, hnd⟩ := hW
  have hA : DataW.TrodAll enc Tryz.prog W 0 (fun _ => true) true Tryz.f5.params.toList args.toList ds p := hA0
  rw [Tryz.params5] at hA hval
  obtain ⟨v0, vs0, d0, ds0, p0, q0, hargs, rfl, rfl, h0, r0⟩ := trodAll_cons hA
  obtain ⟨v1, vs1, d1, ds1, p1, q1, rfl, rfl, rfl, h1, r1⟩ := trodAll_cons r0
  obtain ⟨rfl, rfl, rfl⟩ := trodAll_nil r1
  obtain rfl : args = #[v0, v1] := by cases args; simp_all
  obtain ⟨rfl, rfl⟩ := trodVars_none hV
  have k0 := h0
  have lt0 : ∀ x ∈ p0, x.block < W.heap.size := by obtain ⟨m, hm⟩ := k0; exact DataW.trod_lt m _ _ _ hm
  obtain ⟨cl0, ad0, N0, pc0, ss0, ga0, gn0, gc0, G0, sa0, sn0, sc0, S0, rfl, wc0, hl0, hM0, hN0, hG0, hg0, hS0, hs0⟩ := open_plan (hval 0 65 v0 rfl rfl) h0
  have k1 := h1
  have lt1 : ∀ x ∈ p1, x.block < W.heap.size := by obtain ⟨m, hm⟩ := k1; exact DataW.trod_lt m _ _ _ hm
  obtain ⟨za1, zn1, zc1, rfl⟩ := okWide_slice Tryz.underlying66 (hval 1 66 v1 rfl rfl)
  obtain ⟨m1, hm1⟩ := h1
  obtain ⟨a1, n1, cap1, fs1, ev1, hl1, hF1, hn1⟩ := open_LgS (by simpa [Value.cells] using hm1)
  simp only [Value.slice.injEq] at ev1
  obtain ⟨rfl, rfl, rfl⟩ := ev1
  clear hA0 hval0
  refine (walk W cl0 ad0 N0 pc0 ss0 ga0 gn0 gc0 G0 sa0 sn0 sc0 S0 hl0 hM0 hN0 hG0 hg0 hS0 hs0 za1 zn1 zc1 fs1 hl1 hF1 hn1 (Lib.tabBelow_of_tabIs (tab_of hL))).mono fun e W' ⟨he, bel⟩ => ?_
  subst he
  exact ⟨_, rfl, _, _, _, [], _, [], hW', trodAll_mk1 (shut_bool Tryz.underlying4 _), (trodAll_cons_mk (Below.trod laidOut (by kernel_rfl) (of_decide_eq_true (by kernel_rfl)) k0 bel lt0) (trodAll_cons_mk (Below.trod laidOut (by kernel_rfl) (of_decide_eq_true (by kernel_rfl)) k1 bel lt1) trodAll_mk0)), rfl, bel.frame _, fun h => by cases h⟩

theorem over : Rows.fnExactSerRunRow.holds Tryz.pinned (OpenSpec.ofChange Rows.fnExactSerRunSpec) :=
  OpenClaim.holds_of_wide 5 Tryz.f5 rfl rfl rfl rfl rfl rfl rfl ⟨rfl, rfl, rfl, rfl, rfl⟩ rfl rfl rfl rfl rfl (by kernel_rfl) Tryz.func5 (by kernel_rfl)
    (of_decide_eq_true (by kernel_rfl)) (by unfold Func.isWrapper; first | (rw [if_pos (by decide +kernel)]; kernel_rfl) | (rw [if_neg (by decide +kernel)]; exact ⟨rfl, rfl⟩))
    (fun os started H enc _ => lifted os started H enc)

end Go.Proofs.YtpmihhbgjimpmaaGreatDoor.fnExactSerRun
namespace Go.Proofs.YtpmihhbgjimpmaaGreatDoor
/-- The statement. -/
theorem fnExactSerRun_holds : Rows.FnExactSerRunCardSaid :=
  Claim7.holds_tied_plain_at .later [] [.data, .data, .data] true Rows.fnExactSerRunCard.stood.harness Rows.fnExactSerRunCard.stood.looks fnExactSerRun.over (fun _ h => by cases h) (by kernel_rfl) (fun _ h => by cases h) fnExactSerRun_row_tie rfl ⟨rfl, rfl⟩ (by kernel_rfl) rfl
    (fun f fn hf hfn => by
      obtain rfl : f = 5 := Option.some.inj ((show Tryz.prog.funcNamed Rows.fnExactSerRunRow.func = some 5 by kernel_rfl).symm.trans hf) |>.symm
      obtain rfl : fn = Tryz.f5 := (Option.some.inj (Tryz.func5.symm.trans hfn)).symm
      exact ⟨by kernel_rfl, fun j t ht => by
        rw [Tryz.params5] at ht
        have hm : t ∈ [65, 66] := by simpa using Array.mem_of_getElem? ht
        have hall : ([65, 66].all fun u => !Tryz.prog.wantsStandIn u) = true := by kernel_rfl
        exact (show Tryz.prog.wantsStandIn t = false by simpa using List.all_eq_true.1 hall t hm)⟩)
    (by kernel_rfl)
#print axioms fnExactSerRun_holds
end Go.Proofs.YtpmihhbgjimpmaaGreatDoor
