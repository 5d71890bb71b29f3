/-
  For every slice of lines and all slices of ints FnExactActRun returns true, and all read behind the call as they did. No condition.
-/
import Derived.Test.YtmbhcngddpoonadRunI
import Derived.Test.YtmbhcngddpoonadMarkL
import Derived.Deep.DeepCutAuto
namespace Go.Proofs.Ytmbhcngddpoonad.fnExactActRun
open Go.ChangeShapes Go.WideShapes Go.ChangeAt Go.RowKit
set_option linter.unusedVariables false

theorem copiesL_same {fs gs hs : List LV} {N : Nat} (hg : gs.length = N) (hh : hs.length = N) (h1 : copiesL fs gs) (h2 : copiesL fs hs) : ∀ i, i < N → sameL (gs[i]?.getD noLV) (hs[i]?.getD noLV) := fun i hi => by
  obtain ⟨a1, a2, a3, a4, a5, a6, _⟩ := h1 i (by omega)
  obtain ⟨b1, b2, b3, b4, b5, b6, _⟩ := h2 i (by omega)
  refine ⟨by rw [a1, b1], by rw [a2, b2], by rw [a3, b3], ?_⟩
  rw [a4, a5, a6, b4, b5, b6]
  exact eqF_refl _ _ _
theorem copiesL_map {α : Type} (P : LV → α) (hP : ∀ f g : LV, f.kind = g.kind → f.pot = g.pot → f.skip = g.skip → f.f.C = g.f.C → f.f.D = g.f.D → f.f.K = g.f.K → f.f.n = g.f.n → f.f.m = g.f.m → P f = P g) {fs gs : List LV} (hl : gs.length = fs.length) (h : copiesL fs gs) : gs.map P = fs.map P := by
  apply List.ext_getElem?
  intro i
  by_cases hi : i < gs.length
  · obtain ⟨a1, a2, a3, a4, a5, a6, a7, a8⟩ := h i hi
    have := hP _ _ a1 a2 a3 a4 a5 a6 a7 a8
    rw [List.getElem?_eq_getElem hi, List.getElem?_eq_getElem (by omega)] at this
    simp only [Option.getD_some] at this
    rw [List.getElem?_map, List.getElem?_map, List.getElem?_eq_getElem hi, List.getElem?_eq_getElem (by omega)]
    simp [this]
  · rw [List.getElem?_eq_none (by simp; omega), List.getElem?_eq_none (by simp; omega)]
theorem copiesL_act {fs gs : List LV} {N : Nat} (hl : gs.length = fs.length) (h : copiesL fs gs) : actB N gs = actB N fs := by
  have h1 := copiesL_map LV.ok (fun f g a1 a2 a3 a4 a5 a6 a7 a8 => by simp only [LV.ok, a1, a2, a3, a4, a5, a6, a7, a8]) hl h
  have h2 := copiesL_map LV.tst (fun f g a1 a2 a3 a4 a5 a6 a7 a8 => by simp only [LV.tst, a1]) hl h
  have e1 : ∀ xs : List LV, xs.all LV.ok = (xs.map LV.ok).all id := fun xs => by simp [List.all_map]
  have e2 : ∀ xs : List LV, tests xs = (xs.map LV.tst).countP id := fun xs => by simp [tests, List.countP_map]
  rw [actB, actB, e1, e1, e2, e2, h1, h2]
/-- A copy runs as the act does. -/
theorem copiesL_go {fs gs : List LV} {U : List Int} (hl : gs.length = fs.length) (h : copiesL fs gs) (f : Nat) : ∀ (i : Nat) (x tl : List Int), goL U gs f i x tl = goL U fs f i x tl := by
  induction f with
  | zero => intro i x tl; rfl
  | succ f ih =>
    intro i x tl
    by_cases hi : i < gs.length
    · obtain ⟨a1, a2, a3, a4, a5, a6, _⟩ := h i hi
      have eF : atF x U (gs[i]?.getD noLV).f = atF x U (fs[i]?.getD noLV).f := by simp only [atF, a4, a5, a6]
      rw [goL, goL, if_pos hi, if_pos (show i < fs.length by omega), a1, a2, a3, eF]
      simp only [ih]
    · rw [goL_end (by omega), goL_end (by omega)]
/-- What is told, and how many pots there are. -/
theorem goL_len {U : List Int} {ls : List LV} (f : Nat) : ∀ (i : Nat) (x tl : List Int), (goL U ls f i x tl).2.2.length ≤ tl.length + f ∧ (goL U ls f i x tl).2.1.length = x.length := by
  induction f with
  | zero => intro i x tl; exact ⟨Nat.le_refl _, rfl⟩
  | succ f ih =>
    intro i x tl
    rw [goL]
    split
    · split
      · have := ih (if atF x U (ls[i]?.getD noLV).f < 0 then i + 1 + (ls[i]?.getD noLV).skip.toNat else i + 1) x tl
        exact ⟨by omega, this.2⟩
      · split
        · have := ih (i + 1) (x.set (ls[i]?.getD noLV).pot.toNat (x[(ls[i]?.getD noLV).pot.toNat]?.getD 0 + atF x U (ls[i]?.getD noLV).f)) tl
          exact ⟨by omega, by rw [this.2, List.length_set]⟩
        · split
          · have := ih (i + 1) x (tl ++ [atF x U (ls[i]?.getD noLV).f])
            rw [List.length_append] at this
            simp only [List.length_cons, List.length_nil] at this
            exact ⟨by omega, this.2⟩
          · exact ⟨by show tl.length ≤ _; omega, rfl⟩
    · exact ⟨by show tl.length ≤ _; omega, rfl⟩
theorem tells_len {N : Nat} {ls : List LV} {p : Nat} {V : List Int} {q : Nat} {U : List Int} : (runTells N ls p V q U).length ≤ 1048576 := by
  have h := (goL_len (U := U) (ls := ls) 7 0 V []).1
  simp only [List.length_nil] at h
  unfold runTells endTells runL
  split
  · split
    · simp
    · split
      · omega
      · simp
  · simp
theorem pots_len {N : Nat} {ls : List LV} {p : Nat} {V : List Int} {q : Nat} {U : List Int} (hV : V.length = p) (hz : p ≤ 1048576) : (runPots N ls p V q U).length ≤ 1048576 := by
  have h := (goL_len (U := U) (ls := ls) 7 0 V []).2
  unfold runPots endPots runL
  split
  · split
    · omega
    · split
      · omega
      · omega
  · simp

/-- What the law holds: old memory, the specification's answer. -/
structure SD (w : World) (V8 : Nat) (l8 : List Value) (oa : Option Addr) (O1 n : Nat) (tl : List Int) (ob : Option Addr) (O2 m : Nat) (pl : List Int) (W : World) : Prop where
  b : Below w.heap.size w W
  v : Cel W V8 l8 51
  o1 : OwnX W oa O1 n tl
  o2 : OwnX W ob O2 m pl
section
variable {w W W' : World} {l8 : List Value} {V8 O1 O2 n m : Nat} {oa ob : Option Addr} {tl pl : List Int}
theorem SD.below (s : SD w V8 l8 oa O1 n tl ob O2 m pl W) (b : Below W.heap.size W W') : SD w V8 l8 oa O1 n tl ob O2 m pl W' := ⟨s.b.trans (b.mono s.b.size), s.v.below b, s.o1.below b, s.o2.below b⟩
theorem SD.touch {S : Nat → Prop} (s : SD w V8 l8 oa O1 n tl ob O2 m pl W) (t : Touch S W W') (hs : ∀ k, S k → w.heap.size ≤ k) (h8 : ¬ S V8) (h1 : 0 < n → ¬ S O1) (h2 : 0 < m → ¬ S O2) : SD w V8 l8 oa O1 n tl ob O2 m pl W' :=
  ⟨s.b.trans (t.below s.b.size hs), s.v.touch t h8, s.o1.touch t h1, s.o2.touch t h2⟩
end
/-- The program's answer. -/
structure SG (G : Nat) (lg : List Value) (ga : Option Addr) (P1 n : Nat) (tl : List Int) (gb : Option Addr) (P2 m : Nat) (pl : List Int) (W : World) : Prop where
  g : Cel W G lg 51
  o1 : OwnX W ga P1 n tl
  o2 : OwnX W gb P2 m pl
section
variable {W W' : World} {lg : List Value} {G P1 P2 n m : Nat} {ga gb : Option Addr} {tl pl : List Int}
theorem SG.below (s : SG G lg ga P1 n tl gb P2 m pl W) (b : Below W.heap.size W W') : SG G lg ga P1 n tl gb P2 m pl W' := ⟨s.g.below b, s.o1.below b, s.o2.below b⟩
theorem SG.touch {S : Nat → Prop} (s : SG G lg ga P1 n tl gb P2 m pl W) (t : Touch S W W') (h8 : ¬ S G) (h1 : 0 < n → ¬ S P1) (h2 : 0 < m → ¬ S P2) : SG G lg ga P1 n tl gb P2 m pl W' :=
  ⟨s.g.touch t h8, s.o1.touch t h1, s.o2.touch t h2⟩
end

set_option maxRecDepth 100000 in
set_option maxHeartbeats 12800000 in
theorem walk (w : World) (ad : Option Addr) (N cap : Nat) (ls : List LV) (hl : ls.length = N) (hM : LinesM w ad ls) (hN1 : N ≤ maxLen)
    (v : Option Addr) (p cv : Nat) (V : List Int) (hV : Ints w v p V) (hp1 : p ≤ maxLen) (u : Option Addr) (q cu : Nat) (U : List Int) (hU : Ints w u q U) (hq1 : q ≤ maxLen) :
    Calls Try.prog 6 #[.slice ad N cap, .slice v p cv, .slice u q cu] w fun e w' => e = .returned (.bool true) ∧ Below w.heap.size w w' := by
  have HN : Hid (ls.length = N) := hl
  have HV : Hid (V.length = p) := hV.1
  have HU : Hid (U.length = q) := hU.1
  clear hl
  unfold maxLen at hp1 hq1
  by_cases hp0 : 1048576 < p
  · go_enter Try.func6, Try.ntmps6
    go_wp2
    go_ret
    exact ⟨rfl, Below.refl _ _⟩
  have hp : p ≤ 1048576 := by omega
  by_cases hq0 : 1048576 < q
  · go_enter Try.func6, Try.ntmps6
    go_wp2
    go_ret
    exact ⟨rfl, Below.refl _ _⟩
  have hq : q ≤ 1048576 := by omega
  clear hp0 hq0 hp1 hq1
  go_enter Try.func6, Try.ntmps6
  go_wp2_with fail
  refine (szLS_any _ _ _ ls _ _ HN.out hM hN1 (by omega) (by omega)).mono ?_
  rintro e w1 ⟨r, rfl, p1, q1, s1, n1⟩
  by_cases hr : r < 0
  · go_wp2
    go_ret
    exact ⟨rfl, n1⟩
  have hr' : 0 ≤ r := by omega
  obtain ⟨hN, hsz⟩ := s1 hr'
  have hF := hM.g hsz
  clear hM s1 hsz hr p1 q1 hN1
  obtain ⟨code, hcode⟩ : ∃ x, x = runCode N ls p V q U := ⟨_, rfl⟩
  obtain ⟨tl, htl⟩ : ∃ x, x = runTells N ls p V q U := ⟨_, rfl⟩
  obtain ⟨pl, hpl⟩ : ∃ x, x = runPots N ls p V q U := ⟨_, rfl⟩
  have lt1 : tl.length ≤ 1048576 := by rw [htl]; exact tells_len
  have lp1 : pl.length ≤ 1048576 := by rw [hpl]; exact pots_len HV.out hp
  have same : ∀ gs, gs.length = N → copiesL ls gs → runCode N gs p V q U = code ∧ runTells N gs p V q U = tl ∧ runPots N gs p V q U = pl := fun gs h1 h2 => by
    have e1 := copiesL_act (N := N) (by rw [h1, HN.out]) h2
    have e2 : runL U gs V = runL U ls V := copiesL_go (by rw [h1, HN.out]) h2 _ _ _ _
    rw [hcode, htl, hpl]
    simp only [runCode, runTells, runPots, runB, e1, e2]
    exact ⟨rfl, rfl, rfl⟩
  have hs : ∀ (W : World) (ad : Option Addr) (cap : Nat) (gs : List LV) (v : Option Addr) (cv : Nat) (u : Option Addr) (cu : Nat), gs.length = N → LinesG W ad gs → Ints W v p V → Ints W u q U → copiesL ls gs → Calls Try.prog 29 #[.slice ad N cap, .slice v p cv, .slice u q cu] W fun e w' => ResD W w' e code tl pl := by
    intro W ad cap gs v cv u cu h0 h1 h2 h3 k1
    obtain ⟨e1, e2, e3⟩ := same gs h0 k1
    rw [← e1, ← e2, ← e3]
    exact srun_any ad N cap gs v p cv V u q cu U W h0 h1 hN h2 h3 hp hq
  have hi : ∀ (W : World) (ad : Option Addr) (cap : Nat) (gs : List LV) (v : Option Addr) (cv : Nat) (u : Option Addr) (cu : Nat), gs.length = N → LinesG W ad gs → Ints W v p V → Ints W u q U → copiesL ls gs → Calls Try.prog 30 #[.slice ad N cap, .slice v p cv, .slice u q cu] W fun e w' => ResD W w' e code tl pl := by
    intro W ad cap gs v cv u cu h0 h1 h2 h3 k1
    obtain ⟨e1, e2, e3⟩ := same gs h0 k1
    rw [← e1, ← e2, ← e3]
    exact irun_any ad N cap gs v p cv V u q cu U W h0 h1 hN h2 h3 hp hq
  have HS : Hid _ := hs
  have HI : Hid _ := hi
  clear same hcode htl hpl hs hi
  go_wp2_with fail
  refine (toLS_any _ _ _ ls _ HN.out (hF.below n1) hN).mono ?_
  rintro e w2 ⟨gs, pp, qq, rfl, hg, hc, b2, m2⟩
  have n2 := n1.trans (b2.mono n1.size)
  clear b2 n1
  go_wp2_with fail
  refine (to_any _ _ _ V _ (hV.below n2) hp).mono ?_
  rintro e w2a ⟨rfl, b2a, ka⟩
  have n2a := n2.trans (b2a.mono n2.size)
  have m2a := m2.below b2a
  clear b2a n2 m2
  go_wp2_with fail
  refine (to_any _ _ _ U _ (hU.below n2a) hq).mono ?_
  rintro e w2b ⟨rfl, b2b, kb⟩
  have n2b := n2a.trans (b2b.mono n2a.size)
  have m2b := m2a.below b2b
  have ka2 := ka.below b2b
  clear b2b n2a m2a ka
  go_wp2_with fail
  refine (HS.out _ _ _ gs _ _ _ _ hg m2b.g (ka2.ints' HV.out) (kb.ints' HU.out) hc).mono ?_
  rintro e w3 ⟨oa, n, ocap, O1, ob, m, ocap', O2, rfl, L1, L2, b3, o1, o2, -, -, -⟩
  have hn : n ≤ 1048576 := by rw [← L1]; exact lt1
  have hm : m ≤ 1048576 := by rw [← L2]; exact lp1
  have HTN : Hid (tl.length = n) := L1
  have HPM : Hid (pl.length = m) := L2
  have n3 := n2b.trans (b3.mono n2b.size)
  clear b3 n2b m2b hg hc ka2 kb L1 L2
  clear gs pp qq
  have S3 : SD w w3.heap.size [.int .i64 code, .slice oa n ocap] oa O1 n tl ob O2 m pl (w3.alloc (.cells #[.int .i64 code, .slice oa n ocap] 51)) := ⟨n3.alloc n3.size _, Cel.new w3 _ _, o1.alloc _, o2.alloc _⟩
  have lo1 : 0 < n → O1 < w3.heap.size := fun h => o1.lt h
  have lo2 : 0 < m → O2 < w3.heap.size := fun h => o2.lt h
  have zw3 : w.heap.size ≤ w3.heap.size := n3.size
  clear n3 o1 o2
  go_wp2_with fail
  refine (toLS_any _ _ _ ls _ HN.out (hF.below S3.b) hN).mono ?_
  rintro e w4 ⟨gs, pp, qq, rfl, hg, hc, b4, m4⟩
  rw [World.size_alloc] at m4
  have S4 := S3.below b4
  have HG : Hid (gs.length = N) := hg
  have HC : Hid (copiesL ls gs) := hc
  have z4 := b4.size
  rw [World.size_alloc] at z4
  have l44 := m4.lt
  have HQ : Hid (∀ i, i < N → qq i < w4.heap.size) := fun i hi => by
    obtain ⟨_, _, _, _, _, _, _, _, _, _, a12, _⟩ := m4.l i (by rw [HG.out]; exact hi)
    exact a12
  clear b4 S3 hg hc
  go_wp2_with fail
  refine (to_any _ _ _ V _ (hV.below S4.b) hp).mono ?_
  rintro e w5 ⟨rfl, b5, ka⟩
  have S5 := S4.below b5
  have m5 := m4.below b5
  clear b5 S4 m4
  go_wp2_with fail
  refine (to_any _ _ _ U _ (hU.below S5.b) hq).mono ?_
  rintro e w6 ⟨rfl, b6, kb⟩
  have S6 := S5.below b6
  have m6 := m5.below b6
  have ka6 := ka.below b6
  have lka := ka.lt
  have lkb := kb.lt
  clear b6 S5 m5 ka
  go_wp2_with fail
  refine (HI.out _ _ _ gs _ _ _ _ HG.out m6.g (ka6.ints' HV.out) (kb.ints' HU.out) HC.out).mono ?_
  rintro e w7 ⟨ga, n', gcap, P1, gb, m', gcap', P2, rfl, L1, L2, b7, o1, o2, y1, y2, y3⟩
  obtain rfl : n' = n := by rw [← L1, HTN.out]
  obtain rfl : m' = m := by rw [← L2, HPM.out]
  have S7p := S6.below b7
  obtain ⟨d0', d1', -, -⟩ := S7p.v.pair
  have z37 : w3.heap.size < w7.heap.size := S7p.v.lt
  have A7 : Below w7.heap.size w7 (w7.alloc (.cells #[.int .i64 code, .slice ga n' gcap] 51)) := (Below.refl _ _).alloc (Nat.le_refl _) _
  have S7 := S7p.below A7
  have m7 := (m6.below b7).below A7
  have ka7 := (ka6.below b7).below A7
  have kb7 := (kb.below b7).below A7
  have G7 : SG w7.heap.size [.int .i64 code, .slice ga n' gcap] ga P1 n' tl gb P2 m' pl (w7.alloc (.cells #[.int .i64 code, .slice ga n' gcap] 51)) := ⟨Cel.new w7 _ _, o1.alloc _, o2.alloc _⟩
  have q1' : 0 < n' → P1 < w7.heap.size := fun h => o1.lt h
  have q2' : 0 < m' → P2 < w7.heap.size := fun h => o2.lt h
  have z7 := b7.size
  clear S6 S7p m6 ka6 kb b7 o1 o2 L1 L2 A7
  have hcc : (code != code) = false := by simp
  have heT := eqB_refl tl
  have heP := eqB_refl pl
  have heV := eqB_refl V
  have heU := eqB_refl U
  go_wp2_with fail
  refine (eqRes_same _ _ _ _ _ _ tl _ G7.o1.ints S7.o1.ints hn).mono ?_
  rintro e w8 ⟨rfl, b8⟩
  have z8 := b8.size
  rw [World.size_alloc] at z8
  have S8 := S7.below b8
  have G8 := G7.below b8
  have m8 := m7.below b8
  have ka8 := ka7.below b8
  have kb8 := kb7.below b8
  clear S7 G7 m7 ka7 kb7 b8 d0' d1'
  go_wp2_with fail
  refine (eq_any _ _ _ _ _ _ pl pl _ G8.o2.ints S8.o2.ints hm hm).mono ?_
  rintro e w9 ⟨rfl, b9⟩
  have z9 := b9.size
  have S9 := S8.below b9
  have G9 := G8.below b9
  have m9 := m8.below b9
  have ka9 := ka8.below b9
  have kb9 := kb8.below b9
  clear S8 G8 m8 ka8 kb8 b9
  go_wp2_with fail
  refine (toLS_any _ _ _ ls _ HN.out (hF.below S9.b) hN).mono ?_
  rintro e wa ⟨gs2, pa, qa, rfl, hg2, hc2, ba, ma⟩
  have za := ba.size
  have Sa := S9.below ba
  have Ga := G9.below ba
  have mb := m9.below ba
  have kaa := ka9.below ba
  have kba := kb9.below ba
  clear S9 G9 m9 ka9 kb9 ba
  go_wp2_with fail
  refine (eqLS_same _ _ _ _ _ gs gs2 _ HG.out hg2 mb.g ma.g hN (copiesL_same HG.out hg2 HC.out hc2)).mono ?_
  rintro e wd ⟨rfl, bd⟩
  have zd := bd.size
  have Sd := Sa.below bd
  have Gd := Ga.below bd
  have md := mb.below bd
  have kad := kaa.below bd
  have kbd := kba.below bd
  clear Sa Ga mb kaa kba bd ma hg2 hc2
  clear gs2 pa qa
  go_wp2_with fail
  refine (to_any _ _ _ V _ (hV.below Sd.b) hp).mono ?_
  rintro e y1w ⟨rfl, by1, l1⟩
  have zy1 := by1.size
  have Sy1 := Sd.below by1
  have Gy1 := Gd.below by1
  have my1 := md.below by1
  have kay1 := kad.below by1
  have kby1 := kbd.below by1
  clear Sd Gd md kad kbd by1
  go_wp2_with fail
  refine (eq_any _ _ _ _ _ _ V V _ (kay1.ints' HV.out) (l1.ints' HV.out) hp hp).mono ?_
  rintro e y2w ⟨rfl, by2⟩
  have zy2 := by2.size
  have Sy2 := Sy1.below by2
  have Gy2 := Gy1.below by2
  have my2 := my1.below by2
  have kay2 := kay1.below by2
  have kby2 := kby1.below by2
  clear Sy1 Gy1 my1 kay1 kby1 by2 l1
  go_wp2_with fail
  refine (to_any _ _ _ U _ (hU.below Sy2.b) hq).mono ?_
  rintro e y3w ⟨rfl, by3, l3⟩
  have zy3 := by3.size
  have Sy3 := Sy2.below by3
  have Gy3 := Gy2.below by3
  have my3 := my2.below by3
  have kay3 := kay2.below by3
  have kby3 := kby2.below by3
  clear Sy2 Gy2 my2 kay2 kby2 by3
  go_wp2_with fail
  refine (eq_any _ _ _ _ _ _ U U _ (kby3.ints' HU.out) (l3.ints' HU.out) hq hq).mono ?_
  rintro e y4w ⟨rfl, by4⟩
  have zy4 := by4.size
  have Sy4 := Sy3.below by4
  have Gy4 := Gy3.below by4
  have my4 := my3.below by4
  have kay4 := kay3.below by4
  have kby4 := kby3.below by4
  clear Sy3 Gy3 my3 kay3 kby3 by4 l3
  have PP : (0 < n' → w4.heap.size + 1 ≤ P1) ∧ (0 < m' → w4.heap.size + 1 ≤ P2) := ⟨fun h => by have := y1 h; omega, fun h => by have := y2 h; omega⟩
  go_wp2_with fail
  refine (markLS_any _ _ _ _ w4.heap.size gs pp qq _ _ my4 HG.out hN (by omega) (by omega) l44 HQ.out).mono ?_
  rintro e y5w ⟨r1, rfl, r10, r11, t5⟩
  have zy5 := t5.size
  have Sy5 := Sy4.touch t5 (fun k h => by omega) (fun h => by omega) (fun h0 h => by have := lo1 h0; omega) (fun h0 h => by have := lo2 h0; omega)
  have Gy5 := Gy4.touch t5 (fun h => by omega) (fun h0 h => by have := PP.1 h0; omega) (fun h0 h => by have := PP.2 h0; omega)
  have kay5 : OwnAt y5w (some ⟨w4.heap.size, 0, none⟩) w4.heap.size V := OwnAt.touch (.inr ⟨rfl, kay4⟩) t5 (fun h => by omega)
  have kby5 : OwnAt y5w (some ⟨w5.heap.size, 0, none⟩) w5.heap.size U := OwnAt.touch (.inr ⟨rfl, kby4⟩) t5 (fun h => by omega)
  clear Sy4 Gy4 my4 kay4 kby4 t5
  go_wp2_with fail
  refine (mark_any _ _ _ w4.heap.size V _ _ kay5 HV.out hp r10 (by omega)).mono ?_
  rintro e y6w ⟨rfl, t6, -⟩
  have zy6 := t6.size
  have Sy6 := Sy5.touch t6 (fun k h => by omega) (fun h => by omega) (fun h0 h => by have := lo1 h0; omega) (fun h0 h => by have := lo2 h0; omega)
  have Gy6 := Gy5.touch t6 (fun h => by omega) (fun h0 h => by have := PP.1 h0; omega) (fun h0 h => by have := PP.2 h0; omega)
  have kby6 : OwnAt y6w (some ⟨w5.heap.size, 0, none⟩) w5.heap.size U := kby5.touch t6 (fun h => by omega)
  clear Sy5 Gy5 kay5 kby5 t6
  go_wp2_with fail
  refine (mark_any _ _ _ w5.heap.size U _ _ kby6 HU.out hq (by omega) (by omega)).mono ?_
  rintro e y7w ⟨rfl, t7, -⟩
  have zy7 := t7.size
  have Sy7 := Sy6.touch t7 (fun k h => by omega) (fun h => by omega) (fun h0 h => by have := lo1 h0; omega) (fun h0 h => by have := lo2 h0; omega)
  have Gy7 := Gy6.touch t7 (fun h => by omega) (fun h0 h => by have := y1 h0; omega) (fun h0 h => by have := y2 h0; omega)
  have yA' : decide (r1 + (p : Int) + (q : Int) < 0) = false := by simp; omega
  have yA : 0 ≤ r1 + (p : Int) + (q : Int) := by omega
  clear Sy6 Gy6 kby6 t7
  obtain ⟨d0, d1, -, -⟩ := Sy7.v.pair
  obtain ⟨f0, f1, -, -⟩ := Gy7.g.pair
  go_wp2_with fail
  refine (eqRes_same _ _ _ _ _ _ tl _ Gy7.o1.ints Sy7.o1.ints hn).mono ?_
  rintro e u1 ⟨rfl, bu1⟩
  have zu1 := bu1.size
  have Su1 := Sy7.below bu1
  have Gu1 := Gy7.below bu1
  clear Sy7 Gy7 bu1 d0 d1 f0 f1
  go_wp2_with fail
  refine (eq_any _ _ _ _ _ _ pl pl _ Gu1.o2.ints Su1.o2.ints hm hm).mono ?_
  rintro e u2 ⟨rfl, bu2⟩
  have zu2 := bu2.size
  have Su2 := Su1.below bu2
  have Gu2 := Gu1.below bu2
  clear Su1 Gu1 bu2
  obtain ⟨f0, f1, -, -⟩ := Gu2.g.pair
  go_wp2_with fail
  refine (markRes_any _ _ _ _ P1 tl _ _ Gu2.o1 hn (by omega) (by omega)).mono ?_
  rintro e u3 ⟨rfl, t3, o3⟩
  have zu3 := t3.size
  have Su3 := Su2.touch t3 (fun k h => by have := PP.1 h.2; omega) (fun h => by have := PP.1 h.2; omega) (fun h0 h => by have := PP.1 h.2; have := lo1 h0; omega) (fun h0 h => by have := PP.1 h.2; have := lo2 h0; omega)
  have g3 := Gu2.g.touch t3 (fun h => by have := q1' h.2; omega)
  have o3b := Gu2.o2.touch t3 (fun h0 h => y3 h.2 h0 h.1.symm)
  clear Su2 Gu2 t3 f0 f1
  go_wp2_with fail
  refine (markX_any _ _ _ P2 pl _ _ o3b hm (by omega) (by omega)).mono ?_
  rintro e u4 ⟨rfl, t4, o4⟩
  have zu4 := t4.size
  have Su4 := Su3.touch t4 (fun k h => by have := PP.2 h.2; omega) (fun h => by have := PP.2 h.2; omega) (fun h0 h => by have := PP.2 h.2; have := lo1 h0; omega) (fun h0 h => by have := PP.2 h.2; have := lo2 h0; omega)
  have g4 := g3.touch t4 (fun h => by have := q2' h.2; omega)
  have o34 := o3.touch t4 (fun h0 h => y3 h0 h.2 h.1)
  have i1 := o34.ints
  have i2 := o4.ints
  clear Su3 g3 o3 o3b t4 o34 o4
  obtain ⟨f0, f1, -, -⟩ := g4.pair
  have w1' : 0 ≤ (1 : Int) + n' := by omega
  have w2' : 0 ≤ (1 : Int) + n' + m' := by omega
  have w3' : ((1 : Int) + n' + m' != 1 + n' + m') = false := by simp
  go_wp2_with fail
  refine (heldRes_any _ _ _ _ _ _ i1 hn (by omega) (by omega)).mono ?_
  rintro e u5 ⟨rfl, bu5⟩
  have Su5 := Su4.below bu5
  have g5 := g4.below bu5
  have i15 := i1.below bu5
  have i25 := i2.below bu5
  clear Su4 g4 i1 i2 bu5 f0 f1
  go_wp2_with fail
  refine (held_any _ _ _ _ _ i25 hm w1' (by omega)).mono ?_
  rintro e u6 ⟨rfl, hu6⟩
  rw [hu6]
  clear hu6
  go_wp2_with fail
  refine (toLS_any _ _ _ ls _ HN.out (hF.below Su5.b) hN).mono ?_
  rintro e u7 ⟨gs2, pa, qa, rfl, hg2, hc2, bu7, mz⟩
  have Su7 := Su5.below bu7
  have g7 := g5.below bu7
  have i17 := i15.below bu7
  have i27 := i25.below bu7
  clear Su5 g5 i15 i25 bu7
  go_wp2_with fail
  refine (to_any _ _ _ V _ (hV.below Su7.b) hp).mono ?_
  rintro e u8 ⟨rfl, bu8, la⟩
  have Su8 := Su7.below bu8
  have g8 := g7.below bu8
  have i18 := i17.below bu8
  have i28 := i27.below bu8
  have mz8 := mz.below bu8
  clear Su7 g7 i17 i27 bu8 mz
  go_wp2_with fail
  refine (to_any _ _ _ U _ (hU.below Su8.b) hq).mono ?_
  rintro e u9 ⟨rfl, bu9, lb⟩
  have Su9 := Su8.below bu9
  have g9 := g8.below bu9
  have i19 := i18.below bu9
  have i29 := i28.below bu9
  have mz9 := mz8.below bu9
  have la9 := la.below bu9
  clear Su8 g8 i18 i28 bu9 mz8 la
  go_wp2_with fail
  refine (HI.out _ _ _ gs2 _ _ _ _ hg2 mz9.g (la9.ints' HV.out) (lb.ints' HU.out) hc2).mono ?_
  rintro e v1 ⟨ha, hn2, hcap, Q1, hb, hm2, hcap', Q2, rfl, L1, L2, bv1, j1, j2, -, -, -⟩
  obtain rfl : hn2 = n' := by rw [← L1, HTN.out]
  obtain rfl : hm2 = m' := by rw [← L2, HPM.out]
  have Sv := Su9.below bv1
  have gv := g9.below bv1
  have i1v := i19.below bv1
  have i2v := i29.below bv1
  clear Su9 g9 i19 i29 bv1 mz9 la9 lb L1 L2 hg2 hc2
  obtain ⟨d0, d1, -, -⟩ := Sv.v.pair
  have z3v := Sv.v.lt
  have zgv := gv.lt
  have Av : Below v1.heap.size v1 (v1.alloc (.cells #[.int .i64 code, .slice ha hn2 hcap] 51)) := (Below.refl _ _).alloc (Nat.le_refl _) _
  go_wp2_with fail
  refine (eqRes_same _ _ _ _ _ _ tl _ (j1.alloc _).ints (Sv.o1.alloc _).ints hn).mono ?_
  rintro e v2 ⟨rfl, bv2⟩
  have Sv2 := (Sv.below Av).below bv2
  have gv2 := (gv.below Av).below bv2
  have i1v2 := (i1v.below Av).below bv2
  have i2v2 := (i2v.below Av).below bv2
  have j22 := (j2.below Av).below bv2
  clear Sv gv i1v i2v Av bv2 j1 j2 d0 d1
  go_wp2_with fail
  refine (eq_any _ _ _ _ _ _ pl pl _ j22.ints Sv2.o2.ints hm hm).mono ?_
  rintro e v3 ⟨rfl, bv3⟩
  have Sv3 := Sv2.below bv3
  have gv3 := gv2.below bv3
  have i1v3 := i1v2.below bv3
  have i2v3 := i2v2.below bv3
  clear Sv2 gv2 i1v2 i2v2 bv3 j22
  obtain ⟨f0, f1, -, -⟩ := gv3.pair
  go_wp2_with fail
  refine (heldRes_any _ _ _ _ _ _ i1v3 hn (by omega) (by omega)).mono ?_
  rintro e v4 ⟨rfl, bv4⟩
  have Sv4 := Sv3.below bv4
  have i2v4 := i2v3.below bv4
  clear Sv3 gv3 i1v3 i2v3 bv4 f0 f1
  go_wp2_with fail
  refine (held_any _ _ _ _ _ i2v4 hm w1' (by omega)).mono ?_
  rintro e v5 ⟨rfl, hv5⟩
  rw [hv5]
  go_wp2
  go_ret
  exact ⟨rfl, Sv4.b⟩

/-! ### The row's step -/
set_option maxRecDepth 100000 in
theorem lifted (os : Os) (started : os.Started) (H : Type) (enc : TypeId × Value → H) :
    ReturnsInHanded {} Try.checked os 6 .any (Rows.fnExactActRunSpec.pre6 enc Try.prog Try.f6 Rows.fnExactActRunRow.domain false) (Rows.fnExactActRunSpec.post enc Try.prog Try.f6 false true false false) := by
  refine returnsInHanded_of_change (C := Try.checked) own started (by kernel_rfl) Try.func6
    (ChangeSpec.witness6 (enc := enc) (C := Try.checked) false ⟨#[], #[.slice none 0 0, .slice none 0 0, .slice none 0 0], []⟩ 8 (by kernel_rfl) (by kernel_rfl) (by kernel_rfl) (by kernel_rfl)) ?_
  intro W base args ds gs before hval0 hW hcnd _
  have hval : ∀ (j : Nat) t v, Try.f6.params[j]? = some t → args[j]? = some v → Value.okWide Try.prog W .any base t v := hval0
  have hW' := hW
  obtain ⟨p, q, hA0, hV, rfl, hfz, hnd⟩ := hW
  have hA : DataW.TrodAll enc Try.prog W 0 (fun _ => true) true Try.f6.params.toList args.toList ds p := hA0
  rw [Try.params6] at hA hval
  obtain ⟨v0, vs0, d0, ds0, p0, q0, hargs, rfl, rfl, h0, r0⟩ := trodAll_cons hA
  obtain ⟨v1, vs1, d1, ds1, p1, q1, rfl, rfl, rfl, h1, r1⟩ := trodAll_cons r0
  obtain ⟨v2, vs2, d2, ds2, p2, q2, rfl, rfl, rfl, h2, r2⟩ := trodAll_cons r1
  obtain ⟨rfl, rfl, rfl⟩ := trodAll_nil r2
  obtain rfl : args = #[v0, v1, v2] := by cases args; simp_all
  obtain ⟨rfl, rfl⟩ := trodVars_none hV
  have k0 := h0
  have lt0 : ∀ x ∈ p0, x.block < W.heap.size := by obtain ⟨m, hm⟩ := k0; exact DataW.trod_lt m _ _ _ hm
  obtain ⟨a0, n0, cap0, ls0, rfl, hl0, hF0, hn0⟩ := open_lines (hval 0 43 v0 rfl rfl) h0
  have k1 := h1
  have lt1 : ∀ x ∈ p1, x.block < W.heap.size := by obtain ⟨m, hm⟩ := k1; exact DataW.trod_lt m _ _ _ hm
  obtain ⟨a1, n1, cap1, C1, rfl, hC1, hn1⟩ := open_rowT (hval 1 22 v1 rfl rfl) h1
  have k2 := h2
  have lt2 : ∀ x ∈ p2, x.block < W.heap.size := by obtain ⟨m, hm⟩ := k2; exact DataW.trod_lt m _ _ _ hm
  obtain ⟨a2, n2, cap2, C2, rfl, hC2, hn2⟩ := open_rowT (hval 2 22 v2 rfl rfl) h2
  clear hA0 hval0
  refine (walk W a0 n0 cap0 ls0 hl0 hF0 hn0 a1 n1 cap1 C1 hC1 hn1 a2 n2 cap2 C2 hC2 hn2).mono fun e W' ⟨he, bel⟩ => ?_
  subst he
  exact ⟨_, rfl, _, _, _, [], _, [], hW', trodAll_mk1 (shut_bool Try.underlying4 _), (trodAll_cons_mk (Below.trod laidOut (by kernel_rfl) (of_decide_eq_true (by kernel_rfl)) k0 bel lt0) (trodAll_cons_mk (Below.trod laidOut (by kernel_rfl) (of_decide_eq_true (by kernel_rfl)) k1 bel lt1) (trodAll_cons_mk (Below.trod laidOut (by kernel_rfl) (of_decide_eq_true (by kernel_rfl)) k2 bel lt2) trodAll_mk0))), rfl, bel.frame _, fun h => by cases h⟩

theorem over : Rows.fnExactActRunRow.holds Try.pinned (OpenSpec.ofChange Rows.fnExactActRunSpec) :=
  OpenClaim.holds_of_wide 6 Try.f6 rfl rfl rfl rfl rfl rfl rfl ⟨rfl, rfl, rfl, rfl, rfl⟩ rfl rfl rfl rfl rfl (by kernel_rfl) Try.func6 (by kernel_rfl)
    (of_decide_eq_true (by kernel_rfl)) (by unfold Func.isWrapper; first | (rw [if_pos (by decide +kernel)]; kernel_rfl) | (rw [if_neg (by decide +kernel)]; exact ⟨rfl, rfl⟩))
    (fun os started H enc _ => lifted os started H enc)

end Go.Proofs.Ytmbhcngddpoonad.fnExactActRun
namespace Go.Proofs.Ytmbhcngddpoonad
/-- The statement. -/
theorem fnExactActRun_holds : Rows.FnExactActRunSaid := fnExactActRun.over
#print axioms fnExactActRun_holds
end Go.Proofs.Ytmbhcngddpoonad
