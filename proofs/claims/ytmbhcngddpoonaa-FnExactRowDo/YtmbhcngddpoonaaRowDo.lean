/-
  For every row and all slices of ints FnExactRowDo returns true, and all read behind the call as they did. No condition.
-/
import Derived.Test.YtmbhcngddpoonaaResL
import Derived.Deep.DeepCutAuto
namespace Go.Proofs.Ytmbhcngddpoonaa.fnExactRowDo
open Go.ChangeShapes Go.WideShapes Go.ChangeAt Go.RowKit
set_option linter.unusedVariables false

theorem copies_at {fs gs : List FV} {V U : List Int} (hl : gs.length = fs.length) (h : copies fs gs) : gs.map (atF V U) = fs.map (atF V U) := by
  apply List.ext_getElem?
  intro i
  by_cases hi : i < gs.length
  · obtain ⟨e1, e2, e3, _⟩ := h i hi
    have : atF V U (gs[i]?.getD noFV) = atF V U (fs[i]?.getD noFV) := by simp only [atF, e1, e2, e3]
    rw [List.getElem?_eq_getElem hi, List.getElem?_eq_getElem (by omega)] at this
    simp only [Option.getD_some] at this
    rw [List.getElem?_map, List.getElem?_map, List.getElem?_eq_getElem hi, List.getElem?_eq_getElem (by omega)]
    simp [this]
  · rw [List.getElem?_eq_none (by simp; omega), List.getElem?_eq_none (by simp; omega)]
theorem tells_len {gs ls ts : List FV} {A T : Nat} {st : Bool} {p q : Nat} {V U : List Int} (hT : ts.length = T) (hz : T ≤ 1048576) : (doTells gs ls ts A T st p q V U).length ≤ 1048576 := by
  unfold doTells endTells
  split
  · split
    · simp
    · split
      · rw [List.length_map, hT]; exact hz
      · simp
  · simp
theorem pots_len {gs ls ts : List FV} {A T : Nat} {st : Bool} {p q : Nat} {V U : List Int} (hV : V.length = p) (hz : p ≤ 1048576) : (doPots gs ls ts A T st p q V U).length ≤ 1048576 := by
  unfold doPots endPots doX
  split
  · split
    · omega
    · split
      · rw [List.length_zipWith]; omega
      · omega
  · simp

/-- What the law holds: its box, the specification's answer, the program's answer. -/
structure SD (w : World) (la : List Value) (V8 : Nat) (l8 : List Value) (oa : Option Addr) (O1 n : Nat) (tl : List Int) (ob : Option Addr) (O2 m : Nat) (pl : List Int) (W : World) : Prop where
  bx : BX w w.heap.size la 54 W
  v : Cel W V8 l8 57
  o1 : OwnX W oa O1 n tl
  o2 : OwnX W ob O2 m pl
section
variable {w W W' : World} {la l8 : List Value} {V8 O1 O2 n m : Nat} {oa ob : Option Addr} {tl pl : List Int}
theorem SD.below (s : SD w la V8 l8 oa O1 n tl ob O2 m pl W) (b : Below W.heap.size W W') : SD w la V8 l8 oa O1 n tl ob O2 m pl W' := ⟨s.bx.below b, s.v.below b, s.o1.below b, s.o2.below b⟩
theorem SD.alloc (s : SD w la V8 l8 oa O1 n tl ob O2 m pl W) (o : Obj) : SD w la V8 l8 oa O1 n tl ob O2 m pl (W.alloc o) := s.below ((Below.refl _ _).alloc (Nat.le_refl _) _)
theorem SD.touch {S : Nat → Prop} (s : SD w la V8 l8 oa O1 n tl ob O2 m pl W) (t : Touch S W W') (hs : ∀ k, S k → w.heap.size < k) (h8 : ¬ S V8) (h1 : 0 < n → ¬ S O1) (h2 : 0 < m → ¬ S O2) : SD w la V8 l8 oa O1 n tl ob O2 m pl W' :=
  ⟨s.bx.touch t (fun k hk => by have := hs k hk; omega) (fun hk => by have := hs _ hk; omega), s.v.touch t h8, s.o1.touch t h1, s.o2.touch t h2⟩
end
/-- The program's answer. -/
structure SG (G : Nat) (lg : List Value) (ga : Option Addr) (P1 n : Nat) (tl : List Int) (gb : Option Addr) (P2 m : Nat) (pl : List Int) (W : World) : Prop where
  g : Cel W G lg 57
  o1 : OwnX W ga P1 n tl
  o2 : OwnX W gb P2 m pl
section
variable {W W' : World} {lg : List Value} {G P1 P2 n m : Nat} {ga gb : Option Addr} {tl pl : List Int}
theorem SG.below (s : SG G lg ga P1 n tl gb P2 m pl W) (b : Below W.heap.size W W') : SG G lg ga P1 n tl gb P2 m pl W' := ⟨s.g.below b, s.o1.below b, s.o2.below b⟩
theorem SG.touch {S : Nat → Prop} (s : SG G lg ga P1 n tl gb P2 m pl W) (t : Touch S W W') (h8 : ¬ S G) (h1 : 0 < n → ¬ S P1) (h2 : 0 < m → ¬ S P2) : SG G lg ga P1 n tl gb P2 m pl W' :=
  ⟨s.g.touch t h8, s.o1.touch t h1, s.o2.touch t h2⟩
end

set_option maxRecDepth 100000 in
set_option maxHeartbeats 12800000 in
theorem walk (w : World) (g : Option Addr) (G cg : Nat) (gs : List FV) (a : Option Addr) (A ca : Nat) (ls : List FV) (t : Option Addr) (T ct : Nat) (ts : List FV) (st : Bool)
    (hg : gs.length = G) (hG : FormsM w g gs) (hG1 : G ≤ maxLen) (ha : ls.length = A) (hA : FormsM w a ls) (hA1 : A ≤ maxLen) (ht : ts.length = T) (hT : FormsM w t ts) (hT1 : T ≤ maxLen)
    (v : Option Addr) (p cv : Nat) (V : List Int) (hV : Ints w v p V) (hp1 : p ≤ maxLen) (u : Option Addr) (q cu : Nat) (U : List Int) (hU : Ints w u q U) (hq1 : q ≤ maxLen) :
    Calls Try.prog 8 #[rowV g G cg a A ca t T ct st, .slice v p cv, .slice u q cu] w fun e w' => e = .returned (.bool true) ∧ Below w.heap.size w w' := by
  have n0 := BX.new w [.slice g G cg, .slice a A ca, .slice t T ct, .bool st] 54
  have HG : Hid (gs.length = G) := hg
  have HA : Hid (ls.length = A) := ha
  have HT : Hid (ts.length = T) := ht
  have HV : Hid (V.length = p) := hV.1
  have HU : Hid (U.length = q) := hU.1
  clear hg ha ht
  unfold maxLen at hp1 hq1
  by_cases hp0 : 1048576 < p
  · go_enter Try.func8, Try.ntmps8
    go_wp2
    go_ret
    exact ⟨rfl, n0.b⟩
  have hp : p ≤ 1048576 := by omega
  by_cases hq0 : 1048576 < q
  · go_enter Try.func8, Try.ntmps8
    go_wp2
    go_ret
    exact ⟨rfl, n0.b⟩
  have hq : q ≤ 1048576 := by omega
  clear hp0 hq0 hp1 hq1
  go_enter Try.func8, Try.ntmps8
  go_wp2_with fail
  refine (szRow_any _ _ _ gs _ _ _ ls _ _ _ ts _ _ _ HG.out (hG.below n0.b) hG1 HA.out (hA.below n0.b) hA1 HT.out (hT.below n0.b) hT1 (by omega) (by omega)).mono ?_
  rintro e w1 ⟨r, rfl, p1, q1, s1, b1⟩
  have n1 := n0.below b1
  obtain ⟨c0, c1, c2, c3⟩ := n1.p.quad
  by_cases hr : r < 0
  · go_wp2
    go_ret
    exact ⟨rfl, n1.b⟩
  have hr' : 0 ≤ r := by omega
  have R0 := s1 hr'
  have hR : RowAt w g G gs a A ls t T ts := by
    refine ⟨hG.g ?_, hA.g ?_, hT.g ?_, HG.out, HA.out, HT.out, R0.zg, R0.za, R0.zt⟩
    · intro i hi; obtain ⟨b, o, e, e0, e1, e2, e3⟩ := R0.g i hi; exact ⟨e3.hn, e3.hm⟩
    · intro i hi; obtain ⟨b, o, e, e0, e1, e2, e3⟩ := R0.a i hi; exact ⟨e3.hn, e3.hm⟩
    · intro i hi; obtain ⟨b, o, e, e0, e1, e2, e3⟩ := R0.t i hi; exact ⟨e3.hn, e3.hm⟩
  have zg := hR.zg
  have za := hR.za
  have zt := hR.zt
  clear s1 R0 b1 n0 hG hA hT hr p1 q1
  obtain ⟨code, hcode⟩ : ∃ x, x = doCode gs ls ts A T st p q V U := ⟨_, rfl⟩
  obtain ⟨tl, htl⟩ : ∃ x, x = doTells gs ls ts A T st p q V U := ⟨_, rfl⟩
  obtain ⟨pl, hpl⟩ : ∃ x, x = doPots gs ls ts A T st p q V U := ⟨_, rfl⟩
  have lt1 : tl.length ≤ 1048576 := by rw [htl]; exact tells_len HT.out zt
  have lp1 : pl.length ≤ 1048576 := by rw [hpl]; exact pots_len HV.out hp
  have same : ∀ gs' ls' ts', gs'.length = G → ls'.length = A → ts'.length = T → copies gs gs' → copies ls ls' → copies ts ts' → doCode gs' ls' ts' A T st p q V U = code ∧ doTells gs' ls' ts' A T st p q V U = tl ∧ doPots gs' ls' ts' A T st p q V U = pl := fun gs' ls' ts' h1 h2 h3 c1 c2 c3 => by
    have e1 := copies_ok (by rw [h1, HG.out]) c1
    have e2 := copies_ok (by rw [h2, HA.out]) c2
    have e3 := copies_ok (by rw [h3, HT.out]) c3
    have e4 := copies_at (V := V) (U := U) (by rw [h2, HA.out]) c2
    have e5 := copies_at (V := V) (U := U) (by rw [h3, HT.out]) c3
    rw [hcode, htl, hpl]
    simp only [doCode, doTells, doPots, doB, doX, rowB, e1, e2, e3, e4, e5]
    exact ⟨rfl, rfl, rfl⟩
  have hs : ∀ (W : World) (g : Option Addr) (cg : Nat) (gs' : List FV) (a : Option Addr) (ca : Nat) (ls' : List FV) (t : Option Addr) (ct : Nat) (ts' : List FV) (v : Option Addr) (cv : Nat) (u : Option Addr) (cu : Nat), RowAt W g G gs' a A ls' t T ts' → Ints W v p V → Ints W u q U → copies gs gs' → copies ls ls' → copies ts ts' → Calls Try.prog 31 #[rowV g G cg a A ca t T ct st, .slice v p cv, .slice u q cu] W fun e w' => ResD W w' e code tl pl := by
    intro W g cg gs' a ca ls' t ct ts' v cv u cu h1 h2 h3 k1 k2 k3
    obtain ⟨e1, e2, e3⟩ := same gs' ls' ts' h1.hg h1.ha h1.ht k1 k2 k3
    rw [← e1, ← e2, ← e3]
    exact sdoing_any g G cg gs' a A ca ls' t T ct ts' st v p cv V u q cu U W h1 h2 h3 hp hq
  have hi : ∀ (W : World) (g : Option Addr) (cg : Nat) (gs' : List FV) (a : Option Addr) (ca : Nat) (ls' : List FV) (t : Option Addr) (ct : Nat) (ts' : List FV) (v : Option Addr) (cv : Nat) (u : Option Addr) (cu : Nat), RowAt W g G gs' a A ls' t T ts' → Ints W v p V → Ints W u q U → copies gs gs' → copies ls ls' → copies ts ts' → Calls Try.prog 33 #[rowV g G cg a A ca t T ct st, .slice v p cv, .slice u q cu] W fun e w' => ResD W w' e code tl pl := by
    intro W g cg gs' a ca ls' t ct ts' v cv u cu h1 h2 h3 k1 k2 k3
    obtain ⟨e1, e2, e3⟩ := same gs' ls' ts' h1.hg h1.ha h1.ht k1 k2 k3
    rw [← e1, ← e2, ← e3]
    exact idoing_any g G cg gs' a A ca ls' t T ct ts' st v p cv V u q cu U W h1 h2 h3 hp hq
  have HS : Hid _ := hs
  have HI : Hid _ := hi
  clear same hcode htl hpl hs hi
  go_wp2_with fail
  refine (toRow_any _ _ _ gs _ _ _ ls _ _ _ ts _ _ (hR.below n1.b)).mono ?_
  rintro e w2 ⟨B1, B2, B3, gs', ls', ts', X, Y, Z, p1, q1, p2, q2, p3, q3, rfl, k1, k2, k3, m2, b2⟩
  have n2 := n1.below b2
  clear c0 c1 c2 c3 b2 n1
  go_wp2_with fail
  refine (to_any _ _ _ V _ (hV.below n2.b) hp).mono ?_
  rintro e w2a ⟨rfl, b2a, ka⟩
  have n2a := n2.below b2a
  have m2a := m2.below b2a
  clear b2a n2 m2
  go_wp2_with fail
  refine (to_any _ _ _ U _ (hU.below n2a.b) hq).mono ?_
  rintro e w2b ⟨rfl, b2b, kb⟩
  have n2b := n2a.below b2b
  have m2b := m2a.below b2b
  have ka2 := ka.below b2b
  clear b2b n2a m2a ka
  go_wp2_with fail
  refine (HS.out _ _ _ gs' _ _ ls' _ _ ts' _ _ _ _ (m2b.at zg za zt) (ka2.ints' HV.out) (kb.ints' HU.out) k1 k2 k3).mono ?_
  rintro e w3 ⟨oa, n, ocap, O1, ob, m, ocap', O2, rfl, L1, L2, b3, o1, o2, -, -, -⟩
  have hn : n ≤ 1048576 := by rw [← L1]; exact lt1
  have hm : m ≤ 1048576 := by rw [← L2]; exact lp1
  have HN : Hid (tl.length = n) := L1
  have HM : Hid (pl.length = m) := L2
  have n3 := n2b.below b3
  clear b3 n2b m2b k1 k2 k3 ka2 kb L1 L2
  clear gs' ls' ts' X Y Z p1 q1 p2 q2 p3 q3
  have S3 : SD w [.slice g G cg, .slice a A ca, .slice t T ct, .bool st] w3.heap.size [.int .i64 code, .slice oa n ocap] oa O1 n tl ob O2 m pl (w3.alloc (.cells #[.int .i64 code, .slice oa n ocap] 57)) := ⟨n3.alloc _, Cel.new w3 _ _, o1.alloc _, o2.alloc _⟩
  have lo1 : 0 < n → O1 < w3.heap.size := fun h => o1.lt h
  have lo2 : 0 < m → O2 < w3.heap.size := fun h => o2.lt h
  have zw3 : w.heap.size < w3.heap.size := n3.p.lt
  clear n3 o1 o2
  obtain ⟨c0, c1, c2, c3⟩ := S3.bx.p.quad
  go_wp2_with fail
  refine (toRow_any _ _ _ gs _ _ _ ls _ _ _ ts _ _ (hR.below S3.bx.b)).mono ?_
  rintro e w4 ⟨V1, V2, V3, gs', ls', ts', X, Y, Z, p1, q1, p2, q2, p3, q3, rfl, k1, k2, k3, m4, b4⟩
  rw [World.size_alloc] at m4
  have S4 := S3.below b4
  have K1 : Hid (copies gs gs') := k1
  have K2 : Hid (copies ls ls') := k2
  have K3 : Hid (copies ts ts') := k3
  have z4 := b4.size
  rw [World.size_alloc] at z4
  have l41 := m4.l1
  have l42 := m4.l2
  have l43 := m4.l3
  have l44 := m4.t.lt
  have HQ3 : Hid (∀ i, i < T → q3 i < w4.heap.size) := fun i hi => m4.t.q_lt i (by rw [m4.ht]; exact hi)
  clear c0 c1 c2 c3 b4 S3 k1 k2 k3
  go_wp2_with fail
  have S4a := S4.alloc (.cells #[.slice (some ⟨V1, 0, none⟩) G G, .slice (some ⟨V2, 0, none⟩) A A, .slice (some ⟨V3, 0, none⟩) T T, .bool st] 62)
  have x4 := Cel.new w4 [.slice (some ⟨V1, 0, none⟩) G G, .slice (some ⟨V2, 0, none⟩) A A, .slice (some ⟨V3, 0, none⟩) T T, .bool st] 62
  have m4a := m4.below ((Below.refl _ _).alloc (Nat.le_refl _) (.cells #[.slice (some ⟨V1, 0, none⟩) G G, .slice (some ⟨V2, 0, none⟩) A A, .slice (some ⟨V3, 0, none⟩) T T, .bool st] 62))
  refine (to_any _ _ _ V _ (hV.below S4a.bx.b) hp).mono ?_
  rintro e w5 ⟨rfl, b5, ka⟩
  rw [World.size_alloc] at ka
  have S5 := S4a.below b5
  have m5 := m4a.below b5
  have x5 := x4.below b5
  clear b5 S4 m4 S4a m4a x4
  go_wp2_with fail
  refine (to_any _ _ _ U _ (hU.below S5.bx.b) hq).mono ?_
  rintro e w6 ⟨rfl, b6, kb⟩
  have S6 := S5.below b6
  have m6 := m5.below b6
  have x6 := x5.below b6
  have ka6 := ka.below b6
  have lka := ka.lt
  have lkb := kb.lt
  clear b6 S5 m5 ka x5
  obtain ⟨d0, d1, d2, d3⟩ := x6.quad
  go_wp2_with fail
  refine (HI.out _ _ _ gs' _ _ ls' _ _ ts' _ _ _ _ (m6.at zg za zt) (ka6.ints' HV.out) (kb.ints' HU.out) K1.out K2.out K3.out).mono ?_
  rintro e w7 ⟨ga, n', gcap, P1, gb, m', gcap', P2, rfl, L1, L2, b7, o1, o2, y1, y2, y3⟩
  obtain rfl : n' = n := by rw [← L1, HN.out]
  obtain rfl : m' = m := by rw [← L2, HM.out]
  have S7p := S6.below b7
  obtain ⟨d0', d1', -, -⟩ := S7p.v.pair
  have z37 : w3.heap.size < w7.heap.size := S7p.v.lt
  have A7 : Below w7.heap.size w7 (w7.alloc (.cells #[.int .i64 code, .slice ga n' gcap] 57)) := (Below.refl _ _).alloc (Nat.le_refl _) _
  have S7 := S7p.below A7
  have m7 := (m6.below b7).below A7
  have x7 := (x6.below b7).below A7
  have ka7 := (ka6.below b7).below A7
  have kb7 := (kb.below b7).below A7
  have G7 : SG w7.heap.size [.int .i64 code, .slice ga n' gcap] ga P1 n' tl gb P2 m' pl (w7.alloc (.cells #[.int .i64 code, .slice ga n' gcap] 57)) := ⟨Cel.new w7 _ _, o1.alloc _, o2.alloc _⟩
  have q1' : 0 < n' → P1 < w7.heap.size := fun h => o1.lt h
  have q2' : 0 < m' → P2 < w7.heap.size := fun h => o2.lt h
  have z7 := b7.size
  clear S6 S7p m6 x6 ka6 kb b7 o1 o2 L1 L2 d0 d1 d2 d3 A7
  have hcc : (code != code) = false := by simp
  have heT := eqB_refl tl
  have heP := eqB_refl pl
  have heV := eqB_refl V
  have heU := eqB_refl U
  go_wp2_with fail
  refine (eqRes_same _ _ _ _ _ _ tl _ G7.o1.ints S7.o1.ints hn).mono ?_
  rintro e w8 ⟨rfl, b8⟩
  have z8 := b8.size
  rw [World.size_alloc] at z8
  have S8 := S7.below b8
  have G8 := G7.below b8
  have m8 := m7.below b8
  have x8 := x7.below b8
  have ka8 := ka7.below b8
  have kb8 := kb7.below b8
  clear S7 G7 m7 x7 ka7 kb7 b8 d0' d1'
  go_wp2_with fail
  refine (eq_any _ _ _ _ _ _ pl pl _ G8.o2.ints S8.o2.ints hm hm).mono ?_
  rintro e w9 ⟨rfl, b9⟩
  have z9 := b9.size
  have S9 := S8.below b9
  have G9 := G8.below b9
  have m9 := m8.below b9
  have x9 := x8.below b9
  have ka9 := ka8.below b9
  have kb9 := kb8.below b9
  clear S8 G8 m8 x8 ka8 kb8 b9
  obtain ⟨c0, c1, c2, c3⟩ := S9.bx.p.quad
  obtain ⟨d0, d1, d2, d3⟩ := x9.quad
  have LG : Hid (gs'.length = G) := m9.hg
  have LA : Hid (ls'.length = A) := m9.ha
  have LT : Hid (ts'.length = T) := m9.ht
  have M9 := m9.at zg za zt
  go_upto_region 16 with fail
  go_cut [68] (fun s wd => s = .bool false ∧ Below w9.heap.size w9 wd)
  case first =>
    go_region_with (first | (go_at_call 32; go_must (refine (toRow_any _ _ _ gs _ _ _ ls _ _ _ ts _ _ (by exact hR.below S9.bx.b.drew)).mono ?_; rintro e y8 ⟨B1', B2', B3', gs2, ls2, ts2, X2, Y2, Z2, pa, qa, pb, qb, pc, qc, rfl, k1, k2, k3, my, by8⟩; have by8' := below_of_drew by8; obtain ⟨f0, f1, f2, f3⟩ := (x9.below by8').quad)) | (go_at_call 35; refine (eqRow_same _ _ _ gs' _ _ _ ls' _ _ _ ts' _ _ gs2 _ _ ls2 _ _ ts2 _ _ (by exact M9.below by8') (by exact my.at zg za zt) (copies_eq LG.out my.hg K1.out k1) (copies_eq LA.out my.ha K2.out k2) (copies_eq LT.out my.ht K3.out k3)).mono ?_; rintro e y9 ⟨rfl, by9⟩))
    all_goals
      go_wp2_with fail
      go_meet
      case rel => exact ⟨rfl, by8'.trans (by9.mono by8'.size)⟩
  case rest =>
  obtain ⟨rfl, bd⟩ := hcut
  have zd := bd.size
  have Sd := S9.below bd
  have Gd := G9.below bd
  have md := m9.below bd
  have xd := x9.below bd
  have kad := ka9.below bd
  have kbd := kb9.below bd
  clear S9 G9 m9 x9 ka9 kb9 bd c0 c1 c2 c3 d0 d1 d2 d3 M9
  go_wp2_with fail
  refine (to_any _ _ _ V _ (hV.below Sd.bx.b) hp).mono ?_
  rintro e y1w ⟨rfl, by1, l1⟩
  have zy1 := by1.size
  have Sy1 := Sd.below by1
  have Gy1 := Gd.below by1
  have my1 := md.below by1
  have xy1 := xd.below by1
  have kay1 := kad.below by1
  have kby1 := kbd.below by1
  clear Sd Gd md xd kad kbd by1
  go_wp2_with fail
  refine (eq_any _ _ _ _ _ _ V V _ (kay1.ints' HV.out) (l1.ints' HV.out) hp hp).mono ?_
  rintro e y2w ⟨rfl, by2⟩
  have zy2 := by2.size
  have Sy2 := Sy1.below by2
  have Gy2 := Gy1.below by2
  have my2 := my1.below by2
  have xy2 := xy1.below by2
  have kay2 := kay1.below by2
  have kby2 := kby1.below by2
  clear Sy1 Gy1 my1 xy1 kay1 kby1 by2 l1
  go_wp2_with fail
  refine (to_any _ _ _ U _ (hU.below Sy2.bx.b) hq).mono ?_
  rintro e y3w ⟨rfl, by3, l3⟩
  have zy3 := by3.size
  have Sy3 := Sy2.below by3
  have Gy3 := Gy2.below by3
  have my3 := my2.below by3
  have xy3 := xy2.below by3
  have kay3 := kay2.below by3
  have kby3 := kby2.below by3
  clear Sy2 Gy2 my2 xy2 kay2 kby2 by3
  go_wp2_with fail
  refine (eq_any _ _ _ _ _ _ U U _ (kby3.ints' HU.out) (l3.ints' HU.out) hq hq).mono ?_
  rintro e y4w ⟨rfl, by4⟩
  have zy4 := by4.size
  have Sy4 := Sy3.below by4
  have Gy4 := Gy3.below by4
  have my4 := my3.below by4
  have xy4 := xy3.below by4
  have kay4 := kay3.below by4
  have kby4 := kby3.below by4
  clear Sy3 Gy3 my3 xy3 kay3 kby3 by4 l3
  obtain ⟨d0, d1, d2, d3⟩ := xy4.quad
  have PP : (0 < n' → w4.heap.size + 1 + 1 ≤ P1) ∧ (0 < m' → w4.heap.size + 1 + 1 ≤ P2) := ⟨fun h => by have := y1 h; omega, fun h => by have := y2 h; omega⟩
  go_wp2_with fail
  refine (markRow_any _ _ _ _ _ _ _ gs' ls' ts' X Y Z p1 q1 p2 q2 p3 q3 _ _ _ _ _ _ my4 zg za zt w4.heap.size (by omega) l44 HQ3.out (by omega) (by omega)).mono ?_
  rintro e y5w ⟨r1, rfl, r10, r11, t5⟩
  have zy5 := t5.size
  have Sy5 := Sy4.touch t5 (fun k h => by omega) (fun h => by omega) (fun h0 h => by have := lo1 h0; omega) (fun h0 h => by have := lo2 h0; omega)
  have Gy5 := Gy4.touch t5 (fun h => by omega) (fun h0 h => by have := PP.1 h0; omega) (fun h0 h => by have := PP.2 h0; omega)
  have kay5 : OwnAt y5w (some ⟨w4.heap.size + 1, 0, none⟩) (w4.heap.size + 1) V := OwnAt.touch (.inr ⟨rfl, kay4⟩) t5 (fun h => by omega)
  have kby5 : OwnAt y5w (some ⟨w5.heap.size, 0, none⟩) w5.heap.size U := OwnAt.touch (.inr ⟨rfl, kby4⟩) t5 (fun h => by omega)
  clear Sy4 Gy4 my4 xy4 kay4 kby4 t5 d0 d1 d2 d3
  go_wp2_with fail
  refine (mark_any _ _ _ (w4.heap.size + 1) V _ _ kay5 HV.out hp r10 (by omega)).mono ?_
  rintro e y6w ⟨rfl, t6, -⟩
  have zy6 := t6.size
  have Sy6 := Sy5.touch t6 (fun k h => by omega) (fun h => by omega) (fun h0 h => by have := lo1 h0; omega) (fun h0 h => by have := lo2 h0; omega)
  have Gy6 := Gy5.touch t6 (fun h => by omega) (fun h0 h => by have := PP.1 h0; omega) (fun h0 h => by have := PP.2 h0; omega)
  have kby6 : OwnAt y6w (some ⟨w5.heap.size, 0, none⟩) w5.heap.size U := kby5.touch t6 (fun h => by omega)
  clear Sy5 Gy5 kay5 kby5 t6
  go_wp2_with fail
  refine (mark_any _ _ _ w5.heap.size U _ _ kby6 HU.out hq (by omega) (by omega)).mono ?_
  rintro e y7w ⟨rfl, t7, -⟩
  have zy7 := t7.size
  have Sy7 := Sy6.touch t7 (fun k h => by omega) (fun h => by omega) (fun h0 h => by have := lo1 h0; omega) (fun h0 h => by have := lo2 h0; omega)
  have Gy7 := Gy6.touch t7 (fun h => by omega) (fun h0 h => by have := y1 h0; omega) (fun h0 h => by have := y2 h0; omega)
  have yA' : decide (r1 + (p : Int) + (q : Int) < 0) = false := by simp; omega
  have yA : 0 ≤ r1 + (p : Int) + (q : Int) := by omega
  clear Sy6 Gy6 kby6 t7
  obtain ⟨d0, d1, -, -⟩ := Sy7.v.pair
  obtain ⟨f0, f1, -, -⟩ := Gy7.g.pair
  go_wp2_with fail
  refine (eqRes_same _ _ _ _ _ _ tl _ Gy7.o1.ints Sy7.o1.ints hn).mono ?_
  rintro e u1 ⟨rfl, bu1⟩
  have zu1 := bu1.size
  have Su1 := Sy7.below bu1
  have Gu1 := Gy7.below bu1
  clear Sy7 Gy7 bu1 d0 d1 f0 f1
  go_wp2_with fail
  refine (eq_any _ _ _ _ _ _ pl pl _ Gu1.o2.ints Su1.o2.ints hm hm).mono ?_
  rintro e u2 ⟨rfl, bu2⟩
  have zu2 := bu2.size
  have Su2 := Su1.below bu2
  have Gu2 := Gu1.below bu2
  clear Su1 Gu1 bu2
  obtain ⟨f0, f1, -, -⟩ := Gu2.g.pair
  go_wp2_with fail
  refine (markRes_any _ _ _ _ P1 tl _ _ Gu2.o1 hn (by omega) (by omega)).mono ?_
  rintro e u3 ⟨rfl, t3, o3⟩
  have zu3 := t3.size
  have Su3 := Su2.touch t3 (fun k h => by have := PP.1 h.2; omega) (fun h => by have := PP.1 h.2; omega) (fun h0 h => by have := PP.1 h.2; have := lo1 h0; omega) (fun h0 h => by have := PP.1 h.2; have := lo2 h0; omega)
  have g3 := Gu2.g.touch t3 (fun h => by have := q1' h.2; omega)
  have o3b := Gu2.o2.touch t3 (fun h0 h => y3 h.2 h0 h.1.symm)
  clear Su2 Gu2 t3 f0 f1
  go_wp2_with fail
  refine (markX_any _ _ _ P2 pl _ _ o3b hm (by omega) (by omega)).mono ?_
  rintro e u4 ⟨rfl, t4, o4⟩
  have zu4 := t4.size
  have Su4 := Su3.touch t4 (fun k h => by have := PP.2 h.2; omega) (fun h => by have := PP.2 h.2; omega) (fun h0 h => by have := PP.2 h.2; have := lo1 h0; omega) (fun h0 h => by have := PP.2 h.2; have := lo2 h0; omega)
  have g4 := g3.touch t4 (fun h => by have := q2' h.2; omega)
  have o34 := o3.touch t4 (fun h0 h => y3 h0 h.2 h.1)
  have i1 := o34.ints
  have i2 := o4.ints
  clear Su3 g3 o3 o3b t4 o34 o4
  obtain ⟨f0, f1, -, -⟩ := g4.pair
  have w1' : 0 ≤ (1 : Int) + n' := by omega
  have w2' : 0 ≤ (1 : Int) + n' + m' := by omega
  have w3' : ((1 : Int) + n' + m' != 1 + n' + m') = false := by simp
  go_wp2_with fail
  refine (heldRes_any _ _ _ _ _ _ i1 hn (by omega) (by omega)).mono ?_
  rintro e u5 ⟨rfl, bu5⟩
  have Su5 := Su4.below bu5
  have g5 := g4.below bu5
  have i15 := i1.below bu5
  have i25 := i2.below bu5
  clear Su4 g4 i1 i2 bu5 f0 f1
  go_wp2_with fail
  refine (held_any _ _ _ _ _ i25 hm w1' (by omega)).mono ?_
  rintro e u6 ⟨rfl, hu6⟩
  rw [hu6]
  clear hu6
  obtain ⟨c0, c1, c2, c3⟩ := Su5.bx.p.quad
  go_wp2_with fail
  refine (toRow_any _ _ _ gs _ _ _ ls _ _ _ ts _ _ (hR.below Su5.bx.b)).mono ?_
  rintro e u7 ⟨B1', B2', B3', gs2, ls2, ts2, X2, Y2, Z2, pa, qa, pb, qb, pc, qc, rfl, k1, k2, k3, mz, bu7⟩
  have Su7 := Su5.below bu7
  have g7 := g5.below bu7
  have i17 := i15.below bu7
  have i27 := i25.below bu7
  clear Su5 g5 i15 i25 bu7 c0 c1 c2 c3
  go_wp2_with fail
  refine (to_any _ _ _ V _ (hV.below Su7.bx.b) hp).mono ?_
  rintro e u8 ⟨rfl, bu8, la⟩
  have Su8 := Su7.below bu8
  have g8 := g7.below bu8
  have i18 := i17.below bu8
  have i28 := i27.below bu8
  have mz8 := mz.below bu8
  clear Su7 g7 i17 i27 bu8 mz
  go_wp2_with fail
  refine (to_any _ _ _ U _ (hU.below Su8.bx.b) hq).mono ?_
  rintro e u9 ⟨rfl, bu9, lb⟩
  have Su9 := Su8.below bu9
  have g9 := g8.below bu9
  have i19 := i18.below bu9
  have i29 := i28.below bu9
  have mz9 := mz8.below bu9
  have la9 := la.below bu9
  clear Su8 g8 i18 i28 bu9 mz8 la
  go_wp2_with fail
  refine (HI.out _ _ _ gs2 _ _ ls2 _ _ ts2 _ _ _ _ (mz9.at zg za zt) (la9.ints' HV.out) (lb.ints' HU.out) k1 k2 k3).mono ?_
  rintro e v1 ⟨ha, hn2, hcap, Q1, hb, hm2, hcap', Q2, rfl, L1, L2, bv1, j1, j2, -, -, -⟩
  obtain rfl : hn2 = n' := by rw [← L1, HN.out]
  obtain rfl : hm2 = m' := by rw [← L2, HM.out]
  have Sv := Su9.below bv1
  have gv := g9.below bv1
  have i1v := i19.below bv1
  have i2v := i29.below bv1
  clear Su9 g9 i19 i29 bv1 mz9 la9 lb L1 L2 k1 k2 k3
  obtain ⟨d0, d1, -, -⟩ := Sv.v.pair
  have z3v := Sv.v.lt
  have zgv := gv.lt
  have Av : Below v1.heap.size v1 (v1.alloc (.cells #[.int .i64 code, .slice ha hn2 hcap] 57)) := (Below.refl _ _).alloc (Nat.le_refl _) _
  go_wp2_with fail
  refine (eqRes_same _ _ _ _ _ _ tl _ (j1.alloc _).ints (Sv.o1.alloc _).ints hn).mono ?_
  rintro e v2 ⟨rfl, bv2⟩
  have Sv2 := (Sv.below Av).below bv2
  have gv2 := (gv.below Av).below bv2
  have i1v2 := (i1v.below Av).below bv2
  have i2v2 := (i2v.below Av).below bv2
  have j22 := (j2.below Av).below bv2
  clear Sv gv i1v i2v Av bv2 j1 j2 d0 d1
  go_wp2_with fail
  refine (eq_any _ _ _ _ _ _ pl pl _ j22.ints Sv2.o2.ints hm hm).mono ?_
  rintro e v3 ⟨rfl, bv3⟩
  have Sv3 := Sv2.below bv3
  have gv3 := gv2.below bv3
  have i1v3 := i1v2.below bv3
  have i2v3 := i2v2.below bv3
  clear Sv2 gv2 i1v2 i2v2 bv3 j22
  obtain ⟨f0, f1, -, -⟩ := gv3.pair
  go_wp2_with fail
  refine (heldRes_any _ _ _ _ _ _ i1v3 hn (by omega) (by omega)).mono ?_
  rintro e v4 ⟨rfl, bv4⟩
  have Sv4 := Sv3.below bv4
  have i2v4 := i2v3.below bv4
  clear Sv3 gv3 i1v3 i2v3 bv4 f0 f1
  go_wp2_with fail
  refine (held_any _ _ _ _ _ i2v4 hm w1' (by omega)).mono ?_
  rintro e v5 ⟨rfl, hv5⟩
  rw [hv5]
  go_wp2
  go_ret
  exact ⟨rfl, Sv4.bx.b⟩

/-! ### The row's step -/
set_option maxRecDepth 100000 in
theorem lifted (os : Os) (started : os.Started) (H : Type) (enc : TypeId × Value → H) :
    ReturnsInHanded {} Try.checked os 8 .any (Rows.fnExactRowDoSpec.pre6 enc Try.prog Try.f8 Rows.fnExactRowDoRow.domain false) (Rows.fnExactRowDoSpec.post enc Try.prog Try.f8 false true false false) := by
  refine returnsInHanded_of_change (C := Try.checked) own started (by kernel_rfl) Try.func8
    (ChangeSpec.witness6 (enc := enc) (C := Try.checked) false ⟨#[], #[.agg #[.slice none 0 0, .slice none 0 0, .slice none 0 0, .bool false], .slice none 0 0, .slice none 0 0], []⟩ 8 (by kernel_rfl) (by kernel_rfl) (by kernel_rfl) (by kernel_rfl)) ?_
  intro W base args ds gs before hval0 hW hcnd _
  have hval : ∀ (j : Nat) t v, Try.f8.params[j]? = some t → args[j]? = some v → Value.okWide Try.prog W .any base t v := hval0
  have hW' := hW
  obtain ⟨p, q, hA0, hV, rfl, hfz, hnd⟩ := hW
  have hA : DataW.TrodAll enc Try.prog W 0 (fun _ => true) true Try.f8.params.toList args.toList ds p := hA0
  rw [Try.params8] at hA hval
  obtain ⟨v0, vs0, d0, ds0, p0, q0, hargs, rfl, rfl, h0, r0⟩ := trodAll_cons hA
  obtain ⟨v1, vs1, d1, ds1, p1, q1, rfl, rfl, rfl, h1, r1⟩ := trodAll_cons r0
  obtain ⟨v2, vs2, d2, ds2, p2, q2, rfl, rfl, rfl, h2, r2⟩ := trodAll_cons r1
  obtain ⟨rfl, rfl, rfl⟩ := trodAll_nil r2
  obtain rfl : args = #[v0, v1, v2] := by cases args; simp_all
  obtain ⟨rfl, rfl⟩ := trodVars_none hV
  have k0 := h0
  have lt0 : ∀ x ∈ p0, x.block < W.heap.size := by obtain ⟨m, hm⟩ := k0; exact DataW.trod_lt m _ _ _ hm
  obtain ⟨g0, G0, cg0, gs0, a0, A0, ca0, ls0, t0, T0, ct0, ts0, st0, rfl, hg0, hG0, zg0, ha0, hF0, za0, ht0, hT0, zt0⟩ := open_rowR (hval 0 54 v0 rfl rfl) h0
  have k1 := h1
  have lt1 : ∀ x ∈ p1, x.block < W.heap.size := by obtain ⟨m, hm⟩ := k1; exact DataW.trod_lt m _ _ _ hm
  obtain ⟨a1, n1, cap1, C1, rfl, hC1, hn1⟩ := open_rowT (hval 1 22 v1 rfl rfl) h1
  have k2 := h2
  have lt2 : ∀ x ∈ p2, x.block < W.heap.size := by obtain ⟨m, hm⟩ := k2; exact DataW.trod_lt m _ _ _ hm
  obtain ⟨a2, n2, cap2, C2, rfl, hC2, hn2⟩ := open_rowT (hval 2 22 v2 rfl rfl) h2
  clear hA0 hval0
  refine (walk W g0 G0 cg0 gs0 a0 A0 ca0 ls0 t0 T0 ct0 ts0 st0 hg0 hG0 zg0 ha0 hF0 za0 ht0 hT0 zt0 a1 n1 cap1 C1 hC1 hn1 a2 n2 cap2 C2 hC2 hn2).mono fun e W' ⟨he, bel⟩ => ?_
  subst he
  exact ⟨_, rfl, _, _, _, [], _, [], hW', trodAll_mk1 (shut_bool Try.underlying4 _), (trodAll_cons_mk (Below.trod laidOut (by kernel_rfl) (of_decide_eq_true (by kernel_rfl)) k0 bel lt0) (trodAll_cons_mk (Below.trod laidOut (by kernel_rfl) (of_decide_eq_true (by kernel_rfl)) k1 bel lt1) (trodAll_cons_mk (Below.trod laidOut (by kernel_rfl) (of_decide_eq_true (by kernel_rfl)) k2 bel lt2) trodAll_mk0))), rfl, bel.frame _, fun h => by cases h⟩

theorem over : Rows.fnExactRowDoRow.holds Try.pinned (OpenSpec.ofChange Rows.fnExactRowDoSpec) :=
  OpenClaim.holds_of_wide 8 Try.f8 rfl rfl rfl rfl rfl rfl rfl ⟨rfl, rfl, rfl, rfl, rfl⟩ rfl rfl rfl rfl rfl (by kernel_rfl) Try.func8 (by kernel_rfl)
    (of_decide_eq_true (by kernel_rfl)) (by unfold Func.isWrapper; first | (rw [if_pos (by decide +kernel)]; kernel_rfl) | (rw [if_neg (by decide +kernel)]; exact ⟨rfl, rfl⟩))
    (fun os started H enc _ => lifted os started H enc)

end Go.Proofs.Ytmbhcngddpoonaa.fnExactRowDo
namespace Go.Proofs.Ytmbhcngddpoonaa
/-- The statement. -/
theorem fnExactRowDo_holds : Rows.FnExactRowDoSaid := fnExactRowDo.over
#print axioms fnExactRowDo_holds
end Go.Proofs.Ytmbhcngddpoonaa
