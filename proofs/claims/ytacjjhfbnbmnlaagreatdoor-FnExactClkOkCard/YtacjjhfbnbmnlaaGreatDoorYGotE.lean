/-
  What a site has told: the size, a copy, one held against another. Lengths at most 1048576 where one is copied.
-/
import Derived.Test.YtacjjhfbnbmnlaaGreatDoorPackA
import Derived.Test.YtacjjhfbnbmnlaaGreatDoorPackF
namespace Go.Proofs.YtacjjhfbnbmnlaaGreatDoor
open Go.ChangeShapes Go.WideShapes Go.ChangeAt Go.RowKit Go.Joins Go.Deep
set_option linter.unusedVariables false
set_option maxRecDepth 100000

/-- One of them, and what it holds. -/
structure GV where
  h : Bool
  t : IV
  u : IV
def noG : GV := ⟨false, noI, noI⟩
def GV.cs (f : GV) : List Value := [.bool f.h, IV.v f.t, IV.v f.u]
def GM (w : World) (f : GV) : Prop := IM w f.t ∧ IM w f.u ∧ True
def GG (w : World) (f : GV) : Prop := IG w f.t ∧ IG w f.u ∧ True
def GZ (f : GV) : Prop := IS f.t ∧ IS f.u ∧ True
def GK (w : World) (lo : Nat) (f : GV) : Prop := IK w lo f.t ∧ IK w lo f.u ∧ True
def copiesG (f g : GV) : Prop := g.h = f.h ∧ copiesI f.t g.t ∧ copiesI f.u g.u ∧ True
def sameG (f g : GV) : Prop := f.h = g.h ∧ sameI f.t g.t ∧ sameI f.u g.u ∧ True
theorem GM.below {w w' : World} {f : GV} (h : GM w f) (hb : Below w.heap.size w w') : GM w' f := ⟨h.1.below hb, h.2.1.below hb, trivial⟩
theorem GG.below {w w' : World} {f : GV} (h : GG w f) (hb : Below w.heap.size w w') : GG w' f := ⟨h.1.below hb, h.2.1.below hb, trivial⟩
theorem GM.g {w : World} {f : GV} (h : GM w f) (hs : GZ f) : GG w f := ⟨(h.1).g hs.1, (h.2.1).g hs.2.1, trivial⟩
theorem GK.below {w w' : World} {lo : Nat} {f : GV} (h : GK w lo f) (hb : Below w.heap.size w w') : GK w' lo f := ⟨h.1.below hb, h.2.1.below hb, trivial⟩
theorem GK.touch {S : Nat → Prop} {w w' : World} {lo : Nat} {f : GV} (h : GK w lo f) (t : Touch S w w') (hs : ∀ k, S k → k < lo) : GK w' lo f := ⟨h.1.touch t hs, h.2.1.touch t hs, trivial⟩
theorem GK.mono {w : World} {lo lo' : Nat} {f : GV} (h : GK w lo f) (hl : lo' ≤ lo) : GK w lo' f := ⟨h.1.mono hl, h.2.1.mono hl, trivial⟩
theorem GK.g {w : World} {lo : Nat} {f : GV} (h : GK w lo f) : GG w f := ⟨h.1.g, h.2.1.g, trivial⟩

/-- What was told, as a value. -/
abbrev gtV (h : Bool) (a : Option Addr) (n cap : Nat) (c : Option Addr) (m cap' : Nat) : Value := .agg #[.bool h, .slice a n cap, .slice c m cap']

theorem open_GC {H : Type} {enc : TypeId × Value → H} {W : World} {fuel : Nat} {cs : List Value} {x : DataW H × List MemPlace}
    (hf : DataW.trod enc Tryz.prog W 0 (fun _ => true) true fuel 156 cs = some x) :
    ∃ f : GV, cs = f.cs ∧ GM W f := by
  obtain ⟨v0, v1, v2, y0, y1, y2, k, rfl, h0, h1, h2⟩ := open_cells3 Tryz.underlying156 (by kernel_rfl) (by kernel_rfl) hf
  obtain ⟨b, e, _⟩ := DataW.trod_bool Tryz.underlying4 h0
  obtain rfl : v0 = .bool b := by simpa using e
  obtain ⟨a, m, cap, C, rfl, hC, hm⟩ := open_row h1
  obtain ⟨a', m', cap', C', rfl, hC', hm'⟩ := open_row h2
  exact ⟨⟨b, ⟨a, m, cap, C⟩, ⟨a', m', cap', C'⟩⟩, rfl, ⟨hC, hm⟩, ⟨hC', hm'⟩, trivial⟩

set_option maxHeartbeats 800000 in
theorem szG_ex (h : Bool) (ta : Option Addr) (tn tc : Nat) (tx : List Int) (ua : Option Addr) (un uc : Nat) (ux : List Int) (l : Int) (w : World) (hM : GM w ⟨h, ⟨ta, tn, tc, tx⟩, ⟨ua, un, uc, ux⟩⟩) (h0 : 0 ≤ l) (hl : l ≤ 1048576) :
    Calls Tryz.prog 117 #[gtV h ta tn tc ua un uc, .int .i64 l] w fun e w' => ∃ r, e = .returned (.int .i64 r) ∧ -1 ≤ r ∧ r ≤ 1048576 ∧ (0 ≤ r → GZ ⟨h, ⟨ta, tn, tc, tx⟩, ⟨ua, un, uc, ux⟩⟩) ∧ Below w.heap.size w w' := by
  have h1 : IM w ⟨ta, tn, tc, tx⟩ := hM.1
  have h2 : IM w ⟨ua, un, uc, ux⟩ := hM.2.1
  clear hM
  have n0 := Cel.new w [.bool h, .slice ta tn tc, .slice ua un uc] 156
  have B0 := (Below.refl w.heap.size w).alloc (Nat.le_refl _) (.cells #[.bool h, .slice ta tn tc, .slice ua un uc] 156)
  go_enter Tryz.func117, Tryz.ntmps117
  go_wp2_with fail
  refine (szI_ex _ _ _ tx _ _ (h1.below B0) h0 hl).mono ?_
  rintro e w1 ⟨r1, rfl, p1, q1, s1, b1⟩
  have B1 := B0.trans (b1.mono B0.size)
  have n1 := n0.below b1
  obtain ⟨c0, c1, c2, -, -, -⟩ := n1.trio
  clear n0 B0 b1
  by_cases g1 : r1 < 0
  · go_wp2
    go_ret
    exact ⟨-1, rfl, by omega, by omega, fun h => by omega, B1⟩
  have g1' : 0 ≤ r1 := by omega
  have S1 : Hid _ := s1 g1'
  clear s1 g1
  go_wp2_with fail
  refine (szI_ex _ _ _ ux _ _ (h2.below B1) g1' q1).mono ?_
  rintro e w2 ⟨r2, rfl, p2, q2, s2, b2⟩
  have B2 := B1.trans (b2.mono B1.size)
  clear c0 c1 c2 n1 B1 b2
  by_cases g2 : r2 < 0
  · go_wp2
    go_ret
    exact ⟨-1, rfl, by omega, by omega, fun h => by omega, B2⟩
  have g2' : 0 ≤ r2 := by omega
  have S2 : Hid _ := s2 g2'
  clear s2 g2
  go_wp2
  go_ret
  exact ⟨r2, rfl, by omega, q2, fun _ => ⟨S1.out, S2.out, trivial⟩, B2⟩

set_option maxHeartbeats 1600000 in
theorem toG_ex (h : Bool) (ta : Option Addr) (tn tc : Nat) (tx : List Int) (ua : Option Addr) (un uc : Nat) (ux : List Int) (w : World) (hG : GG w ⟨h, ⟨ta, tn, tc, tx⟩, ⟨ua, un, uc, ux⟩⟩) :
    Calls Tryz.prog 121 #[gtV h ta tn tc ua un uc] w fun e w' => ∃ Pt Qt Pu Qu, e = .returned (gtV h Pt tn tn Pu un un) ∧ Below w.heap.size w w' ∧ GK w' w.heap.size ⟨h, ⟨Pt, tn, tn, Qt⟩, ⟨Pu, un, un, Qu⟩⟩ ∧ copiesG ⟨h, ⟨ta, tn, tc, tx⟩, ⟨ua, un, uc, ux⟩⟩ ⟨h, ⟨Pt, tn, tn, Qt⟩, ⟨Pu, un, un, Qu⟩⟩ := by
  have hC : Ints w ta tn tx := hG.1.1
  have hn : tn ≤ 1048576 := hG.1.2
  have hD : Ints w ua un ux := hG.2.1.1
  have hm : un ≤ 1048576 := hG.2.1.2
  clear hG
  have L1 : Hid (tx.length = tn) := hC.1
  have L2 : Hid (ux.length = un) := hD.1
  go_enter Tryz.func121, Tryz.ntmps121
  go_wp2_with fail
  refine (to_any _ _ _ tx _ (((hC.alloc _).alloc _).alloc _) hn).mono ?_
  rintro e w1 ⟨rfl, b1, k1⟩
  have p0 := (((Cel.new w _ _).alloc _).alloc _).below b1
  have p1 := ((Cel.new (w.alloc _) _ _).alloc _).below b1
  have p2 := (Cel.new ((w.alloc _).alloc _) _ _).below b1
  rw [World.size_alloc] at p1
  rw [World.size_alloc, World.size_alloc] at p2
  rw [World.size_alloc, World.size_alloc, World.size_alloc] at k1
  have s1 := k1.lt
  have B1 : Below w.heap.size w w1 := ((((Below.refl _ _).alloc (Nat.le_refl _) _).alloc (by simp) _).alloc (by simp; omega) _).trans (b1.mono (by simp; omega))
  clear b1
  obtain ⟨c0, c1, c2, -, -, -⟩ := p0.trio
  obtain ⟨d0, d1, d2, -, -, -⟩ := p2.trio
  have f0 := p2.free 1
  go_wp2_with fail
  have B2 := B1.setCell (p := ⟨w.heap.size + 1 + 1, 1, none⟩) (by show w.heap.size ≤ w.heap.size + 1 + 1; omega) (Value.slice (some ⟨w.heap.size + 1 + 1 + 1, 0, none⟩) tn tn)
  refine (to_any _ _ _ ux _ (hD.below B2) hm).mono ?_
  rintro e w2 ⟨rfl, b2, k2⟩
  clear c0 c1 c2 d0 d1 d2 f0
  have q1 := (p1.setOther (by omega) _ _).below b2
  have q2 := (p2.set _ _).below b2
  have k1' := (k1.setOther (B' := w.heap.size + 1 + 1) (by omega) 1 _).below b2
  have B3 := B2.trans (b2.mono B2.size)
  have s2 := k2.lt
  rw [size_setCell] at k2 s2
  clear p0 p1 p2 k1 b2 B1 B2
  simp only [List.set_cons_zero, List.set_cons_succ] at q2
  obtain ⟨d0, d1, d2, -, -, -⟩ := q2.trio
  obtain ⟨e0, e1, e2, -, -, -⟩ := q1.trio
  have f0 := q2.free 2
  have g0 := q1.free 0
  have g1 := q1.free 1
  have g2 := q1.free 2
  have hlt1 : w.heap.size + 1 < w2.heap.size := by omega
  have hlt2 : w.heap.size + 1 + 1 < w2.heap.size := by omega
  go_wp2
  refine bodyPost_ret (v := gtV h (some ⟨w.heap.size + 1 + 1 + 1, 0, none⟩) tn tn (some ⟨w1.heap.size, 0, none⟩) un un) (by simp [results, Tryz.results121, go_sem, e0, e1, e2]) rfl ⟨_, tx, _, ux, rfl, ?_, ⟨⟨_, rfl, by show _ ≤ _; omega, ?_, L1.out, hn⟩, ⟨_, rfl, by show _ ≤ _; omega, ?_, L2.out, hm⟩, trivial⟩, rfl, ⟨rfl, rfl⟩, ⟨rfl, rfl⟩, trivial⟩
  · exact (((B3.setCell (by simp only []; omega) _).setCell (by simp only []; omega) _).setCell (by simp only []; omega) _).setCell (by simp only []; omega) _
  · exact (((k1'.setOther (by omega) _ _).setOther (by omega) _ _).setOther (by omega) _ _).setOther (by omega) _ _
  · exact (((k2.setOther (by omega) _ _).setOther (by omega) _ _).setOther (by omega) _ _).setOther (by omega) _ _

set_option maxHeartbeats 1600000 in
theorem eqG_ex (h : Bool) (ta : Option Addr) (tn tc : Nat) (tx : List Int) (ua : Option Addr) (un uc : Nat) (ux : List Int) (h' : Bool) (ta' : Option Addr) (tn' tc' : Nat) (tx' : List Int) (ua' : Option Addr) (un' uc' : Nat) (ux' : List Int) (w : World) (hA : GG w ⟨h, ⟨ta, tn, tc, tx⟩, ⟨ua, un, uc, ux⟩⟩) (hB : GG w ⟨h', ⟨ta', tn', tc', tx'⟩, ⟨ua', un', uc', ux'⟩⟩) (hs : sameG ⟨h, ⟨ta, tn, tc, tx⟩, ⟨ua, un, uc, ux⟩⟩ ⟨h', ⟨ta', tn', tc', tx'⟩, ⟨ua', un', uc', ux'⟩⟩) :
    Calls Tryz.prog 128 #[gtV h ta tn tc ua un uc, gtV h' ta' tn' tc' ua' un' uc'] w fun e w' => e = .returned (.bool true) ∧ Below w.heap.size w w' := by
  obtain ⟨e1, e2, e3, -⟩ := hs
  have e1' : h = h' := e1
  have e2' : tx = tx' := e2
  have e3' : ux = ux' := e3
  have i1 : Ints w ta tn tx := hA.1.1
  have z1 : tn ≤ 1048576 := hA.1.2
  have i2 : Ints w ua un ux := hA.2.1.1
  have z2 : un ≤ 1048576 := hA.2.1.2
  have j1 : Ints w ta' tn' tx' := hB.1.1
  have j2 : Ints w ua' un' ux' := hB.2.1.1
  have m1 : tn = tn' := by rw [← i1.1, ← j1.1, e2']
  have m2 : un = un' := by rw [← i2.1, ← j2.1, e3']
  clear hA hB e1 e2 e3
  subst e1' e2' e3' m1 m2
  have hc : (h != h) = false := by cases h <;> rfl
  have HE := eqB_refl tx
  have HF := eqB_refl ux
  have x0 := (Cel.new w [.bool h, .slice ta tn tc, .slice ua un uc] 159).alloc (.cells #[.bool h, .slice ta' tn tc', .slice ua' un uc'] 159)
  have y0 := Cel.new (w.alloc (.cells #[.bool h, .slice ta tn tc, .slice ua un uc] 159)) [.bool h, .slice ta' tn tc', .slice ua' un uc'] 159
  rw [World.size_alloc] at y0
  have B0 := ((Below.refl w.heap.size w).alloc (Nat.le_refl _) (.cells #[.bool h, .slice ta tn tc, .slice ua un uc] 159)).alloc (by simp) (.cells #[.bool h, .slice ta' tn tc', .slice ua' un uc'] 159)
  go_enter Tryz.func128, Tryz.ntmps128
  go_wp2_with fail
  refine (eq_any _ _ _ _ _ _ tx tx _ (i1.below B0) (j1.below B0) z1 z1).mono ?_
  rintro e w1 ⟨rfl, b1⟩
  rw [HE]
  have B1 := B0.trans (b1.mono B0.size)
  have x1 := x0.below b1
  have y1 := y0.below b1
  clear x0 y0 B0 b1
  obtain ⟨a0, a1, a2, -, -, -⟩ := x1.trio
  obtain ⟨c0, c1, c2, -, -, -⟩ := y1.trio
  go_wp2_with fail
  refine (eq_any _ _ _ _ _ _ ux ux _ (i2.below B1) (j2.below B1) z2 z2).mono ?_
  rintro e w2 ⟨rfl, b2⟩
  rw [HF]
  have B2 := B1.trans (b2.mono B1.size)
  go_wp2
  go_ret
  exact ⟨rfl, B2⟩

end Go.Proofs.YtacjjhfbnbmnlaaGreatDoor
