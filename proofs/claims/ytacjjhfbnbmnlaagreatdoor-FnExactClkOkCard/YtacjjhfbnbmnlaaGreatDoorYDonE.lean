/-
  What was done for a client: the size, a copy, one held against another. Lengths at most 1048576 where one is copied.
-/
import Derived.Test.YtacjjhfbnbmnlaaGreatDoorYResP
import Derived.Test.YtacjjhfbnbmnlaaGreatDoorPackF
namespace Go.Proofs.YtacjjhfbnbmnlaaGreatDoor
open Go.ChangeShapes Go.WideShapes Go.ChangeAt Go.RowKit Go.Joins Go.Deep
set_option linter.unusedVariables false
set_option maxRecDepth 100000

/-- One of them, and what it holds. -/
structure DV where
  q : Int
  c : Int
  t : IV
def noD : DV := ⟨0, 0, noI⟩
def DV.cs (f : DV) : List Value := [.int .i64 f.q, .int .i64 f.c, IV.v f.t]
def DM (w : World) (f : DV) : Prop := IM w f.t ∧ True
def DG (w : World) (f : DV) : Prop := IG w f.t ∧ True
def DZ (f : DV) : Prop := IS f.t ∧ True
def DK (w : World) (lo : Nat) (f : DV) : Prop := IK w lo f.t ∧ True
def copiesD (f g : DV) : Prop := g.q = f.q ∧ g.c = f.c ∧ copiesI f.t g.t ∧ True
def sameD (f g : DV) : Prop := f.q = g.q ∧ f.c = g.c ∧ sameI f.t g.t ∧ True
theorem DM.below {w w' : World} {f : DV} (h : DM w f) (hb : Below w.heap.size w w') : DM w' f := ⟨h.1.below hb, trivial⟩
theorem DG.below {w w' : World} {f : DV} (h : DG w f) (hb : Below w.heap.size w w') : DG w' f := ⟨h.1.below hb, trivial⟩
theorem DM.g {w : World} {f : DV} (h : DM w f) (hs : DZ f) : DG w f := ⟨(h.1).g hs.1, trivial⟩
theorem DK.below {w w' : World} {lo : Nat} {f : DV} (h : DK w lo f) (hb : Below w.heap.size w w') : DK w' lo f := ⟨h.1.below hb, trivial⟩
theorem DK.touch {S : Nat → Prop} {w w' : World} {lo : Nat} {f : DV} (h : DK w lo f) (t : Touch S w w') (hs : ∀ k, S k → k < lo) : DK w' lo f := ⟨h.1.touch t hs, trivial⟩
theorem DK.mono {w : World} {lo lo' : Nat} {f : DV} (h : DK w lo f) (hl : lo' ≤ lo) : DK w lo' f := ⟨h.1.mono hl, trivial⟩
theorem DK.g {w : World} {lo : Nat} {f : DV} (h : DK w lo f) : DG w f := ⟨h.1.g, trivial⟩

/-- What was done, as a value. -/
abbrev doV (s c : Int) (a : Option Addr) (n cap : Nat) : Value := .agg #[.int .i64 s, .int .i64 c, .slice a n cap]

theorem open_cells2 {H : Type} {enc : TypeId × Value → H} {W : World} {fuel : Nat} {t : TypeId} {f0 f1 : Field} {cs : List Value} {x : DataW H × List MemPlace} (hs : Tryz.prog.underlying t = some (.struct #[f0, f1])) (hone : oneCellFields Tryz.prog #[f0, f1] = true) (hC : Tryz.prog.cellsOf t = 2)
    (hf : DataW.trod enc Tryz.prog W 0 (fun _ => true) true fuel t cs = some x) :
    ∃ v0 v1 y0 y1 n, cs = [v0, v1] ∧ DataW.trod enc Tryz.prog W 0 (fun _ => true) true n f0.type [v0] = some y0 ∧ DataW.trod enc Tryz.prog W 0 (fun _ => true) true n f1.type [v1] = some y1 := by
  obtain ⟨y0, y1, n, _, hl, h0, h1⟩ := trod_struct2 hs hf
  obtain ⟨o0, k0⟩ := hone_of hone 0 f0 rfl
  obtain ⟨o1, k1⟩ := hone_of hone 1 f1 rfl
  have hl' : cs.length = 2 := hl.trans hC
  match cs, hl' with
  | [c0, c1], _ => exact ⟨c0, c1, y0, y1, n, rfl, by simpa [o0, k0] using h0, by simpa [o1, k1] using h1⟩

theorem open_DC {H : Type} {enc : TypeId × Value → H} {W : World} {fuel : Nat} {cs : List Value} {x : DataW H × List MemPlace}
    (hf : DataW.trod enc Tryz.prog W 0 (fun _ => true) true fuel 120 cs = some x) :
    ∃ f : DV, cs = f.cs ∧ DM W f := by
  obtain ⟨y0, y1, n, _, hl, h0, h1⟩ := trod_struct2 Tryz.underlying120 hf
  have hC : Tryz.prog.cellsOf 120 = 3 := by kernel_rfl
  have hl' : cs.length = 3 := hl.trans hC
  match cs, hl' with
  | [c0, c1, c2], _ =>
    have k3 : Tryz.prog.cellsOf 3 = 1 := by kernel_rfl
    have k57 : Tryz.prog.cellsOf 118 = 2 := by kernel_rfl
    simp only [k3, k57, List.drop_zero, List.drop_succ_cons, List.take_succ_cons, List.take_zero] at h0 h1
    obtain ⟨s, rfl, ws⟩ := open_num h0
    obtain ⟨v0, v1, z0, z1, k, e, r0, r1⟩ := open_cells2 Tryz.underlying118 (by kernel_rfl) (by kernel_rfl) h1
    obtain ⟨c, rfl, wc⟩ := open_num r0
    obtain ⟨a, m, cap, C, rfl, hC, hm⟩ := open_row r1
    simp only [List.cons.injEq, and_true] at e
    obtain ⟨rfl, rfl⟩ := e
    exact ⟨⟨s, c, ⟨a, m, cap, C⟩⟩, rfl, ⟨hC, hm⟩, trivial⟩

set_option maxHeartbeats 800000 in
theorem szD_ex (s c : Int) (ta : Option Addr) (tn tc : Nat) (tx : List Int) (l : Int) (w : World) (h : DM w ⟨s, c, ⟨ta, tn, tc, tx⟩⟩) (h0 : 0 ≤ l) (hl : l ≤ 1048576) :
    Calls Tryz.prog 87 #[doV s c ta tn tc, .int .i64 l] w fun e w' => ∃ r, e = .returned (.int .i64 r) ∧ -1 ≤ r ∧ r ≤ 1048576 ∧ (0 ≤ r → DZ ⟨s, c, ⟨ta, tn, tc, tx⟩⟩) ∧ Below w.heap.size w w' := by
  have hn : tn ≤ maxLen := h.1.2
  clear h
  have g1 := leftOf_ge l tn
  have B0 := (Below.refl w.heap.size w).alloc (Nat.le_refl _) (.cells #[.int .i64 s, .int .i64 c, .slice ta tn tc] 120)
  obtain ⟨r, hr⟩ : ∃ r, r = leftOf l tn := ⟨_, rfl⟩
  have HR : Hid _ := hr
  rw [← hr] at g1
  clear hr
  go_enter Tryz.func87, Tryz.ntmps87
  go_wp2_with fail
  refine (szR_any _ _ _ _ _ _ hn h0 hl).mono ?_
  rintro e w1 ⟨rfl, b1⟩
  rw [← HR.out]
  have B1 := B0.trans (b1.mono B0.size)
  by_cases h : r < 0
  · go_wp2
    go_ret
    exact ⟨-1, rfl, by omega, by omega, fun h => by omega, B1⟩
  · have h' : 0 ≤ r := by omega
    have z := leftOf_le (l := l) (n := tn) (by rw [← HR.out]; exact h')
    rw [← HR.out] at z
    have HZ : Hid (tn ≤ 1048576) := by show _ ≤ _; omega
    have hr2 : r ≤ 1048576 := by omega
    clear z
    go_wp2
    go_ret
    exact ⟨r, rfl, by omega, hr2, fun _ => ⟨HZ.out, trivial⟩, B1⟩

set_option maxHeartbeats 1600000 in
theorem toD_ex (s c : Int) (ta : Option Addr) (tn tc : Nat) (tx : List Int) (w : World) (h : DG w ⟨s, c, ⟨ta, tn, tc, tx⟩⟩) :
    Calls Tryz.prog 104 #[doV s c ta tn tc] w fun e w' => ∃ Pt Qt, e = .returned (doV s c Pt tn tn) ∧ Below w.heap.size w w' ∧ DK w' w.heap.size ⟨s, c, ⟨Pt, tn, tn, Qt⟩⟩ ∧ copiesD ⟨s, c, ⟨ta, tn, tc, tx⟩⟩ ⟨s, c, ⟨Pt, tn, tn, Qt⟩⟩ := by
  have hC : Ints w ta tn tx := h.1.1
  have hn : tn ≤ 1048576 := h.1.2
  clear h
  have HL : Hid (tx.length = tn) := hC.1
  go_enter Tryz.func104, Tryz.ntmps104
  go_wp2_with fail
  refine (toR_any _ _ _ _ tx _ (((hC.alloc _).alloc _).alloc _) hn).mono ?_
  rintro e w1 ⟨B1, rfl, b1, lB, k1⟩
  have p1 := ((Cel.new (w.alloc _) _ _).alloc _).below b1
  have p2 := (Cel.new ((w.alloc _).alloc _) _ _).below b1
  rw [World.size_alloc] at p1
  rw [World.size_alloc, World.size_alloc] at p2
  rw [World.size_alloc, World.size_alloc, World.size_alloc] at lB
  have s1 := k1.lt
  have BB : Below w.heap.size w w1 := ((((Below.refl _ _).alloc (Nat.le_refl _) _).alloc (by simp) _).alloc (by simp; omega) _).trans (b1.mono (by simp; omega))
  clear b1
  have g0 := p2.cell 0
  have g1 := p2.cell 1
  have g2 := p2.cell 2
  have f1 := p2.free 1
  have f2 := p2.free 2
  have e0 := p1.cell 0
  have e1 := p1.cell 1
  have e2 := p1.cell 2
  have h0 := p1.free 0
  have h1 := p1.free 1
  have h2 := p1.free 2
  simp only [List.getElem?_cons_zero, List.getElem?_cons_succ] at g0 g1 g2 e0 e1 e2
  have hlt1 : w.heap.size + 1 < w1.heap.size := by omega
  have hlt2 : w.heap.size + 1 + 1 < w1.heap.size := by omega
  go_wp2
  refine bodyPost_ret (v := doV s c (some ⟨B1, 0, none⟩) tn tn) (by simp [results, Tryz.results104, go_sem, e0, e1, e2]) rfl ⟨_, tx, rfl, ?_, ⟨⟨B1, rfl, by show _ ≤ _; omega, ?_, HL.out, hn⟩, trivial⟩, rfl, rfl, ⟨rfl, rfl⟩, trivial⟩
  · exact ((((BB.setCell (by simp only []; omega) _).setCell (by simp only []; omega) _).setCell (by simp only []; omega) _).setCell (by simp only []; omega) _).setCell (by simp only []; omega) _
  · exact ((((k1.setOther (by omega) _ _).setOther (by omega) _ _).setOther (by omega) _ _).setOther (by omega) _ _).setOther (by omega) _ _

set_option maxHeartbeats 1600000 in
theorem eqD_ex (s c : Int) (ta : Option Addr) (tn tc : Nat) (tx : List Int) (s' c' : Int) (ta' : Option Addr) (tn' tc' : Nat) (tx' : List Int) (w : World) (h : DG w ⟨s, c, ⟨ta, tn, tc, tx⟩⟩) (h' : DG w ⟨s', c', ⟨ta', tn', tc', tx'⟩⟩) (hs : sameD ⟨s, c, ⟨ta, tn, tc, tx⟩⟩ ⟨s', c', ⟨ta', tn', tc', tx'⟩⟩) :
    Calls Tryz.prog 115 #[doV s c ta tn tc, doV s' c' ta' tn' tc'] w fun e w' => e = .returned (.bool true) ∧ Below w.heap.size w w' := by
  obtain ⟨e1, e2, e3, -⟩ := hs
  have e1' : s = s' := e1
  have e2' : c = c' := e2
  have e3' : tx = tx' := e3
  have hI : Ints w ta tn tx := h.1.1
  have hI' : Ints w ta' tn' tx' := h'.1.1
  have hz : tn ≤ 1048576 := h.1.2
  have en : tn = tn' := by rw [← hI.1, ← hI'.1, e3']
  clear h h' e1 e2 e3
  subst e1' e2' e3' en
  have hc : (s != s) = false := by simp
  have x0 := (Cel.new w [.int .i64 s, .int .i64 c, .slice ta tn tc] 144).alloc (.cells #[.int .i64 s, .int .i64 c, .slice ta' tn tc'] 144)
  have y0 := Cel.new (w.alloc (.cells #[.int .i64 s, .int .i64 c, .slice ta tn tc] 144)) [.int .i64 s, .int .i64 c, .slice ta' tn tc'] 144
  rw [World.size_alloc] at y0
  obtain ⟨a0, a1, a2, -, -, -⟩ := x0.trio
  obtain ⟨b0, b1, b2, -, -, -⟩ := y0.trio
  go_enter Tryz.func115, Tryz.ntmps115
  go_wp2_with fail
  refine (eqR_same _ _ _ _ _ _ tx _ ((hI.alloc _).alloc _) ((hI'.alloc _).alloc _) hz).mono ?_
  rintro e w1 ⟨rfl, bb⟩
  go_wp2
  go_ret
  exact ⟨rfl, (((Below.refl _ _).alloc (Nat.le_refl _) _).alloc (by simp) _).trans (bb.mono (by simp; omega))⟩

end Go.Proofs.YtacjjhfbnbmnlaaGreatDoor
