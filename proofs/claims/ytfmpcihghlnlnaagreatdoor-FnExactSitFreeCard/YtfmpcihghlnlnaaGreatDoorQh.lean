/-
  Sites as arguments: the size, a copy, one held against another. Lengths at most 1048576 where one is copied.
-/
import Derived.Test.YtfmpcihghlnlnaaGreatDoorQd
namespace Go.Proofs.YtfmpcihghlnlnaaGreatDoor
open Go.ChangeShapes Go.WideShapes Go.ChangeAt Go.RowKit Go.Joins Go.Deep
open World renaming size_alloc → qA
set_option linter.unusedVariables false
set_option maxRecDepth 100000
set_option maxHeartbeats 25600000
variable {W w : World} {ba : Option Addr} {bc bn : Nat} {f u : Bool} {r : Int} {t : TypeId} {v : Value}
abbrev siV (u : Bool) (f : Bool) (r : Int) (ba : Option Addr) (bn bc : Nat) (aa : Option Addr) (an ac : Nat) (da : Option Addr) (dn dc : Nat) : Value := .agg #[.bool u, .bool f, .int .i64 r, .slice ba bn bc, .slice aa an ac, .slice da dn dc]
structure StAt (w : World) (ba : Option Addr) (bn : Nat) (bx : List Int) (aa : Option Addr) (an : Nat) (ax : List Int) (da : Option Addr) (dn : Nat) (dx : List DV) : Prop where
 b : Ints w ba bn bx
 zb : bn <= 1048576
 a : Ints w aa an ax
 za : an <= 1048576
 d : DSG w da dx
 ld : dx.length = dn
 zd : dn <= 1048576
theorem StAt.below {w' : World} {bx : List Int} {aa : Option Addr} {an : Nat} {ax : List Int} {da : Option Addr} {dn : Nat} {dx : List DV} (h : StAt w ba bn bx aa an ax da dn dx) (hb : Below w.heap.size w w') : StAt w' ba bn bx aa an ax da dn dx :=
 ⟨h.b.below hb, h.zb, h.a.below hb, h.za, h.d.below hb, h.ld, h.zd⟩
theorem StAt.alloc {bx : List Int} {aa : Option Addr} {an : Nat} {ax : List Int} {da : Option Addr} {dn : Nat} {dx : List DV} (h : StAt w ba bn bx aa an ax da dn dx) (o : Obj) : StAt (w.alloc o) ba bn bx aa an ax da dn dx := h.below (bal)
theorem Cel.sixP {B : Nat} {x y z u t' : Value} (h : Cel w B [x, y, z, u, v, t'] t) : w.cell? ⟨B, 0, none⟩ = some x /\ w.cell? ⟨B, 1, none⟩ = some y /\ w.cell? ⟨B, 2, none⟩ = some z /\ w.cell? ⟨B, 3, none⟩ = some u /\ w.cell? ⟨B, 4, none⟩ = some v /\ w.cell? ⟨B, 5, none⟩ = some t' := ⟨h.cell 0, h.cell 1, h.cell 2, h.cell 3, h.cell 4, h.cell 5⟩
theorem array6 {α : Type} {cs : Array α} (h : cs.size = 6) : ∃ c0 c1 c2 c3 c4 c5, cs = #[c0, c1, c2, c3, c4, c5] := by
 obtain ⟨l⟩ := cs
 match l, h with
 | [c0, c1, c2, c3, c4, c5], _ => exact ⟨c0, c1, c2, c3, c4, c5, rfl⟩
theorem trod_struct6 {H : Type} {enc : TypeId × Value -> H} {f0 f1 f2 f3 f4 f5 : Field} {fuel : Nat} {cs : List Value} {x : DataW H × List MemPlace} (ht : Tryz.prog.underlying t = some (.struct #[f0, f1, f2, f3, f4, f5])) (h : DataW.trod enc Tryz.prog W 0 (fun _ => true) true fuel t cs = some x) :
  ∃ y0 y1 y2 y3 y4 y5 n, DataW.trod enc Tryz.prog W 0 (fun _ => true) true n f0.type ((cs.drop f0.offset).take (Tryz.prog.cellsOf f0.type)) = some y0 /\ DataW.trod enc Tryz.prog W 0 (fun _ => true) true n f1.type ((cs.drop f1.offset).take (Tryz.prog.cellsOf f1.type)) = some y1 /\ DataW.trod enc Tryz.prog W 0 (fun _ => true) true n f2.type ((cs.drop f2.offset).take (Tryz.prog.cellsOf f2.type)) = some y2 /\
   DataW.trod enc Tryz.prog W 0 (fun _ => true) true n f3.type ((cs.drop f3.offset).take (Tryz.prog.cellsOf f3.type)) = some y3 /\ DataW.trod enc Tryz.prog W 0 (fun _ => true) true n f4.type ((cs.drop f4.offset).take (Tryz.prog.cellsOf f4.type)) = some y4 /\ DataW.trod enc Tryz.prog W 0 (fun _ => true) true n f5.type ((cs.drop f5.offset).take (Tryz.prog.cellsOf f5.type)) = some y5 := by
 obtain ⟨xs, n, _, rfl, hl, hlen, hf⟩ := DataW.trod_struct ht h
 match xs, hlen with
 | [y0, y1, y2, y3, y4, y5], _ => exact ⟨y0, y1, y2, y3, y4, y5, n, by simpa using hf 0 f0 rfl, by simpa using hf 1 f1 rfl, by simpa using hf 2 f2 rfl, by simpa using hf 3 f3 rfl, by simpa using hf 4 f4 rfl, by simpa using hf 5 f5 rfl⟩
theorem open_agg6 {H : Type} {enc : TypeId × Value -> H} {r : Reach} {b0 : Nat} {f0 f1 f2 f3 f4 f5 : Field} {d : DataW H} {p : List MemPlace} (hs : Tryz.prog.underlying t = some (.struct #[f0, f1, f2, f3, f4, f5])) (hone : oneCellFields Tryz.prog #[f0, f1, f2, f3, f4, f5] = true) (hC : Tryz.prog.cellsOf t = 6)
  (hv : Value.okWide Tryz.prog W r b0 t v) (h : DataW.Trod enc Tryz.prog W 0 (fun _ => true) true t v d p) :
  ∃ (v0 v1 v2 v3 v4 v5 : Value) (y0 y1 y2 y3 y4 y5 : DataW H × List MemPlace) (n : Nat), v = .agg #[v0, v1, v2, v3, v4, v5] /\
   DataW.trod enc Tryz.prog W 0 (fun _ => true) true n f0.type [v0] = some y0 /\ DataW.trod enc Tryz.prog W 0 (fun _ => true) true n f1.type [v1] = some y1 /\ DataW.trod enc Tryz.prog W 0 (fun _ => true) true n f2.type [v2] = some y2 /\ DataW.trod enc Tryz.prog W 0 (fun _ => true) true n f3.type [v3] = some y3 /\ DataW.trod enc Tryz.prog W 0 (fun _ => true) true n f4.type [v4] = some y4 /\ DataW.trod enc Tryz.prog W 0 (fun _ => true) true n f5.type [v5] = some y5 := by
 obtain ⟨cs, rfl, hsz⟩ := okWide_struct hs hv;obtain ⟨c0, c1, c2, c3, c4, c5, rfl⟩ := array6 (hsz.trans hC);obtain ⟨fuel, hf⟩ := h;obtain ⟨y0, y1, y2, y3, y4, y5, n, h0, h1, h2, h3, h4, h5⟩ := trod_struct6 hs hf;obtain ⟨o0, k0⟩ := hone_of hone 0 f0 rfl;obtain ⟨o1, k1⟩ := hone_of hone 1 f1 rfl;obtain ⟨o2, k2⟩ := hone_of hone 2 f2 rfl;obtain ⟨o3, k3⟩ := hone_of hone 3 f3 rfl;obtain ⟨o4, k4⟩ := hone_of hone 4 f4 rfl;obtain ⟨o5, k5⟩ := hone_of hone 5 f5 rfl
 exact ⟨c0, c1, c2, c3, c4, c5, y0, y1, y2, y3, y4, y5, n, rfl, by simpa [Value.cells, o0, k0] using h0, by simpa [Value.cells, o1, k1] using h1, by simpa [Value.cells, o2, k2] using h2, by simpa [Value.cells, o3, k3] using h3, by simpa [Value.cells, o4, k4] using h4, by simpa [Value.cells, o5, k5] using h5⟩
theorem open_site {H : Type} {enc : TypeId × Value -> H} {r0 : Reach} {b0 : Nat} {d0 : DataW H} {p : List MemPlace}
  (hv : Value.okWide Tryz.prog W r0 b0 28 v) (h : DataW.Trod enc Tryz.prog W 0 (fun _ => true) true 28 v d0 p) :
  ∃ u f r ba bn bc bx aa an ac ax da dn dc dx, v = siV u f r ba bn bc aa an ac da dn dc /\ (Lit.int .i64 r).wf = true /\ Ints W ba bn bx /\ bn <= maxLen /\ Ints W aa an ax /\ an <= maxLen /\ dx.length = dn /\ DSM W da dx /\ dn <= maxLen := by
 obtain ⟨v0, v1, v2, v3, v4, v5, y0, y1, y2, y3, y4, y5, k, rfl, h0, h1, h2, h3, h4, h5⟩ := open_agg6 Tryz.underlying28 (by kernel_rfl) (by kernel_rfl) hv h;obtain ⟨u, e0, _⟩ := DataW.trod_bool Tryz.underlying4 h0;obtain rfl : v0 = .bool u := by simpa using e0
 obtain ⟨f, e1, _⟩ := DataW.trod_bool Tryz.underlying4 h1;obtain rfl : v1 = .bool f := by simpa using e1
 obtain ⟨r, rfl, w2⟩ := open_num h2;obtain ⟨ba, bn, bc, bx, rfl, i3, n3⟩ := open_row h3;obtain ⟨aa, an, ac, ax, rfl, i4, n4⟩ := open_row h4;obtain ⟨da, dn, dc, dx, rfl, l5, m5, n5⟩ := open_DS h5
 exact ⟨u, f, r, ba, bn, bc, bx, aa, an, ac, ax, da, dn, dc, dx, rfl, w2, i3, n3, i4, n4, l5, m5, n5⟩
theorem szSt_any (bx : List Int) {aa : Option Addr} {an ac : Nat} (ax : List Int) {da : Option Addr} {dn dc : Nat} (dx : List DV) {l : Int} {w : World} (hb : Ints w ba bn bx) (mb : bn <= maxLen) (ha : Ints w aa an ax) (ma : an <= maxLen) (ld : dx.length = dn) (hd : DSM w da dx) (md : dn <= maxLen) (h0 : 0 <= l) (hl : l <= 1048576) :
  Calls Tryz.prog 5 #[siV u f r ba bn bc aa an ac da dn dc, .int .i64 l] w fun e w' => ∃ r', e = .returned (.int .i64 r') /\ -1 <= r' /\ r' <= 1048576 /\ (0 <= r' -> StAt w ba bn bx aa an ax da dn dx) /\ Below w.heap.size w w' := by
 have n0 := BP.new w [.bool u, .bool f, .int .i64 r, .slice ba bn bc, .slice aa an ac, .slice da dn dc] 28;have Ld : Hid (dx.length = dn) := ld;clear ld
 go_enter Tryz.func5, Tryz.ntmps5
 go_wp2_with fail
 refine (szI_ex bx ⟨hb.below n0.b, mb⟩ h0 hl).mono ?_;rintro e w1 ⟨r1, rfl, p1, q1, s1, b1⟩;have n1 := n0.below b1;obtain ⟨c0, c1, c2, c3, c4, c5⟩ := n1.p.sixP
 by_cases g1 : r1 < 0
 ·go_wp2
  go_ret
  exact ⟨-1, rfl, by omega, by omega, fun h => by omega, n1.b⟩
 have g1' : 0 <= r1 := by omega
 have S1 : Hid _ := s1 g1';clear s1 g1 n0 b1
 go_wp2_with fail
 refine (szI_ex ax ⟨ha.below n1.b, ma⟩ g1' q1).mono ?_;rintro e w2 ⟨r2, rfl, p2, q2, s2, b2⟩;have n2 := n1.below b2;clear c0 c1 c2 c3 c4 c5;obtain ⟨c0, c1, c2, c3, c4, c5⟩ := n2.p.sixP
 by_cases g2 : r2 < 0
 ·go_wp2
  go_ret
  exact ⟨-1, rfl, by omega, by omega, fun h => by omega, n2.b⟩
 have g2' : 0 <= r2 := by omega
 have S2 : Hid _ := s2 g2';clear s2 g2 n1 b2
 go_wp2_with fail
 refine (szDS_any dx Ld.out (hd.below n2.b) md g2' q2).mono ?_;rintro e w3 ⟨r3, rfl, p3, q3, s3, b3⟩;have n3 := n2.below b3;clear c0 c1 c2 c3 c4 c5;obtain ⟨c0, c1, c2, c3, c4, c5⟩ := n3.p.sixP
 by_cases g3 : r3 < 0
 ·go_wp2
  go_ret
  exact ⟨-1, rfl, by omega, by omega, fun h => by omega, n3.b⟩
 have g3' : 0 <= r3 := by omega
 have S3 : Hid _ := s3 g3';clear s3 g3 n2 b3
 go_wp2
 go_ret
 exact ⟨r3, rfl, by omega, q3, fun _ => ⟨hb, S1.out, ha, S2.out, hd.g S3.out.2, Ld.out, S3.out.1⟩, n3.b⟩
theorem toSt_any (bx : List Int) {aa : Option Addr} {an ac : Nat} (ax : List Int) {da : Option Addr} {dn dc : Nat} (dx : List DV) {w : World} (h : StAt w ba bn bx aa an ax da dn dx) :
  Calls Tryz.prog 9 #[siV u f r ba bn bc aa an ac da dn dc] w fun e w' => ∃ Bb Ba Bd yd, e = .returned (siV u f r (some ⟨Bb, 0, none⟩) bn bn (some ⟨Ba, 0, none⟩) an an (some ⟨Bd, 0, none⟩) dn dn) /\ yd.length = dn /\ copiesDS dx yd /\ Below w.heap.size w w' /\ Blk w' Bb bx /\ Blk w' Ba ax /\ MD w' Bd dn yd /\ w.heap.size <= Bb /\ Bb < Ba /\ Ba < Bd := by
 have zb := h.zb;have za := h.za;have zd := h.zd;have Ld : Hid (dx.length = dn) := h.ld
 go_enter Tryz.func9, Tryz.ntmps9
 go_wp2_with fail
 refine (to_any bx (((h.alloc _).alloc _).alloc _).b zb).mono ?_;rintro e w1 ⟨rfl, b1, kb⟩;have p0 := (((Cel.new w _ _).alloc _).alloc _).below b1;have pr := ((Cel.new (w.alloc _) _ _).alloc _).below b1;have px := (Cel.new ((w.alloc _).alloc _) _ _).below b1;rw [qA] at pr;rw [qA, qA] at px;rw [qA, qA, qA] at kb;have s1 := kb.lt;have B1 : Below w.heap.size w w1 := (((bal).alloc (by simp) _).alloc (by simp; omega) _).trans (b1.mono (by simp; omega));clear b1;obtain ⟨c0, c1, c2, c3, c4, c5⟩ := p0.sixP;obtain ⟨d0, d1, d2, d3, d4, d5⟩ := px.sixP;have f0 := px.free 3
 go_wp2_with fail
 have B1s := B1.setCell (p := ⟨w.heap.size + 1 + 1, 3, none⟩) (by show w.heap.size <= w.heap.size + 1 + 1; omega) (Value.slice (some ⟨w.heap.size + 1 + 1 + 1, 0, none⟩) bn bn);refine (to_any ax (h.below B1s).a za).mono ?_;rintro e w2 ⟨rfl, b2, ka⟩;clear c0 c1 c2 c3 c4 c5 d0 d1 d2 d3 d4 d5 f0;replace p0 := (p0.so).below b2;replace pr := (pr.so).below b2;replace px := (px.set _ _).below b2;replace kb := (kb.setOther (B' := w.heap.size + 1 + 1) (by omega) 3 _).below b2;have B2 := btr B1s b2;rw [size_setCell] at ka;have s2 := ka.lt;clear b2 B1 B1s;simp only [List.set_cons_zero, List.set_cons_succ] at px;obtain ⟨c0, c1, c2, c3, c4, c5⟩ := p0.sixP;obtain ⟨d0, d1, d2, d3, d4, d5⟩ := px.sixP;have f0 := px.free 4
 go_wp2_with fail
 have B2s := B2.setCell (p := ⟨w.heap.size + 1 + 1, 4, none⟩) (by show w.heap.size <= w.heap.size + 1 + 1; omega) (Value.slice (some ⟨w1.heap.size, 0, none⟩) an an);refine (toDS_any dx Ld.out (h.below B2s).d zd).mono ?_;rintro e w3 ⟨yd, rfl, lgd, cpd, b3, kd⟩;have LGd : Hid _ := lgd;have CPd : Hid _ := cpd;clear lgd cpd;clear c0 c1 c2 c3 c4 c5 d0 d1 d2 d3 d4 d5 f0;replace p0 := (p0.so).below b3;replace pr := (pr.so).below b3;replace px := (px.set _ _).below b3;replace kb := (kb.setOther (B' := w.heap.size + 1 + 1) (by omega) 4 _).below b3;replace ka := (ka.setOther (B' := w.heap.size + 1 + 1) (by omega) 4 _).below b3;have B3 := btr B2s b3;rw [size_setCell] at kd;have s3 := kd.lt;clear b3 B2 B2s;simp only [List.set_cons_zero, List.set_cons_succ] at px;obtain ⟨d0, d1, d2, d3, d4, d5⟩ := px.sixP;obtain ⟨e0, e1, e2, e3, e4, e5⟩ := pr.sixP;have f0 := px.free 5;have g0 := pr.free 0;have g1 := pr.free 1;have g2 := pr.free 2;have g3 := pr.free 3;have g4 := pr.free 4;have g5 := pr.free 5;have hlt1 : w.heap.size + 1 < w3.heap.size := by omega
 have hlt2 : w.heap.size + 1 + 1 < w3.heap.size := by omega
 go_wp2
 refine bodyPost_ret (v := siV u f r (some ⟨w.heap.size + 1 + 1 + 1, 0, none⟩) bn bn (some ⟨w1.heap.size, 0, none⟩) an an (some ⟨w2.heap.size, 0, none⟩) dn dn) (by simp [results, Tryz.results9, go_sem, e0, e1, e2, e3, e4, e5]) rfl ⟨_, _, _, yd, rfl, LGd.out, CPd.out, ?_, ?_, ?_, ?_, by omega, by omega, by omega⟩
 ·exact (((((((B3).setCell (by simp only []; omega) _).setCell (by simp only []; omega) _).setCell (by simp only []; omega) _).setCell (by simp only []; omega) _).setCell (by simp only []; omega) _).setCell (by simp only []; omega) _).setCell (by simp only []; omega) _
 ·exact (((((((kb).so).so).so).so).so).so).so
 ·exact (((((((ka).so).so).so).so).so).so).so
 exact (((((((kd).setLow (by omega) _ _).setLow (by omega) _ _).setLow (by omega) _ _).setLow (by omega) _ _).setLow (by omega) _ _).setLow (by omega) _ _).setLow (by omega) _ _
theorem eqSt_same (bx : List Int) {aa : Option Addr} {an ac : Nat} (ax : List Int) {da : Option Addr} {dn dc : Nat} (dx : List DV) {ba' : Option Addr} {bc' : Nat} {aa' : Option Addr} {ac' : Nat} {da' : Option Addr} {dc' : Nat} (dx' : List DV) {w : World} (h : StAt w ba bn bx aa an ax da dn dx) (h' : StAt w ba' bn bx aa' an ax da' dn dx') (Ed : ∀ i, i < dn -> sameD (dx[i]?.getD noD) (dx'[i]?.getD noD)) :
  Calls Tryz.prog 13 #[siV u f r ba bn bc aa an ac da dn dc, siV u f r ba' bn bc' aa' an ac' da' dn dc'] w fun e w' => e = .returned (.bool true) /\ Below w.heap.size w w' := by
 have HBb := eqB_refl bx;have HBa := eqB_refl ax;have HEd : Hid _ := Ed;clear Ed;have hu : (u != u) = false := by cases u <;> rfl
 have hf : (f != f) = false := by cases f <;> rfl
 have hr : (r != r) = false := by simp
 have n0 := (BP.new w [.bool u, .bool f, .int .i64 r, .slice ba bn bc, .slice aa an ac, .slice da dn dc] 41).alloc (.cells #[.bool u, .bool f, .int .i64 r, .slice ba' bn bc', .slice aa' an ac', .slice da' dn dc'] 41);have y0 := Cel.new (w.alloc (.cells #[.bool u, .bool f, .int .i64 r, .slice ba bn bc, .slice aa an ac, .slice da dn dc] 41)) [.bool u, .bool f, .int .i64 r, .slice ba' bn bc', .slice aa' an ac', .slice da' dn dc'] 41;rw [qA] at y0
 go_enter Tryz.func13, Tryz.ntmps13
 go_wp2_with fail
 refine (eq_any bx bx (h.below n0.b).b (h'.below n0.b).b h.zb h.zb).mono ?_;rintro e w1 ⟨rfl, b1⟩;rw [HBb];have n1 := n0.below b1;have y1 := y0.below b1;clear n0 y0 b1;obtain ⟨c0, c1, c2, c3, c4, c5⟩ := n1.p.sixP;obtain ⟨d0, d1, d2, d3, d4, d5⟩ := y1.sixP
 go_wp2_with fail
 refine (eq_any ax ax (h.below n1.b).a (h'.below n1.b).a h.za h.za).mono ?_;rintro e w2 ⟨rfl, b2⟩;rw [HBa];have n2 := n1.below b2;have y2 := y1.below b2;clear n1 y1 b2 c0 c1 c2 c3 c4 c5 d0 d1 d2 d3 d4 d5;obtain ⟨c0, c1, c2, c3, c4, c5⟩ := n2.p.sixP;obtain ⟨d0, d1, d2, d3, d4, d5⟩ := y2.sixP
 go_wp2_with fail
 refine (eqDS_same dx dx' h.ld h'.ld (h.below n2.b).d (h'.below n2.b).d h.zd HEd.out).mono ?_;rintro e w3 ⟨rfl, b3⟩;have n3 := n2.below b3;have y3 := y2.below b3;clear n2 y2 b3 c0 c1 c2 c3 c4 c5 d0 d1 d2 d3 d4 d5
 go_wp2
 go_ret
 exact ⟨rfl, n3.b⟩
end Go.Proofs.YtfmpcihghlnlnaaGreatDoor
