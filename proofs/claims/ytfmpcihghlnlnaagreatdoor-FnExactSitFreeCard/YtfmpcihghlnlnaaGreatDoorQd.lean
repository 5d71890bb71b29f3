/-
  Lemmas that the claim's last text rests on.
-/
import Derived.Lib.ItoaNum
import Derived.Lib.ItoaLen
import Derived.Laws.IdiomStrings
import Derived.Test.YtfmpcihghlnlnaaGreatDoorQc
namespace Go.Proofs.YtfmpcihghlnlnaaGreatDoor
open Go.ChangeShapes Go.WideShapes Go.ChangeAt Go.RowKit Go.Joins Go.Deep
open World renaming size_alloc → qA
open List renaming getElem?_set_ne → qB, length_append → qC, getElem?_append_right → qD, getElem?_append_left → qE, getElem?_set_self → qF, length_cons → qG, length_nil → qH
open Nat renaming le_refl → qI, zero_le → qJ
set_option linter.unusedVariables false
set_option maxRecDepth 100000
set_option maxHeartbeats 25600000
variable {B N cap fuel k lo o tc tn : Nat} {W w w' : World} {ad ta : Option Addr} {c s : Int}
structure DV where
 q : Int
 c : Int
 t : IV
def noD : DV := ⟨0, 0, noI⟩
def DV.cs (f : DV) : List Value := [.int .i64 f.q, .int .i64 f.c, IV.v f.t]
def DM (w : World) (f : DV) : Prop := IM w f.t /\ True
def DG (w : World) (f : DV) : Prop := IG w f.t /\ True
def DZ (f : DV) : Prop := IS f.t /\ True
def DK (w : World) (lo : Nat) (f : DV) : Prop := IK w lo f.t /\ True
def copiesD (f g : DV) : Prop := g.q = f.q /\ g.c = f.c /\ copiesI f.t g.t /\ True
def sameD (f g : DV) : Prop := f.q = g.q /\ f.c = g.c /\ sameI f.t g.t /\ True
theorem DM.below {f : DV} (h : DM w f) (hb : Below w.heap.size w w') : DM w' f := ⟨h.1.below hb, trivial⟩
theorem DG.below {f : DV} (h : DG w f) (hb : Below w.heap.size w w') : DG w' f := ⟨h.1.below hb, trivial⟩
theorem DM.g {f : DV} (h : DM w f) (hs : DZ f) : DG w f := ⟨(h.1).g hs.1, trivial⟩
theorem DK.below {f : DV} (h : DK w lo f) (hb : Below w.heap.size w w') : DK w' lo f := ⟨h.1.below hb, trivial⟩
theorem DK.touch {S : Nat -> Prop} {f : DV} (h : DK w lo f) (t : Touch S w w') (hs : ∀ k, S k -> k < lo) : DK w' lo f := ⟨h.1.touch t hs, trivial⟩
theorem DK.mono {lo' : Nat} {f : DV} (h : DK w lo f) (hl : lo' <= lo) : DK w lo' f := ⟨h.1.mono hl, trivial⟩
theorem DK.g {f : DV} (h : DK w lo f) : DG w f := ⟨h.1.g, trivial⟩
abbrev doV (s c : Int) (a : Option Addr) (n cap : Nat) : Value := .agg #[.int .i64 s, .int .i64 c, .slice a n cap]
theorem open_cells2 {H : Type} {enc : TypeId × Value -> H} {t : TypeId} {f0 f1 : Field} {cs : List Value} {x : DataW H × List MemPlace} (hs : Tryz.prog.underlying t = some (.struct #[f0, f1])) (hone : oneCellFields Tryz.prog #[f0, f1] = true) (hC : Tryz.prog.cellsOf t = 2)
  (hf : DataW.trod enc Tryz.prog W 0 (fun _ => true) true fuel t cs = some x) :
  ∃ v0 v1 y0 y1 n, cs = [v0, v1] /\ DataW.trod enc Tryz.prog W 0 (fun _ => true) true n f0.type [v0] = some y0 /\ DataW.trod enc Tryz.prog W 0 (fun _ => true) true n f1.type [v1] = some y1 := by
 obtain ⟨y0, y1, n, _, hl, h0, h1⟩ := trod_struct2 hs hf;obtain ⟨o0, k0⟩ := hone_of hone 0 f0 rfl;obtain ⟨o1, k1⟩ := hone_of hone 1 f1 rfl;have hl' : cs.length = 2 := hl.trans hC
 match cs, hl' with
 | [c0, c1], _ => exact ⟨c0, c1, y0, y1, n, rfl, by simpa [o0, k0] using h0, by simpa [o1, k1] using h1⟩
theorem open_DC {H : Type} {enc : TypeId × Value -> H} {cs : List Value} {x : DataW H × List MemPlace}
  (hf : DataW.trod enc Tryz.prog W 0 (fun _ => true) true fuel 73 cs = some x) :
  ∃ f : DV, cs = f.cs /\ DM W f := by
 obtain ⟨y0, y1, n, _, hl, h0, h1⟩ := trod_struct2 Tryz.underlying73 hf;have hC : Tryz.prog.cellsOf 73 = 3 := by kernel_rfl
 have hl' : cs.length = 3 := hl.trans hC
 match cs, hl' with
 | [c0, c1, c2], _ =>
  have k3 : Tryz.prog.cellsOf 3 = 1 := by kernel_rfl
  have k57 : Tryz.prog.cellsOf 71 = 2 := by kernel_rfl
  simp only [k3, k57, List.drop_zero, List.drop_succ_cons, List.take_succ_cons, List.take_zero] at h0 h1;obtain ⟨s, rfl, ws⟩ := open_num h0;obtain ⟨v0, v1, z0, z1, k, e, r0, r1⟩ := open_cells2 Tryz.underlying71 (by kernel_rfl) (by kernel_rfl) h1;obtain ⟨c, rfl, wc⟩ := open_num r0;obtain ⟨a, m, cap, C, rfl, hC, hm⟩ := open_row r1;simp only [List.cons.injEq, and_true] at e;obtain ⟨rfl, rfl⟩ := e
  exact ⟨⟨s, c, ⟨a, m, cap, C⟩⟩, rfl, ⟨hC, hm⟩, trivial⟩
theorem szD_ex (tx : List Int) {l : Int} {w : World} (h : DM w ⟨s, c, ⟨ta, tn, tc, tx⟩⟩) (h0 : 0 <= l) (hl : l <= 1048576) :
  Calls Tryz.prog 32 #[doV s c ta tn tc, .int .i64 l] w fun e w' => ∃ r, e = .returned (.int .i64 r) /\ -1 <= r /\ r <= 1048576 /\ (0 <= r -> DZ ⟨s, c, ⟨ta, tn, tc, tx⟩⟩) /\ Below w.heap.size w w' := by
 have hn : tn <= maxLen := h.1.2;clear h;have g1 := leftOf_ge l tn;have B0 := (Below.refl w.heap.size w).alloc (qI _) (.cells #[.int .i64 s, .int .i64 c, .slice ta tn tc] 73);obtain ⟨r, hr⟩ : ∃ r, r = leftOf l tn := ⟨_, rfl⟩
 have HR : Hid _ := hr;rw [<- hr] at g1;clear hr
 go_enter Tryz.func32, Tryz.ntmps32
 go_wp2_with fail
 refine (szR_any hn h0 hl).mono ?_;rintro e w1 ⟨rfl, b1⟩;rw [<- HR.out];have B1 := btr B0 b1
 by_cases h : r < 0
 ·go_wp2
  go_ret
  exact ⟨-1, rfl, by omega, by omega, fun h => by omega, B1⟩
 have h' : 0 <= r := by omega
 have z := leftOf_le (l := l) (n := tn) (by rw [<- HR.out]; exact h');rw [<- HR.out] at z;have HZ : Hid (tn <= 1048576) := by show _ <= _; omega
 have hr2 : r <= 1048576 := by omega
 clear z
 go_wp2
 go_ret
 exact ⟨r, rfl, by omega, hr2, fun _ => ⟨HZ.out, trivial⟩, B1⟩
theorem toD_ex (tx : List Int) {w : World} (h : DG w ⟨s, c, ⟨ta, tn, tc, tx⟩⟩) :
  Calls Tryz.prog 44 #[doV s c ta tn tc] w fun e w' => ∃ Pt Qt, e = .returned (doV s c Pt tn tn) /\ Below w.heap.size w w' /\ DK w' w.heap.size ⟨s, c, ⟨Pt, tn, tn, Qt⟩⟩ /\ copiesD ⟨s, c, ⟨ta, tn, tc, tx⟩⟩ ⟨s, c, ⟨Pt, tn, tn, Qt⟩⟩ := by
 have hC : Ints w ta tn tx := h.1.1;have hn : tn <= 1048576 := h.1.2;clear h;have HL : Hid (tx.length = tn) := hC.1
 go_enter Tryz.func44, Tryz.ntmps44
 go_wp2_with fail
 refine (toR_any tx (((hC.alloc _).alloc _).alloc _) hn).mono ?_;rintro e w1 ⟨B1, rfl, b1, lB, k1⟩;have p1 := ((Cel.new (w.alloc _) _ _).alloc _).below b1;have p2 := (Cel.new ((w.alloc _).alloc _) _ _).below b1;rw [qA] at p1;rw [qA, qA] at p2;rw [qA, qA, qA] at lB;have s1 := k1.lt;have BB : Below w.heap.size w w1 := (((bal).alloc (by simp) _).alloc (by simp; omega) _).trans (b1.mono (by simp; omega));clear b1;have g0 := p2.cell 0;have g1 := p2.cell 1;have g2 := p2.cell 2;have f1 := p2.free 1;have f2 := p2.free 2;have e0 := p1.cell 0;have e1 := p1.cell 1;have e2 := p1.cell 2;have h0 := p1.free 0;have h1 := p1.free 1;have h2 := p1.free 2;simp only [List.getElem?_cons_zero, List.getElem?_cons_succ] at g0 g1 g2 e0 e1 e2;have hlt1 : w.heap.size + 1 < w1.heap.size := by omega
 have hlt2 : w.heap.size + 1 + 1 < w1.heap.size := by omega
 go_wp2
 refine bodyPost_ret (v := doV s c (some ⟨B1, 0, none⟩) tn tn) (by simp [results, Tryz.results44, go_sem, e0, e1, e2]) rfl ⟨_, tx, rfl, ?_, ⟨⟨B1, rfl, by show _ <= _; omega, ?_, HL.out, hn⟩, trivial⟩, rfl, rfl, ⟨rfl, rfl⟩, trivial⟩
 ·exact ((((BB.setCell (by simp only []; omega) _).setCell (by simp only []; omega) _).setCell (by simp only []; omega) _).setCell (by simp only []; omega) _).setCell (by simp only []; omega) _
 exact ((((k1.so).so).so).so).so
theorem eqD_ex (tx : List Int) {s' c' : Int} {ta' : Option Addr} {tn' tc' : Nat} (tx' : List Int) {w : World} (h : DG w ⟨s, c, ⟨ta, tn, tc, tx⟩⟩) (h' : DG w ⟨s', c', ⟨ta', tn', tc', tx'⟩⟩) (hs : sameD ⟨s, c, ⟨ta, tn, tc, tx⟩⟩ ⟨s', c', ⟨ta', tn', tc', tx'⟩⟩) :
  Calls Tryz.prog 53 #[doV s c ta tn tc, doV s' c' ta' tn' tc'] w fun e w' => e = .returned (.bool true) /\ Below w.heap.size w w' := by
 obtain ⟨e1, e2, e3, -⟩ := hs;have e1' : s = s' := e1;have e2' : c = c' := e2;have e3' : tx = tx' := e3;have hI : Ints w ta tn tx := h.1.1;have hI' : Ints w ta' tn' tx' := h'.1.1;have hz : tn <= 1048576 := h.1.2;have en : tn = tn' := by rw [<- hI.1, <- hI'.1, e3']
 clear h h' e1 e2 e3;subst e1' e2' e3' en;have hc : (s != s) = false := by simp
 have x0 := (Cel.new w [.int .i64 s, .int .i64 c, .slice ta tn tc] 89).alloc (.cells #[.int .i64 s, .int .i64 c, .slice ta' tn tc'] 89);have y0 := Cel.new (w.alloc (.cells #[.int .i64 s, .int .i64 c, .slice ta tn tc] 89)) [.int .i64 s, .int .i64 c, .slice ta' tn tc'] 89;rw [qA] at y0;obtain ⟨a0, a1, a2, -, -, -⟩ := x0.trio;obtain ⟨b0, b1, b2, -, -, -⟩ := y0.trio
 go_enter Tryz.func53, Tryz.ntmps53
 go_wp2_with fail
 refine (eqR_same tx ((hI.alloc _).alloc _) ((hI'.alloc _).alloc _) hz).mono ?_;rintro e w1 ⟨rfl, bb⟩
 go_wp2
 go_ret
 exact ⟨rfl, ((bal).alloc (by simp) _).trans (bb.mono (by simp; omega))⟩
def DSM (w : World) (ad : Option Addr) (fs : List DV) : Prop :=
 ∀ i, i < fs.length -> ∃ b off, ad = some ⟨b, off, none⟩ /\ (∀ r, r < 3 -> w.cell? ⟨b, off + i * 3 + r, none⟩ = (fs[i]?.getD noD).cs[r]?) /\ DM w (fs[i]?.getD noD)
theorem DSM.below {fs : List DV} (h : DSM w ad fs) (hb : Below w.heap.size w w') : DSM w' ad fs := fun i hi => by
 obtain ⟨b, off, e, hc, hr⟩ := h i hi;have hl : b < w.heap.size := block_lt (v := ((fs[i]?.getD noD).cs[0]?).getD (.bool false)) ((hc 0 (by omega)).trans rfl)
 exact ⟨b, off, e, fun r hr => by rw [hb.cell (p := ⟨b, off + i * 3 + r, none⟩) hl]; exact hc r hr, hr.below hb⟩
def DSG (w : World) (ad : Option Addr) (fs : List DV) : Prop :=
 ∀ i, i < fs.length -> ∃ b off, ad = some ⟨b, off, none⟩ /\ (∀ r, r < 3 -> w.cell? ⟨b, off + i * 3 + r, none⟩ = (fs[i]?.getD noD).cs[r]?) /\ DG w (fs[i]?.getD noD)
theorem DSG.below {fs : List DV} (h : DSG w ad fs) (hb : Below w.heap.size w w') : DSG w' ad fs := fun i hi => by
 obtain ⟨b, off, e, hc, hr⟩ := h i hi;have hl : b < w.heap.size := block_lt (v := ((fs[i]?.getD noD).cs[0]?).getD (.bool false)) ((hc 0 (by omega)).trans rfl)
 exact ⟨b, off, e, fun r hr => by rw [hb.cell (p := ⟨b, off + i * 3 + r, none⟩) hl]; exact hc r hr, hr.below hb⟩
theorem DSM.g {fs : List DV} (h : DSM w ad fs) (hs : ∀ i, i < fs.length -> DZ (fs[i]?.getD noD)) : DSG w ad fs := fun i hi => by
 obtain ⟨b, off, e, hc, hr⟩ := h i hi
 exact ⟨b, off, e, hc, hr.g (hs i hi)⟩
theorem cellsD {b : Nat} {f : DV} (h : ∀ r, r < 3 -> w.cell? ⟨b, o + r, none⟩ = f.cs[r]?) : w.cell? ⟨b, o, none⟩ = some (.int .i64 f.q) /\ w.cell? ⟨b, o + 1, none⟩ = some (.int .i64 f.c) /\ w.cell? ⟨b, o + 2, none⟩ = some (f.t.v) := ⟨h 0 (by omega), h 1 (by omega), h 2 (by omega)⟩
theorem open_DS {H : Type} {enc : TypeId × Value -> H} {v : Value} {y : DataW H × List MemPlace}
  (hf : DataW.trod enc Tryz.prog W 0 (fun _ => true) true fuel 26 [v] = some y) :
  ∃ ad N cap fs, v = .slice ad N cap /\ fs.length = N /\ DSM W ad fs /\ N <= maxLen := by
 obtain ⟨ad, N, cap, fs, hv, hl, hN, hall⟩ := open_sliceC noD DV.cs (fun f => DM W f) (c := 3) (by omega) Tryz.underlying26 (by kernel_rfl) (fun _ => rfl) (fun fuel cs x hx => open_DC hx) hf
 exact ⟨ad, N, cap, fs, hv, hl, hall, hN⟩
theorem szDS_any (fs : List DV) {l : Int} {w : World} (hN : fs.length = N) (hF : DSM w ad fs) (hN1 : N <= maxLen) (h0 : 0 <= l) (hl : l <= 1048576) :
  Calls Tryz.prog 17 #[.slice ad N cap, .int .i64 l] w fun e w' => ∃ r, e = .returned (.int .i64 r) /\ -1 <= r /\ r <= 1048576 /\ (0 <= r -> N <= 1048576 /\ ∀ i, i < fs.length -> DZ (fs[i]?.getD noD)) /\ Below w.heap.size w w' := by
 have HN : Hid (fs.length = N) := hN;clear hN;unfold maxLen at hN1
 by_cases h : l < N
 ·go_enter Tryz.func17, Tryz.ntmps17
  go_wp2
  go_ret
  exact ⟨-1, rfl, by omega, by omega, fun h => by omega, Below.refl _ _⟩
 have hN2 : N <= 1048576 := by omega
 have h' : (N : Int) <= l := by omega
 go_enter Tryz.func17, Tryz.ntmps17
 go_wp2_with fail
 go_loopw [1, 5] (fun lv i wr => ∃ k : Nat, k <= N /\ i = .int .i64 k /\ ∃ x : Int, lv = .int .i64 x /\ 0 <= x /\ x <= 1048576 /\ Below w.heap.size w wr /\ ∀ i, i < k -> DZ (fs[i]?.getD noD)) (fun _ i _ => N - (intOf i).toNat)
 case atStart => exact ⟨0, qJ _, rfl, _, rfl, by omega, by omega, Below.refl _ _, fun i hi => by omega⟩
 case round =>
  obtain ⟨k, hk, rfl, x, rfl, hx0, hx1, hb, hall⟩ := hrel;have HA : Hid _ := hall;clear hall
  by_cases hlt : k < N
  ·obtain ⟨b, off, rfl, hc, hr⟩ := (hF.below hb) k (by rw [HN.out]; exact hlt);generalize HG : fs[k]?.getD noD = g at *;have HG' : Hid (fs[k]?.getD noD = g) := HG;clear HG hF;obtain ⟨e0, e1, e2⟩ := cellsD hc;obtain ⟨gq, gc, ⟨gta, gtn, gtc, gtx⟩⟩ := g;have e0' : wr.cell? ⟨b, off + k * 3, none⟩ = some (.int .i64 gq) := e0;have e1' : wr.cell? ⟨b, off + k * 3 + 1, none⟩ = some (.int .i64 gc) := e1;have e2' : wr.cell? ⟨b, off + k * 3 + 2, none⟩ = some (.slice gta gtn gtc) := e2;clear e0 e1 e2 hc
   go_wp2_with fail
   refine (szD_ex gtx hr hx0 hx1).mono ?_;rintro e w1 ⟨r, rfl, r0, r1, r2, b1⟩
   by_cases hz : r < 0
   ·go_wp2
    go_ret
    exact ⟨-1, rfl, by omega, by omega, fun h => by omega, btr hb b1⟩
   have hz0 : 0 <= r := by omega
   have HA2 : Hid (∀ i, i < k + 1 -> DZ (fs[i]?.getD noD)) := fun i hi => by
    by_cases hik : i < k
    ·exact HA.out i hik
    obtain rfl : i = k := by omega
    rw [HG'.out]; exact r2 hz0
   clear r2
   go_wp2
   go_roundw
   case rel => exact ⟨k + 1, by omega, by go_num, _, rfl, hz0, r1, btr hb b1, HA2.out⟩
   case measure => simp [intOf]; omega
  obtain rfl : k = N := by omega
  go_wp2
  go_ret
  exact ⟨x, rfl, by omega, by omega, fun _ => ⟨hN2, fun i hi => HA.out i (by rw [<- HN.out]; exact hi)⟩, hb⟩
def putD (vs : List Value) (o : Nat) (x0 x1 x2 : Value) : List Value := (((vs.set o x0).set (o + 1) x1).set (o + 2) x2)
theorem putD_len (vs : List Value) (o : Nat) (x0 x1 x2 : Value) : (putD vs o x0 x1 x2).length = vs.length := by simp [putD]
theorem putD_ne {vs : List Value} {x0 x1 x2 : Value} {j : Nat} (h : j < o \/ o + 3 <= j) : (putD vs o x0 x1 x2)[j]? = vs[j]? := by
 unfold putD;rw [qB (by omega), qB (by omega), qB (by omega)]
theorem putD_at {vs : List Value} {x0 x1 x2 : Value} (h : o + 3 <= vs.length) (r : Nat) (hr : r < 3) : (putD vs o x0 x1 x2)[o + r]? = [x0, x1, x2][r]? := by
 have hcase : r = 0 \/ r = 1 \/ r = 2 := by omega
 unfold putD
 rcases hcase with rfl | rfl | rfl
 ·simp only [Nat.add_zero];rw [qB (by omega), qB (by omega), qF (by omega)]; rfl
 ·rw [qB (by omega), qF (by simp; omega)]; rfl
 rw [qF (by simp; omega)]; rfl
structure MD (W : World) (B N : Nat) (gs : List DV) : Prop where
 c : ∃ vs : List Value, Cel W B vs 89 /\ vs.length = N * 3 /\ ∀ i, i < gs.length -> ∀ r, r < 3 -> vs[i * 3 + r]? = (gs[i]?.getD noD).cs[r]?
 l : ∀ i, i < gs.length -> DK W (B + 1) (gs[i]?.getD noD)
theorem MD.lt {gs : List DV} (h : MD W B N gs) : B < W.heap.size := by
 obtain ⟨vs, h1, _⟩ := h.c
 exact h1.lt
theorem MD.below {W' : World} {gs : List DV} (h : MD W B N gs) (b : Below W.heap.size W W') : MD W' B N gs := by
 obtain ⟨vs, h1, h2, h3⟩ := h.c
 exact ⟨⟨vs, h1.below b, h2, h3⟩, fun i hi => (h.l i hi).below b⟩
theorem MD.g {gs : List DV} (h : MD W B N gs) : DSG W (some ⟨B, 0, none⟩) gs := fun i hi => by
 obtain ⟨vs, h1, h2, h3⟩ := h.c
 exact ⟨B, 0, rfl, fun r hr => by rw [Nat.zero_add, h1.cell, h3 i hi r hr], (h.l i hi).g⟩
theorem MD.touch {S : Nat -> Prop} {W' : World} {gs : List DV} (h : MD W B N gs) (t : Touch S W W') (hs : ∀ k, S k -> k < B) : MD W' B N gs := by
 obtain ⟨vs, h1, h2, h3⟩ := h.c
 exact ⟨⟨vs, h1.touch t (fun hh => by have := hs _ hh; omega), h2, h3⟩, fun i hi => (h.l i hi).touch t (fun k hk => by have := hs _ hk; omega)⟩
theorem MD.setLow {gs : List DV} (h : MD W B N gs) {X : Nat} (hX : X < B) (i : Nat) (v : Value) : MD (W.setCell ⟨X, i, none⟩ v) B N gs := h.touch (S := fun x => x = X) (Touch.setCell (S := fun x => x = X) (Touch.refl _ _) rfl _) (fun k hk => by omega)
theorem MD.step {W1 : World} {gs : List DV} {gq : Int} {gc : Int} {Pt : Option Addr} {gtn : Nat} {Qt : List Int} (h : MD W B N gs) (hk : gs.length = k) (hkN : k < N) (b : Below W.heap.size W W1) (hs : DK W1 W.heap.size ⟨gq, gc, ⟨Pt, gtn, gtn, Qt⟩⟩) :
  MD (((W1.setCell ⟨B, k * 3, none⟩ (.int .i64 gq)).setCell ⟨B, k * 3 + 1, none⟩ (.int .i64 gc)).setCell ⟨B, k * 3 + 2, none⟩ (.slice Pt gtn gtn)) B N (gs ++ [⟨gq, gc, ⟨Pt, gtn, gtn, Qt⟩⟩]) := by
 have hB := h.lt;obtain ⟨vs, h1, h2, h3⟩ := (h.below b).c;have T : Touch (fun x => x = B) W1 (((W1.setCell ⟨B, k * 3, none⟩ (.int .i64 gq)).setCell ⟨B, k * 3 + 1, none⟩ (.int .i64 gc)).setCell ⟨B, k * 3 + 2, none⟩ (.slice Pt gtn gtn)) := (((Touch.refl (fun x => x = B) W1).setCell rfl _).setCell rfl _).setCell rfl _;refine ⟨⟨putD vs (k * 3) (.int .i64 gq) (.int .i64 gc) (.slice Pt gtn gtn), (((h1).set _ _).set _ _).set _ _, by rw [putD_len]; exact h2, fun i hi r hr => ?_⟩, fun i hi => ?_⟩
 ·rw [qC, hk] at hi;simp only [qG, qH] at hi
  by_cases e : i = k
  ·subst e;rw [putD_at (by rw [h2]; omega) r hr, qD (by omega), hk];simp [DV.cs, IV.v]
  rw [putD_ne (by omega), qE (by omega)]
  exact h3 i (by omega) r hr
 rw [qC, hk] at hi;simp only [qG, qH] at hi
 by_cases e : i = k
 ·subst e;rw [qD (by omega), hk];simp only [Nat.sub_self, List.getElem?_cons_zero, Option.getD_some]
  exact (hs.mono (by omega)).touch T (fun x hx => by omega)
 rw [qE (by omega)]
 exact ((h.l i (by omega)).below b).touch T (fun x hx => by omega)
def copiesDS (fs gs : List DV) : Prop := ∀ i, i < gs.length -> copiesD (fs[i]?.getD noD) (gs[i]?.getD noD)
theorem Tryz.infoPlnDone : (Tryz.prog.info? 89).map (fun i => (i.zero, i.size, i.bytes)) = some (some (.agg #[.int .i64 0, .int .i64 0, .slice none 0 0]), 3, 40) := by kernel_rfl
theorem toDS_any (fs : List DV) {w : World} (hN : fs.length = N) (hF : DSG w ad fs) (hN1 : N <= 1048576) :
  Calls Tryz.prog 24 #[.slice ad N cap] w fun e w' => ∃ gs, e = .returned (.slice (some ⟨w.heap.size, 0, none⟩) N N) /\ gs.length = N /\ copiesDS fs gs /\ Below w.heap.size w w' /\ MD w' w.heap.size N gs := by
 have HN : Hid (fs.length = N) := hN;clear hN;obtain ⟨i0, hi, hz0, hz1, hz2⟩ := info_parts Tryz.infoPlnDone
 go_enter Tryz.func24, Tryz.ntmps24
 go_wp2_with (at_make; refine wpList_make_full _ rfl (.tmp 6) (.tmp 6) 39 rfl w.heap.size 89 i0 (.agg #[.int .i64 0, .int .i64 0, .slice none 0 0]) 3 Tryz.underlying39 hi hz0 hz1 .i64 .i64 _ _ N rfl rfl rfl rfl (by rw [hz2]; omega) (by unfold maxLen; omega) (qI _) ?_; intro w1 hown hgrow)
 have hb1 : Below w.heap.size w w1 := (Below.refl _ _).grown hgrow (qI _) (by simp)
 have m0 : MD w1 w.heap.size N [] := by
  rcases hown.2 with ⟨h', _⟩ | ⟨g', cap', cur, h', _, hg, _, _, hcs, htake⟩
  ·simp at h'
  simp only [Value.slice.injEq, Option.some.injEq, Addr.mk.injEq, and_true, true_and] at h';obtain ⟨rfl, rfl⟩ := h'
  exact ⟨⟨cur.toList, by unfold Cel; rw [hg], by simpa using hcs, fun i hi => by simp at hi⟩, fun i hi => by simp at hi⟩
 clear hown hgrow hi hz0 hz1 hz2
 go_loopw [4] (fun i wr => ∃ k : Nat, k <= N /\ i = .int .i64 k /\ Below w.heap.size w wr /\ ∃ gs, gs.length = k /\ copiesDS fs gs /\ MD wr w.heap.size N gs) (fun i _ => N - (intOf i).toNat)
 case atStart => exact ⟨0, qJ _, rfl, hb1, [], rfl, fun i hi => by simp at hi, m0⟩
 case round =>
  clear hb1 m0;obtain ⟨k, hk, rfl, hb, ts, hts, hcp, hm⟩ := hrel;have HTS : Hid (ts.length = k) := hts;have HCP : Hid (copiesDS fs ts) := hcp;clear hts hcp
  by_cases hlt : k < N
  ·obtain ⟨b, off, rfl, hc, hr⟩ := (hF.below hb) k (by rw [HN.out]; exact hlt);generalize HG : fs[k]?.getD noD = g at *;have HG' : Hid (fs[k]?.getD noD = g) := HG;clear HG hF;obtain ⟨e0, e1, e2⟩ := cellsD hc;obtain ⟨gq, gc, ⟨gta, gtn, gtc, gtx⟩⟩ := g;have e0' : wr.cell? ⟨b, off + k * 3, none⟩ = some (.int .i64 gq) := e0;have e1' : wr.cell? ⟨b, off + k * 3 + 1, none⟩ = some (.int .i64 gc) := e1;have e2' : wr.cell? ⟨b, off + k * 3 + 2, none⟩ = some (.slice gta gtn gtc) := e2;clear e0 e1 e2 hc
   go_wp2_with fail
   refine (toD_ex gtx hr).mono ?_;rintro ee w2 ⟨Pt, Qt, rfl, b2, hK, hcp2⟩;have ms := hm.step HTS.out hlt b2 hK;obtain ⟨vs, v1, v2, v3⟩ := (hm.below b2).c;have hx : ∀ r, r < 3 -> ∃ x, w2.cell? ⟨w.heap.size, k * 3 + r, none⟩ = some x := fun r hr => ⟨_, (v1.cell (k * 3 + r)).trans (List.getElem?_eq_getElem (by rw [v2]; omega))⟩
   obtain ⟨x0, y0⟩ := hx 0 (by omega);obtain ⟨x1, y1⟩ := hx 1 (by omega);obtain ⟨x2, y2⟩ := hx 2 (by omega);simp only [Nat.add_zero] at y0;have f0 := v1.free (k * 3);have f1 := v1.free (k * 3 + 1);have f2 := v1.free (k * 3 + 2);have hb2 := btr hb b2;have RB := (((hb2.setCell (p := ⟨w.heap.size, k * 3, none⟩) (qI _) (.int .i64 gq)).setCell (p := ⟨w.heap.size, k * 3 + 1, none⟩) (qI _) (.int .i64 gc)).setCell (p := ⟨w.heap.size, k * 3 + 2, none⟩) (qI _) (.slice Pt gtn gtn))
   have CP : copiesDS fs (ts ++ [⟨gq, gc, ⟨Pt, gtn, gtn, Qt⟩⟩]) := fun i hi => by
    rw [qC, HTS.out] at hi;simp only [qG, qH] at hi
    by_cases e : i = k
    ·subst e;rw [qD (by rw [HTS.out]; exact qI _), HTS.out, HG'.out];simpa using hcp2
    rw [qE (by rw [HTS.out]; omega)]
    exact HCP.out i (by rw [HTS.out]; omega)
   have HCP2 : Hid _ := CP;clear hm b2 hb hb2 v1 v2 v3 hx CP hr hcp2 hK
   go_wp2
   go_roundw
   case rel => exact ⟨k + 1, by omega, by go_num, RB, _, by rw [qC, HTS.out]; rfl, HCP2.out, ms⟩
   case measure => simp [intOf]; omega
  obtain rfl : k = N := by omega
  go_wp2
  go_ret
  exact ⟨ts, rfl, HTS.out, HCP.out, hb, hm⟩
theorem eqDS_same {ae : Option Addr} {cap' : Nat} (fs gs : List DV) {w : World} (hN : fs.length = N) (hM : gs.length = N) (hF : DSG w ad fs) (hG : DSG w ae gs) (hN1 : N <= 1048576)
  (hsame : ∀ i, i < N -> sameD (fs[i]?.getD noD) (gs[i]?.getD noD)) :
  Calls Tryz.prog 30 #[.slice ad N cap, .slice ae N cap'] w fun e w' => e = .returned (.bool true) /\ Below w.heap.size w w' := by
 have HN : Hid (fs.length = N) := hN;have HM : Hid (gs.length = N) := hM;have HS : Hid _ := hsame;clear hN hM hsame
 go_enter Tryz.func30, Tryz.ntmps30
 go_wp2_with fail
 go_loopw [5] (fun i wr => ∃ k : Nat, k <= N /\ i = .int .i64 k /\ Below w.heap.size w wr) (fun i _ => N - (intOf i).toNat)
 case atStart => exact ⟨0, qJ _, rfl, Below.refl _ _⟩
 case round =>
  obtain ⟨k, hk, rfl, hb⟩ := hrel
  by_cases hlt : k < N
  ·obtain ⟨b, off, rfl, hc, hr⟩ := (hF.below hb) k (by rw [HN.out]; exact hlt);obtain ⟨b', off', rfl, hc', hr'⟩ := (hG.below hb) k (by rw [HM.out]; exact hlt);have hs := HS.out k hlt;generalize HG1 : fs[k]?.getD noD = fe at *;generalize HG2 : gs[k]?.getD noD = g at *;clear HG1 HG2 hF hG;obtain ⟨e0, e1, e2⟩ := cellsD hc;obtain ⟨feq, fec, ⟨feta, fetn, fetc, fetx⟩⟩ := fe;have e0' : wr.cell? ⟨b, off + k * 3, none⟩ = some (.int .i64 feq) := e0;have e1' : wr.cell? ⟨b, off + k * 3 + 1, none⟩ = some (.int .i64 fec) := e1;have e2' : wr.cell? ⟨b, off + k * 3 + 2, none⟩ = some (.slice feta fetn fetc) := e2;clear e0 e1 e2 hc;obtain ⟨d0, d1, d2⟩ := cellsD hc';obtain ⟨gq, gc, ⟨gta, gtn, gtc, gtx⟩⟩ := g;have d0' : wr.cell? ⟨b', off' + k * 3, none⟩ = some (.int .i64 gq) := d0;have d1' : wr.cell? ⟨b', off' + k * 3 + 1, none⟩ = some (.int .i64 gc) := d1;have d2' : wr.cell? ⟨b', off' + k * 3 + 2, none⟩ = some (.slice gta gtn gtc) := d2;clear d0 d1 d2 hc';have hlt' : (k : Int) < (N : Int) := by omega
   go_wp2_with fail
   go_region_with (first | (go_at_call 53; refine (eqD_ex fetx gtx (by exact hr.below (Below.refl _ _).drew) (by exact hr'.below (Below.refl _ _).drew) hs).mono ?_; rintro ee w1 ⟨rfl, b1⟩))
   all_goals
    have b1' := below_of_drew b1
    go_wp2
    go_roundw
    case rel => exact ⟨k + 1, by omega, by go_num, btr hb b1'⟩
    case measure => simp [intOf]; omega
  go_wp2
  go_ret
  exact ⟨rfl, hb⟩
theorem dec_step (h : ¬ k < 10) : Lib.decDigits k = Lib.decDigits (k / 10) ++ [UInt8.ofNat (48 + k % 10)] := by
 rw [Lib.decDigits, dif_neg h]
theorem dec_one (h : k < 10) : Lib.decDigits k = [UInt8.ofNat (48 + k)] := by
 rw [Lib.decDigits, dif_pos h]
theorem cat_str (a b : List UInt8) : ((⟨a.toArray⟩ : ByteArray) ++ (⟨b.toArray⟩ : ByteArray)) = ⟨(a ++ b).toArray⟩ := by
 apply ByteArray.ext
 simp
theorem cat_one (x : UInt8) (b : List UInt8) : ((⟨#[x]⟩ : ByteArray) ++ (⟨b.toArray⟩ : ByteArray)) = ⟨(x :: b).toArray⟩ := cat_str [x] b
theorem u8_add {m : Nat} (h : m < 10 := by omega) : (48 : UInt8) + UInt8.ofNat m = UInt8.ofNat (48 + m) := by
 simp
theorem digits_pos (N : Nat) (w : World) (hN : N <= 1000000000000000000 := by omega) :
  Calls Tryz.prog 152 #[.int .i64 N] w fun e w' => e = .returned (.string ⟨(Lib.decDigits N).toArray⟩) /\ Below w.heap.size w w' := by
 go_enter Tryz.func152, Tryz.ntmps152
 go_wp2_with fail
 go_loopw [0, 3] (fun n s wr => ∃ (k : Nat) (l : List UInt8), n = .int .i64 k /\ s = .string ⟨l.toArray⟩ /\ k + l.length <= N /\ Lib.decDigits N = Lib.decDigits k ++ l /\ Below w.heap.size w wr) (fun n _ _ => (intOf n).toNat)
 case atStart => exact ⟨N, [], rfl, rfl, qI _, by simp, Below.refl _ _⟩
 case round =>
  obtain ⟨k, l, rfl, rfl, hk, hd, hb⟩ := hrel;have HD : Hid _ := hd;clear hd;have hll : l.length <= 1000000000000000000 := by omega
  have hkk : k <= 1000000000000000000 := by omega
  by_cases h9 : 9 < k
  ·have hcv : (convert 167 9 (.slice (some ⟨wr.heap.size, 0, none⟩) 1 1)).run Tryz.prog (wr.alloc (.cells #[.int .u8 (48 + (k : Int) % 10)] 5)) = .ok (.string ⟨#[UInt8.ofNat (48 + k % 10)]⟩) (wr.alloc (.cells #[.int .u8 (48 + (k : Int) % 10)] 5)) := run_convert_bytes_back (P := Tryz.prog) (wr.alloc (.cells #[.int .u8 (48 + (k : Int) % 10)] 5)) 167 9 5 ⟨wr.heap.size, 0, none⟩ 1 [UInt8.ofNat (48 + k % 10)] Tryz.underlying167 Tryz.underlying5 Tryz.underlying9 (fun j hj => by
    have : j = 0 := by simpa using hj
    subst this;have hm : 48 + k % 10 < 256 := by omega
    simp [go_sem, Addr.add, Nat.mod_eq_of_lt hm])
   go_wp2
   go_roundw
   case rel => exact ⟨k / 10, UInt8.ofNat (48 + k % 10) :: l, by go_num, by rw [u8_add, cat_one], by rw [qG]; omega, by rw [HD.out, dec_step (by omega), List.append_assoc]; rfl, hb.alloc hb.size _⟩
   case measure => simp [intOf]; omega
  have hcv : (convert 167 9 (.slice (some ⟨wr.heap.size, 0, none⟩) 1 1)).run Tryz.prog (wr.alloc (.cells #[.int .u8 (48 + (k : Int))] 5)) = .ok (.string ⟨#[UInt8.ofNat (48 + k)]⟩) (wr.alloc (.cells #[.int .u8 (48 + (k : Int))] 5)) := run_convert_bytes_back (P := Tryz.prog) (wr.alloc (.cells #[.int .u8 (48 + (k : Int))] 5)) 167 9 5 ⟨wr.heap.size, 0, none⟩ 1 [UInt8.ofNat (48 + k)] Tryz.underlying167 Tryz.underlying5 Tryz.underlying9 (fun j hj => by
   have : j = 0 := by simpa using hj
   subst this;have hm : 48 + k < 256 := by omega
   simp [go_sem, Addr.add, Nat.mod_eq_of_lt hm])
  go_wp2
  go_ret
  exact ⟨by rw [u8_add, cat_one, HD.out, dec_one (by omega)]; rfl, hb.alloc hb.size _⟩
theorem digits_any (n : Int) {w : World} (h0 : -1000000000000000000 <= n) (h1 : n <= 1000000000000000000) :
  Calls Tryz.prog 152 #[.int .i64 n] w fun e w' => e = .returned (.string ⟨(Lib.itoa n).toArray⟩) /\ Below w.heap.size w w' := by
 by_cases hn : n < 0
 ·have e : Lib.itoa n = 45 :: Lib.decDigits n.natAbs := by rw [Lib.itoa, if_pos hn]
  have hl : (Lib.decDigits n.natAbs).length <= 21 := by
   have := Lib.itoa_length_le n (by omega) (by omega);rw [e, qG] at this
   omega
  have HE : Hid _ := e;clear e
  go_enter Tryz.func152, Tryz.ntmps152
  go_wp2_with fail
  refine (show Calls Tryz.prog 152 #[.int .i64 (-n)] w _ from (by have := digits_pos n.natAbs w; rw [show ((n.natAbs : Nat) : Int) = -n by omega] at this; exact this)).mono ?_;rintro e w1 ⟨rfl, b1⟩
  go_wp2
  go_ret
  exact ⟨by rw [HE.out]; exact congrArg (fun x => Ending.returned (.string x)) (cat_one _ _), b1⟩
 have e : Lib.itoa n = Lib.decDigits n.toNat := by rw [Lib.itoa, if_neg hn]
 rw [e];have := digits_pos n.toNat w;rwa [show ((n.toNat : Nat) : Int) = n by omega] at this
end Go.Proofs.YtfmpcihghlnlnaaGreatDoor
