/-
  Lemmas that the claim's last text rests on.
-/
import Derived.Test.YtacfoeekmcnpjaaGreatDoorQWalk
import Derived.Test.YtacfoeekmcnpjaaGreatDoorQG
namespace Go.Proofs.YtacfoeekmcnpjaaGreatDoor
open Go.RowKit Go.Deep
open List renaming set_cons_zero → qA, set_cons_succ → qB, getElem?_eq_getElem → qC, getElem?_cons_zero → qD, getElem?_cons_succ → qE, take_succ_eq_append_getElem → qF
open Nat renaming le_refl → qG, zero_le → qH
set_option linter.unusedVariables false
set_option maxRecDepth 100000
set_option maxHeartbeats 25600000
variable {B G G1 G2 G3 N bn cap cap' dn ec gn k kn m n n0 n1 n2 n3 n4 pc : Nat} {C D E bx : List Int} {W W' w : World} {a ad ba c da e ga ka : Option Addr} {b1 b2 b3 b4 : Nat -> Nat} {f : Nat -> Bool} {g s : Int} {ls : List LV} {ss ts : List IV} {t : TypeId} {v0 v1 : Value}
structure CkL (W : World) (ba : Option Addr) (B bn : Nat) (bx : List Int) (da : Option Addr) (G1 dn : Nat) (f1 : Nat -> DV) (b1 : Nat -> Nat) (ka : Option Addr) (G2 kn : Nat) (f2 : Nat -> QV) (b2 : Nat -> Nat) (ga : Option Addr) (G3 gn : Nat) (f3 : Nat -> GV) (b3 b4 : Nat -> Nat) (n0 n1 n2 n3 n4 : Nat) : Prop where
 b : OwnX W ba B bn bx
 d : DL W da G1 dn f1 b1
 k : QL W ka G2 kn f2 b2
 g : GL W ga G3 gn f3 b3 b4
 rb : 0 < bn -> n0 <= B /\ B < n1
 rd : 0 < dn -> n1 <= G1 /\ G1 < n2
 rd' : ∀ i, i < dn -> 0 < (f1 i).t.n -> n1 <= b1 i /\ b1 i < n2
 rk : 0 < kn -> n2 <= G2 /\ G2 < n3
 rk' : ∀ i, i < kn -> 0 < (f2 i).t.n -> n2 <= b2 i /\ b2 i < n3
 rg : 0 < gn -> n3 <= G3 /\ G3 < n4
 rg' : ∀ i, i < gn -> 0 < (f3 i).t.n -> n3 <= b3 i /\ b3 i < n4
 rg'' : ∀ i, i < gn -> 0 < (f3 i).u.n -> n3 <= b4 i /\ b4 i < n4
 o : n0 <= n1 /\ n1 <= n2 /\ n2 <= n3 /\ n3 <= n4
theorem CkL.touch {S : Nat -> Prop} {f1 : Nat -> DV} {f2 : Nat -> QV} {f3 : Nat -> GV} (h : CkL W ba B bn bx da G1 dn f1 b1 ka G2 kn f2 b2 ga G3 gn f3 b3 b4 n0 n1 n2 n3 n4) (t : Touch S W W') (hS : ∀ x, S x -> x < n0 \/ n4 <= x) : CkL W' ba B bn bx da G1 dn f1 b1 ka G2 kn f2 b2 ga G3 gn f3 b3 b4 n0 n1 n2 n3 n4 := by
 have ho := h.o
 exact ⟨h.b.touch t (fun h0 s => by have := h.rb h0; have := hS _ s; omega),
  h.d.touch t (fun h0 s => by have := h.rd h0; have := hS _ s; omega) (fun i hi h0 s => by have := h.rd' i hi h0; have := hS _ s; omega),
  h.k.touch t (fun h0 s => by have := h.rk h0; have := hS _ s; omega) (fun i hi h0 s => by have := h.rk' i hi h0; have := hS _ s; omega),
  h.g.touch t (fun h0 s => by have := h.rg h0; have := hS _ s; omega) (fun i hi h0 s => by have := h.rg' i hi h0; have := hS _ s; omega) (fun i hi h0 s => by have := h.rg'' i hi h0; have := hS _ s; omega),
  h.rb, h.rd, h.rd', h.rk, h.rk', h.rg, h.rg', h.rg'', h.o⟩
theorem CkL.below {f1 : Nat -> DV} {f2 : Nat -> QV} {f3 : Nat -> GV} (h : CkL W ba B bn bx da G1 dn f1 b1 ka G2 kn f2 b2 ga G3 gn f3 b3 b4 n0 n1 n2 n3 n4) (b : Below W.heap.size W W') : CkL W' ba B bn bx da G1 dn f1 b1 ka G2 kn f2 b2 ga G3 gn f3 b3 b4 n0 n1 n2 n3 n4 := h.touch (S := fun _ => False) (Touch.of b) (fun _ h => h.elim)
theorem CkL.at {ds : List DV} {ks : List QV} {gs : List GV} (h : CkL W ba B bn bx da G1 dn (fun i => ds[i]?.getD noD) b1 ka G2 kn (fun i => ks[i]?.getD noQ) b2 ga G3 gn (fun i => gs[i]?.getD noG) b3 b4 n0 n1 n2 n3 n4) (zb : bn <= 1048576) (ld : ds.length = dn) (zd : dn <= 1048576) (lk : ks.length = kn) (zk : kn <= 1048576) (lg : gs.length = gn) (zg : gn <= 1048576) : CkAt W ba bn bx da dn ds ka kn ks ga gn gs :=
 ⟨h.b.ints, zb, h.d.sg ld, ld, zd, h.k.sg lk, lk, zk, h.g.sg lg, lg, zg⟩
theorem icopClk_any {u : Bool} {r : Int} {Bb bc : Nat} (bx : List Int) {Bd dn dc : Nat} (dx : List DV) {Bk kn kc : Nat} (kx : List QV) {Bg gn gc : Nat} (gx : List GV) {w : World} (hb : Blk w Bb bx) (lb : bx.length = bn) (zb : bn <= 1048576) (hd : MD w Bd dn dx) (ld : dx.length = dn) (zd : dn <= 1048576) (hk : MQ w Bk kn kx) (lk : kx.length = kn) (zk : kn <= 1048576) (hg : MG w Bg gn gx) (lg : gx.length = gn) (zg : gn <= 1048576) :
  Calls Tryz.prog 87 #[ckV u r (some ⟨Bb, 0, none⟩) bn bc (some ⟨Bd, 0, none⟩) dn dc (some ⟨Bk, 0, none⟩) kn kc (some ⟨Bg, 0, none⟩) gn gc] w fun e w' => ∃ (ba : Option Addr) (cb B : Nat) (da : Option Addr) (cd G1 : Nat) (ds : List DV) (b1 : Nat -> Nat) (ka : Option Addr) (ck G2 : Nat) (ks : List QV) (b2 : Nat -> Nat) (ga : Option Addr) (cg G3 : Nat) (gs : List GV) (b3 b4 : Nat -> Nat) (n1 n2 n3 n4 : Nat), e = .returned (ckV u r ba bn cb da dn cd ka kn ck ga gn cg) /\ Below w.heap.size w w' /\ n4 <= w'.heap.size /\ CkL w' ba B bn bx da G1 dn (fun i => ds[i]?.getD noD) b1 ka G2 kn (fun i => ks[i]?.getD noQ) b2 ga G3 gn (fun i => gs[i]?.getD noG) b3 b4 w.heap.size n1 n2 n3 n4 /\ ds.length = dn /\ (∀ i, i < dn -> sameD (dx[i]?.getD noD) (ds[i]?.getD noD)) /\ ks.length = kn /\ (∀ i, i < kn -> sameQ (kx[i]?.getD noQ) (ks[i]?.getD noQ)) /\ gs.length = gn /\ ∀ i, i < gn -> sameG (gx[i]?.getD noG) (gs[i]?.getD noG) := by
 have p0 := (Cel.new w [.bool u, .int .i64 r, .slice (some ⟨Bb, 0, none⟩) bn bc, .slice (some ⟨Bd, 0, none⟩) dn dc, .slice (some ⟨Bk, 0, none⟩) kn kc, .slice (some ⟨Bg, 0, none⟩) gn gc] 47).alloc (.cells #[.bool false, .int .i64 0, .slice none 0 0, .slice none 0 0, .slice none 0 0, .slice none 0 0] 47)
 have r0 := Cel.new (w.alloc (.cells #[.bool u, .int .i64 r, .slice (some ⟨Bb, 0, none⟩) bn bc, .slice (some ⟨Bd, 0, none⟩) dn dc, .slice (some ⟨Bk, 0, none⟩) kn kc, .slice (some ⟨Bg, 0, none⟩) gn gc] 47)) [.bool false, .int .i64 0, .slice none 0 0, .slice none 0 0, .slice none 0 0, .slice none 0 0] 47
 rw [World.size_alloc] at r0
 have B0 := ((Below.refl w.heap.size w).alloc (qG _) (.cells #[.bool u, .int .i64 r, .slice (some ⟨Bb, 0, none⟩) bn bc, .slice (some ⟨Bd, 0, none⟩) dn dc, .slice (some ⟨Bk, 0, none⟩) kn kc, .slice (some ⟨Bg, 0, none⟩) gn gc] 47)).alloc (by simp) (.cells #[.bool false, .int .i64 0, .slice none 0 0, .slice none 0 0, .slice none 0 0, .slice none 0 0] 47)
 have Lb : Hid _ := lb
 have Ld : Hid _ := ld
 have Lk : Hid _ := lk
 have Lg : Hid _ := lg
 clear lb ld lk lg
 go_enter Tryz.func87, Tryz.ntmps87
 go_upto_region 1 with fail
 obtain ⟨W0, hW0⟩ : ∃ W, W = (w.alloc (.cells #[.bool u, .int .i64 r, .slice (some ⟨Bb, 0, none⟩) bn bc, .slice (some ⟨Bd, 0, none⟩) dn dc, .slice (some ⟨Bk, 0, none⟩) kn kc, .slice (some ⟨Bg, 0, none⟩) gn gc] 47)).alloc (.cells #[.bool false, .int .i64 0, .slice none 0 0, .slice none 0 0, .slice none 0 0, .slice none 0 0] 47) := ⟨_, rfl⟩
 rw [<- hW0] at p0 r0 B0 ⊢
 clear hW0
 have s0 := r0.lt
 have B0' := B0
 clear B0
 have x1 := p0.cell 2
 simp only [qD, qE] at x1
 go_wp2_with fail
 refine (cloneN_any bx (hb.below B0') Lb.out zb).mono ?_
 rintro ee w1 ⟨ba, cb, B, rfl, b1, o1, g1⟩
 have d1 : Below W0.heap.size W0 w1 := b1
 have y1 := p0.below d1
 have z1 := y1.free 2
 have u1 := y1.cell 2
 simp only [qD, qE] at u1
 have p1 := y1.set 2 (.slice ba bn cb)
 simp only [qA, qB] at p1
 have T1 : Touch (fun y => y = w.heap.size) w1 (w1.setCell ⟨w.heap.size, 2, none⟩ (.slice ba bn cb)) := (Touch.refl (fun y => y = w.heap.size) w1).setCell rfl _
 have r1 := (r0.below d1).touch T1 (fun h => by have h : w.heap.size + 1 = w.heap.size := h; omega)
 have f1 := d1.size
 have BB1 : Below w.heap.size w (w1.setCell ⟨w.heap.size, 2, none⟩ (.slice ba bn cb)) := ((btq B0' d1).trans (T1.below (by omega) (fun z hz => by have hz : z = w.heap.size := hz; omega)))
 have e1 : (w1.setCell ⟨w.heap.size, 2, none⟩ (.slice ba bn cb)).heap.size <= w1.heap.size /\ w1.heap.size <= (w1.setCell ⟨w.heap.size, 2, none⟩ (.slice ba bn cb)).heap.size := by simp
 have o1' := o1.touch T1 (fun h0 h => by have h : B = w.heap.size := h; have := g1 h0; omega)
 have v1 : Hid (0 < bn -> w.heap.size <= B /\ B < w1.heap.size) := fun h0 => ⟨by have := g1 h0; omega, o1.lt h0⟩
 go_upto_region 2 with fail
 obtain ⟨W1, hW1⟩ : ∃ W, W = w1.setCell ⟨w.heap.size, 2, none⟩ (.slice ba bn cb) := ⟨_, rfl⟩
 rw [<- hW1] at p1 T1 r1 BB1 e1 o1' ⊢
 clear x1 u1 z1 y1 hW1
 have x2 := p1.cell 3
 simp only [qD, qE] at x2
 go_wp2_with fail
 refine (icopiesD_any dx Ld.out (hd.below BB1) zd).mono ?_
 rintro ee w2 ⟨v2, ds, c1, rfl, l2, j2, m2⟩
 have d2 : Below W1.heap.size W1 w2 := j2.b
 obtain ⟨da, G1, cd, rfl, D2, g2, h2⟩ := j2.lies l2
 have y2 := p1.below d2
 have z2 := y2.free 3
 have u2 := y2.cell 3
 simp only [qD, qE] at u2
 have p2 := y2.set 3 (.slice da dn cd)
 simp only [qA, qB] at p2
 have T2 : Touch (fun y => y = w.heap.size) w2 (w2.setCell ⟨w.heap.size, 3, none⟩ (.slice da dn cd)) := (Touch.refl (fun y => y = w.heap.size) w2).setCell rfl _
 have r2 := (r1.below d2).touch T2 (fun h => by have h : w.heap.size + 1 = w.heap.size := h; omega)
 have f2 := d2.size
 have BB2 : Below w.heap.size w (w2.setCell ⟨w.heap.size, 3, none⟩ (.slice da dn cd)) := ((btq BB1 d2).trans (T2.below (by omega) (fun z hz => by have hz : z = w.heap.size := hz; omega)))
 have e2 : (w2.setCell ⟨w.heap.size, 3, none⟩ (.slice da dn cd)).heap.size <= w2.heap.size /\ w2.heap.size <= (w2.setCell ⟨w.heap.size, 3, none⟩ (.slice da dn cd)).heap.size := by simp
 have o1' := (o1'.below (d2)).touch T2 (fun h0 h => by have h : B = w.heap.size := h; have := (v1.out h0).1; have := g1 h0; omega)
 have v2 : Hid ((0 < dn -> W1.heap.size <= G1 /\ G1 < w2.heap.size) /\ ∀ i, i < dn -> 0 < (ds[i]?.getD noD).t.n -> W1.heap.size <= c1 i /\ c1 i < w2.heap.size) := ⟨fun h0 => ⟨g2 h0, D2.lt h0⟩, fun i hi h0 => ⟨h2 i hi h0, (D2.l i hi).1.lt h0⟩⟩
 have D2 := D2.touch T2 (fun h0 h => by have h : G1 = w.heap.size := h; have := (v2.out.1 h0).1; omega) (fun i hi h0 h => by have h : c1 i = w.heap.size := h; have := (v2.out.2 i hi h0).1; omega)
 go_upto_region 3 with fail
 obtain ⟨W2, hW2⟩ : ∃ W, W = w2.setCell ⟨w.heap.size, 3, none⟩ (.slice da dn cd) := ⟨_, rfl⟩
 rw [<- hW2] at p2 T2 r2 BB2 e2 o1' D2 ⊢
 clear x2 u2 z2 y2 hW2
 have x3 := p2.cell 4
 simp only [qD, qE] at x3
 go_wp2_with fail
 refine (icopiesQ_any kx Lk.out (hk.below BB2) zk).mono ?_
 rintro ee w3 ⟨v3, ks, c2, rfl, l3, j3, m3⟩
 have d3 : Below W2.heap.size W2 w3 := j3.b
 obtain ⟨ka, G2, ck, rfl, D3, g3, h3⟩ := j3.lies l3
 have y3 := p2.below d3
 have z3 := y3.free 4
 have u3 := y3.cell 4
 simp only [qD, qE] at u3
 have p3 := y3.set 4 (.slice ka kn ck)
 simp only [qA, qB] at p3
 have T3 : Touch (fun y => y = w.heap.size) w3 (w3.setCell ⟨w.heap.size, 4, none⟩ (.slice ka kn ck)) := (Touch.refl (fun y => y = w.heap.size) w3).setCell rfl _
 have r3 := (r2.below d3).touch T3 (fun h => by have h : w.heap.size + 1 = w.heap.size := h; omega)
 have f3 := d3.size
 have BB3 : Below w.heap.size w (w3.setCell ⟨w.heap.size, 4, none⟩ (.slice ka kn ck)) := ((btq BB2 d3).trans (T3.below (by omega) (fun z hz => by have hz : z = w.heap.size := hz; omega)))
 have e3 : (w3.setCell ⟨w.heap.size, 4, none⟩ (.slice ka kn ck)).heap.size <= w3.heap.size /\ w3.heap.size <= (w3.setCell ⟨w.heap.size, 4, none⟩ (.slice ka kn ck)).heap.size := by simp
 have o1' := (o1'.below (d3)).touch T3 (fun h0 h => by have h : B = w.heap.size := h; have := (v1.out h0).1; have := g1 h0; omega)
 have D2 := (D2.below d3).touch T3 (fun h0 h => by have h : G1 = w.heap.size := h; have := (v2.out.1 h0).1; omega) (fun i hi h0 h => by have h : c1 i = w.heap.size := h; have := (v2.out.2 i hi h0).1; omega)
 have v3 : Hid ((0 < kn -> W2.heap.size <= G2 /\ G2 < w3.heap.size) /\ ∀ i, i < kn -> 0 < (ks[i]?.getD noQ).t.n -> W2.heap.size <= c2 i /\ c2 i < w3.heap.size) := ⟨fun h0 => ⟨g3 h0, D3.lt h0⟩, fun i hi h0 => ⟨h3 i hi h0, (D3.l i hi).1.lt h0⟩⟩
 have D3 := D3.touch T3 (fun h0 h => by have h : G2 = w.heap.size := h; have := (v3.out.1 h0).1; omega) (fun i hi h0 h => by have h : c2 i = w.heap.size := h; have := (v3.out.2 i hi h0).1; omega)
 go_upto_region 4 with fail
 obtain ⟨W3, hW3⟩ : ∃ W, W = w3.setCell ⟨w.heap.size, 4, none⟩ (.slice ka kn ck) := ⟨_, rfl⟩
 rw [<- hW3] at p3 T3 r3 BB3 e3 o1' D2 D3 ⊢
 clear x3 u3 z3 y3 hW3
 have x4 := p3.cell 5
 simp only [qD, qE] at x4
 go_wp2_with fail
 refine (icopiesG_any gx Lg.out (hg.below BB3) zg).mono ?_
 rintro ee w4 ⟨v4, gs, c3, c4, rfl, l4, j4, m4⟩
 have d4 : Below W3.heap.size W3 w4 := j4.b
 obtain ⟨ga, G3, cg, rfl, D4, g4, h4, k4⟩ := j4.lies l4
 have y4 := p3.below d4
 have z4 := y4.free 5
 have u4 := y4.cell 5
 simp only [qD, qE] at u4
 have p4 := y4.set 5 (.slice ga gn cg)
 simp only [qA, qB] at p4
 have T4 : Touch (fun y => y = w.heap.size) w4 (w4.setCell ⟨w.heap.size, 5, none⟩ (.slice ga gn cg)) := (Touch.refl (fun y => y = w.heap.size) w4).setCell rfl _
 have r4 := (r3.below d4).touch T4 (fun h => by have h : w.heap.size + 1 = w.heap.size := h; omega)
 have f4 := d4.size
 have BB4 : Below w.heap.size w (w4.setCell ⟨w.heap.size, 5, none⟩ (.slice ga gn cg)) := ((btq BB3 d4).trans (T4.below (by omega) (fun z hz => by have hz : z = w.heap.size := hz; omega)))
 have e4 : (w4.setCell ⟨w.heap.size, 5, none⟩ (.slice ga gn cg)).heap.size <= w4.heap.size /\ w4.heap.size <= (w4.setCell ⟨w.heap.size, 5, none⟩ (.slice ga gn cg)).heap.size := by simp
 have o1' := (o1'.below (d4)).touch T4 (fun h0 h => by have h : B = w.heap.size := h; have := (v1.out h0).1; have := g1 h0; omega)
 have D2 := (D2.below d4).touch T4 (fun h0 h => by have h : G1 = w.heap.size := h; have := (v2.out.1 h0).1; omega) (fun i hi h0 h => by have h : c1 i = w.heap.size := h; have := (v2.out.2 i hi h0).1; omega)
 have D3 := (D3.below d4).touch T4 (fun h0 h => by have h : G2 = w.heap.size := h; have := (v3.out.1 h0).1; omega) (fun i hi h0 h => by have h : c2 i = w.heap.size := h; have := (v3.out.2 i hi h0).1; omega)
 have v4 : Hid ((0 < gn -> W3.heap.size <= G3 /\ G3 < w4.heap.size) /\ (∀ i, i < gn -> 0 < (gs[i]?.getD noG).t.n -> W3.heap.size <= c3 i /\ c3 i < w4.heap.size) /\ ∀ i, i < gn -> 0 < (gs[i]?.getD noG).u.n -> W3.heap.size <= c4 i /\ c4 i < w4.heap.size) := ⟨fun h0 => ⟨g4 h0, D4.lt h0⟩, fun i hi h0 => ⟨h4 i hi h0, (D4.l i hi).1.lt h0⟩, fun i hi h0 => ⟨k4 i hi h0, (D4.u i hi).1.lt h0⟩⟩
 have D4 := D4.touch T4 (fun h0 h => by have h : G3 = w.heap.size := h; have := (v4.out.1 h0).1; omega) (fun i hi h0 h => by have h : c3 i = w.heap.size := h; have := (v4.out.2.1 i hi h0).1; omega) (fun i hi h0 h => by have h : c4 i = w.heap.size := h; have := (v4.out.2.2 i hi h0).1; omega)
 go_upto_region 5 with fail
 obtain ⟨W4, hW4⟩ : ∃ W, W = w4.setCell ⟨w.heap.size, 5, none⟩ (.slice ga gn cg) := ⟨_, rfl⟩
 rw [<- hW4] at p4 T4 r4 BB4 e4 o1' D2 D3 D4 ⊢
 clear x4 u4 z4 y4 hW4
 have x0 := p4.cell 0
 have x1 := p4.cell 1
 have x2 := p4.cell 2
 have x3 := p4.cell 3
 have x4 := p4.cell 4
 have x5 := p4.cell 5
 have y0 := r4.cell 0
 have y1 := r4.cell 1
 have y2 := r4.cell 2
 have y3 := r4.cell 3
 have y4 := r4.cell 4
 have y5 := r4.cell 5
 have z0 := r4.free 0
 have z1 := r4.free 1
 have z2 := r4.free 2
 have z3 := r4.free 3
 have z4 := r4.free 4
 have z5 := r4.free 5
 simp only [qD, qE] at x0 x1 x2 x3 x4 x5 y0 y1 y2 y3 y4 y5
 have HC : Hid (CkL W4 ba B bn bx da G1 dn (fun i => ds[i]?.getD noD) c1 ka G2 kn (fun i => ks[i]?.getD noQ) c2 ga G3 gn (fun i => gs[i]?.getD noG) c3 c4 W0.heap.size w1.heap.size w2.heap.size w3.heap.size w4.heap.size) :=
  ⟨o1', D2, D3, D4, fun h0 => ⟨g1 h0, (v1.out h0).2⟩, fun h0 => ⟨by have := (v2.out.1 h0).1; omega, (v2.out.1 h0).2⟩, fun i hi h0 => ⟨by have := (v2.out.2 i hi h0).1; omega, (v2.out.2 i hi h0).2⟩, fun h0 => ⟨by have := (v3.out.1 h0).1; omega, (v3.out.1 h0).2⟩, fun i hi h0 => ⟨by have := (v3.out.2 i hi h0).1; omega, (v3.out.2 i hi h0).2⟩, fun h0 => ⟨by have := (v4.out.1 h0).1; omega, (v4.out.1 h0).2⟩, fun i hi h0 => ⟨by have := (v4.out.2.1 i hi h0).1; omega, (v4.out.2.1 i hi h0).2⟩, fun i hi h0 => ⟨by have := (v4.out.2.2 i hi h0).1; omega, (v4.out.2.2 i hi h0).2⟩, by omega⟩
 have M2 : Hid _ := m2
 have M3 : Hid _ := m3
 have M4 : Hid _ := m4
 have L2 : Hid _ := l2
 have L3 : Hid _ := l3
 have L4 : Hid _ := l4
 have s4 := r4.lt
 clear m2 m3 m4 l2 l3 l4 D2 D3 D4 o1' T1 T2 T3 T4 p1 p2 p3 p4 r1 r2 r3 BB1 BB2 BB3 d1 d2 d3 d4 j2 j3 j4 g1 g2 g3 g4 h2 h3 h4 k4 v1 v2 v3 v4 o1 b1 p0 hb hd hk hg
 go_wp2
 have T5 : Touch (fun y => y = w.heap.size + 1) W4 ((((((W4.setCell ⟨w.heap.size + 1, 0, none⟩ (.bool u)).setCell ⟨w.heap.size + 1, 1, none⟩ (.int .i64 r)).setCell ⟨w.heap.size + 1, 2, none⟩ (.slice ba bn cb)).setCell ⟨w.heap.size + 1, 3, none⟩ (.slice da dn cd)).setCell ⟨w.heap.size + 1, 4, none⟩ (.slice ka kn ck)).setCell ⟨w.heap.size + 1, 5, none⟩ (.slice ga gn cg)) := ((((((Touch.refl (fun y => y = w.heap.size + 1) W4).setCell rfl _).setCell rfl _).setCell rfl _).setCell rfl _).setCell rfl _).setCell rfl _
 refine bodyPost_ret (v := ckV u r ba bn cb da dn cd ka kn ck ga gn cg) (by simp [results, Tryz.results87, go_sem, y0, y1, y2, y3, y4, y5]) rfl ⟨ba, cb, B, da, cd, G1, ds, c1, ka, ck, G2, ks, c2, ga, cg, G3, gs, c3, c4, w1.heap.size, w2.heap.size, w3.heap.size, w4.heap.size, rfl, ?_, ?_, ?_, L2.out, M2.out, L3.out, M3.out, L4.out, M4.out⟩
 ·exact BB4.trans (T5.below (by omega) (fun z hz => by have hz : z = w.heap.size + 1 := hz; omega))
 ·simp; omega
 ·have hh := HC.out.touch T5 (fun x hx => Or.inl (by have hx : x = w.heap.size + 1 := hx; omega))
  exact ⟨hh.b, hh.d, hh.k, hh.g, fun h0 => ⟨by have := (hh.rb h0).1; omega, (hh.rb h0).2⟩, hh.rd, hh.rd', hh.rk, hh.rk', hh.rg, hh.rg', hh.rg'', by have := hh.o; omega⟩
theorem madeNG (n : Nat) : ∀ i, i < n -> ∀ r, r < 3 -> (madeCells (Value.agg #[.bool false, .slice none 0 0, .slice none 0 0]).cells (n * 3)).toList[i * 3 + r]? = noG.cs[r]? := by
 intro i hi r hr
 have hc : (Value.agg #[.bool false, .slice none 0 0, .slice none 0 0]).cells = #[.bool false, .slice none 0 0, .slice none 0 0] := by rfl
 rw [hc]
 have h : (madeCells #[Value.bool false, .slice none 0 0, .slice none 0 0] (n * 3)).toList[i * 3 + r]? = some ((#[Value.bool false, .slice none 0 0, .slice none 0 0] : Array Value)[r]!) := by
  simp only [madeCells]
  simp [show i * 3 + r < n * 3 by omega, show (i * 3 + r) % 3 = r by omega]
 rw [h]
 have hcase : r = 0 \/ r = 1 \/ r = 2 := by omega
 rcases hcase with rfl | rfl | rfl <;> rfl
theorem GL.made {base g : Nat} (h : W.ownsRow base 222 3 (.slice (some ⟨g, 0, none⟩) n cap) n (madeCells (Value.agg #[.bool false, .slice none 0 0, .slice none 0 0]).cells (n * 3)).toList) : GL W (some ⟨g, 0, none⟩) g n (fun _ => noG) (fun _ => 0) (fun _ => 0) /\ g < W.heap.size := by
 rcases h.2 with ⟨h', _⟩ | ⟨g', cap', cur, h', hb, hg, _, _, hcs, htake⟩
 ·cases h'
 ·simp only [Value.slice.injEq, Option.some.injEq, Addr.mk.injEq, and_true, true_and] at h'
  obtain ⟨rfl, rfl⟩ := h'
  refine ⟨⟨fun _ => ⟨rfl, cur.toList, by unfold Cel; simpa using hg, fun i hi r hr => ?_⟩, fun i hi => ⟨⟨rfl, .inl rfl⟩, fun h => absurd h (by decide), by decide⟩, fun i hi => ⟨⟨rfl, .inl rfl⟩, fun h => absurd h (by decide), by decide⟩, fun i j _ _ _ h => absurd h (by decide), fun i j _ _ _ h => absurd h (by decide), fun i j _ _ h => absurd h (by decide)⟩, lt_of_block hg⟩
  rw [<- madeNG n i hi r hr, <- htake, List.getElem?_take, if_pos (by omega)]
theorem iforget_any {P : Nat} {x0 x1 x2 x3 x4 : Value} {gc : Nat} (h : Cel w P [x0, x1, x2, x3, x4, .slice ga gn gc] 47) (hn : gn <= 1048576) :
  Calls Tryz.prog 88 #[.pointer (some ⟨P, 0, none⟩)] w fun e w' => ∃ v, e = .returned v /\ Touch (fun x => x = P) w w' /\ Cel w' P [x0, x1, x2, x3, .slice none 0 0, .slice (some ⟨w.heap.size, 0, none⟩) gn gn] 47 /\ GL w' (some ⟨w.heap.size, 0, none⟩) w.heap.size gn (fun _ => noG) (fun _ => 0) (fun _ => 0) /\ w.heap.size < w'.heap.size := by
 obtain ⟨i0, hi, hz0, hz1, hz2⟩ := info_parts Tryz.infoClkGot
 have f4 := h.free 4
 have lP := h.lt
 have c4 := h.cell 4
 have p1 := h.set 4 (.slice none 0 0)
 simp only [qD, qE, qA, qB] at c4 p1
 have T1 : Touch (fun y => y = P) w (w.setCell ⟨P, 4, none⟩ (.slice none 0 0)) := (Touch.refl (fun y => y = P) w).setCell rfl _
 have e1 : (w.setCell ⟨P, 4, none⟩ (.slice none 0 0)).heap.size = w.heap.size := by simp
 go_enter Tryz.func88, Tryz.ntmps88
 go_upto_region 1 with fail
 obtain ⟨W1, hW1⟩ : ∃ W, W = w.setCell ⟨P, 4, none⟩ (.slice none 0 0) := ⟨_, rfl⟩
 rw [<- hW1] at p1 T1 e1 ⊢
 clear hW1 h c4 f4
 have HE : Hid _ := e1
 clear e1
 have c5 := p1.cell 5
 have f5 := p1.free 5
 simp only [qD, qE] at c5
 go_wp2_with (at_make; refine wpList_make_full _ rfl (.tmp 10) (.tmp 10) 45 rfl W1.heap.size 222 i0 (.agg #[.bool false, .slice none 0 0, .slice none 0 0]) 3 Tryz.underlying45 hi hz0 hz1 .i64 .i64 _ _ gn rfl rfl rfl rfl (by rw [hz2]; omega) (by unfold maxLen; omega) (qG _) ?_; intro w2 hown hgrow; have b2 : Below W1.heap.size W1 w2 := (Below.refl _ _).grown hgrow (qG _) (by simp); have p2 := p1.below b2; have y5 := p2.cell 5; have z5 := p2.free 5; simp only [qD, qE] at y5)
 obtain ⟨g2, l2⟩ := GL.made hown
 have p3 := p2.set 5 (.slice (some ⟨W1.heap.size, 0, none⟩) gn gn)
 simp only [qA, qB] at p3
 have T3 : Touch (fun y => y = P) w2 (w2.setCell ⟨P, 5, none⟩ (.slice (some ⟨W1.heap.size, 0, none⟩) gn gn)) := (Touch.refl (fun y => y = P) w2).setCell rfl _
 have lP1 := p1.lt
 have g3 := g2.touch T3 (fun _ e => by have e : W1.heap.size = P := e; omega) (fun i hi h => absurd h (by decide)) (fun i hi h => absurd h (by decide))
 have TT : Touch (fun y => y = P) w (w2.setCell ⟨P, 5, none⟩ (.slice (some ⟨W1.heap.size, 0, none⟩) gn gn)) := (T1.trans (Touch.of b2)).trans T3
 clear hown hgrow hi hz0 hz1 hz2 b2 g2 T1 T3 p1 p2 c5 f5
 go_end0
 rw [HE.out] at p3 g3 TT l2 ⊢
 exact ⟨_, rfl, TT, p3, g3, by simpa using l2⟩
theorem times5_any (xs ys : List Int) {P : Int} {w : World} (h : Ints w a 3 xs) (h' : Ints w c 3 ys) (hP : bndP P xs ys) (h0 : 0 <= P) (hb : P <= 1000000000000) :
  Calls Tryz.prog 232 #[.slice a 3 cap, .slice c 3 cap'] w fun e w' => e = .returned (.int .i64 (dot xs ys 3)) /\ Below w.heap.size w w' := by
 have HP : Hid (bndP P xs ys) := hP
 clear hP
 go_enter Tryz.func232, Tryz.ntmps232
 go_wp2_with fail
 go_loopw [5, 6] (fun s i wr => ∃ k : Nat, k <= 3 /\ i = .int .i64 k /\ s = .int .i64 (dot xs ys k) /\ Below w.heap.size w wr) (fun _ i _ => 3 - (intOf i).toNat)
 case atStart => exact ⟨0, by omega, rfl, rfl, Below.refl _ _⟩
 case round =>
  obtain ⟨k, hk, rfl, rfl, hb'⟩ := hrel
  by_cases hlt : k < 3
  ·obtain ⟨b, off, rfl, hcell⟩ := (h.below hb').pos (by omega)
   obtain ⟨b', off', rfl, hcell'⟩ := (h'.below hb').pos (by omega)
   have hck := hcell k hlt
   have hck' := hcell' k hlt
   have hlt' : (k : Int) < 3 := by omega
   obtain ⟨p1, p2⟩ := HP.out k
   have d := dot_bnd HP.out k
   have kP : (k : Int) * P <= 1000 * P := Int.mul_le_mul_of_nonneg_right (by omega) h0
   have d1 : -1000000000000000 <= dot xs ys k := by omega
   have d2 : dot xs ys k <= 1000000000000000 := by omega
   have d3 : -1000000000000 <= xs[k]?.getD 0 * ys[k]?.getD 0 := by omega
   have d4 : xs[k]?.getD 0 * ys[k]?.getD 0 <= 1000000000000 := by omega
   clear hcell hcell' h h' d kP p1 p2 hb h0
   go_wp2_with fail
   go_quiet (fail)
   go_wp2
   go_roundw
   case rel => exact ⟨k + 1, by omega, by go_num, by simp only [dot], below_drewN hb' _⟩
   case measure => simp [intOf]; omega
  ·obtain rfl : k = 3 := by omega
   go_wp2
   go_ret
   exact ⟨rfl, hb'⟩
def viewB (n m : Nat) (C D : List Int) (ss : List IV) (s : Int) (k : Nat) (E : List Int) : Bool := trtB n m C D && (partsB ss && (inB s 0 ((m : Int) - 1) && okN 3 20000 k E))
def keepsB (g : Int) (E : List Int) (ss : List IV) : Bool := ss.all fun p => inB (dot p.x E 3) (-g) g
theorem keepsB_step (h : k < ss.length) (h1 : keepsB g E (ss.take k) = true) (h2 : inB (dot (ss[k]?.getD noI).x E 3) (-g) g = true) : keepsB g E (ss.take (k + 1)) = true := by
 unfold keepsB at *
 rw [qF h, List.all_append, h1]
 rw [qC h] at h2
 simpa using h2
theorem keepsB_end (h : ss.length <= k) (h1 : keepsB g E (ss.take k) = true) : keepsB g E ss = true := by
 rwa [List.take_of_length_le h] at h1
theorem keepsB_false (h : k < ss.length) (hn : inB (dot (ss[k]?.getD noI).x E 3) (-g) g = false) : keepsB g E ss = false := by
 unfold keepsB
 rw [List.all_eq_false]
 refine ⟨ss[k], List.getElem_mem h, ?_⟩
 rw [qC h] at hn
 simpa using hn
theorem viewB_elim (h : viewB n m C D ss s k E = true) :
  n = 3 /\ bnd 10000 C /\ 1 <= m /\ m <= 3 /\ partsB ss = true /\ 0 <= s /\ s < m /\ k = 3 /\ bnd 20000 E /\ (∀ i : Nat, i < D.length -> 0 <= D[i]?.getD 0 /\ D[i]?.getD 0 <= 50) := by
 simp only [viewB, trtB, Bool.and_eq_true] at h
 obtain ⟨⟨h1, h2, h3⟩, h4, h5, h6⟩ := h
 have a := okN_elim (by omega) h1
 have b := okN_elim (by omega) h6
 have c := inB_iff.1 h2
 have d := inB_iff.1 h5
 refine ⟨by omega, a.2, by omega, by omega, h4, d.1, by omega, by omega, b.2, fun i hi => ?_⟩
 unfold betB at h3
 rw [List.all_eq_true] at h3
 have := inB_iff.1 (h3 D[i] (List.getElem_mem hi))
 rw [qC hi]
 simpa using this
def keepB (n m : Nat) (C D : List Int) (ss : List IV) (s : Int) (k : Nat) (E : List Int) : Bool := viewB n m C D ss s k E && keepsB (D[s.toNat]?.getD 0) E ss
theorem place_in (s : Int) (m : Nat) : decide (0 <= s /\ s < (m : Int)) = inB s 0 ((m : Int) - 1) := by
 unfold inB
 apply decide_eq_decide.2
 omega
abbrev viewV (a : Option Addr) (n cap : Nat) (c : Option Addr) (m cap' : Nat) (ad : Option Addr) (N pc : Nat) (s : Int) (e : Option Addr) (k ec : Nat) (u : Option Addr) (l uc : Nat) : Value := .agg #[.slice a n cap, .slice c m cap', .slice ad N pc, .int .i64 s, .slice e k ec, .slice u l uc]
theorem Cel.sixK {v2 v3 v4 v5 : Value} (h : Cel w B [v0, v1, v2, v3, v4, v5] t) : w.cell? ⟨B, 0, none⟩ = some v0 /\ w.cell? ⟨B, 1, none⟩ = some v1 /\ w.cell? ⟨B, 2, none⟩ = some v2 /\ w.cell? ⟨B, 3, none⟩ = some v3 /\ w.cell? ⟨B, 4, none⟩ = some v4 /\ w.cell? ⟨B, 5, none⟩ = some v5 := ⟨h.cell 0, h.cell 1, h.cell 2, h.cell 3, h.cell 4, h.cell 5⟩
theorem vok_any {u : Option Addr} {l uc : Nat} (C D E : List Int) (ss : List IV) {w : World}
  (hC : Ints w a n C) (hD : Ints w c m D) (hE : Ints w e k E) (hN : ss.length = N) (hF : ISG w ad ss) (hn : n <= 1048576) (hm : m <= 1048576) (hk : k <= 1048576) (hN1 : N <= 1048576) :
  Calls Tryz.prog 253 #[viewV a n cap c m cap' ad N pc s e k ec u l uc] w fun r w' => r = .returned (.bool (viewB n m C D ss s k E)) /\ Below w.heap.size w w' := by
 have HN : Hid (ss.length = N) := hN
 clear hN
 have q0 := Cel.new w [.slice a n cap, .slice c m cap', .slice ad N pc, .int .i64 s, .slice e k ec, .slice u l uc] 334
 have b0 := (Below.refl w.heap.size w).alloc (qG _) (.cells #[.slice a n cap, .slice c m cap', .slice ad N pc, .int .i64 s, .slice e k ec, .slice u l uc] 334)
 cases h1 : trtB n m C D
 ·go_enter Tryz.func253, Tryz.ntmps253
  go_wp2_with fail
  refine (itrt_any C D (hC.below b0) (hD.below b0) hn hm).mono ?_
  rintro r w1 ⟨rfl, b1⟩
  have B1 := btq b0 b1
  rw [h1]
  go_wp2
  go_ret
  exact ⟨ret_bool (by simp [viewB, h1]), B1⟩
 ·cases h2 : partsB ss
  ·go_enter Tryz.func253, Tryz.ntmps253
   go_wp2_with fail
   refine (itrt_any C D (hC.below b0) (hD.below b0) hn hm).mono ?_
   rintro r w1 ⟨rfl, b1⟩
   have B1 := btq b0 b1
   obtain ⟨c0, c1, c2, c3, c4, c5⟩ := (q0.below b1).sixK
   rw [h1]
   go_wp2_with fail
   refine (iparts_any ss HN.out (hF.below B1) hN1).mono ?_
   rintro r w2 ⟨rfl, rfl⟩
   rw [h2]
   go_wp2
   go_ret
   exact ⟨ret_bool (by simp [viewB, h2]), B1⟩
  ·cases h3 : inB s 0 ((m : Int) - 1)
   ·go_enter Tryz.func253, Tryz.ntmps253
    go_wp2_with fail
    refine (itrt_any C D (hC.below b0) (hD.below b0) hn hm).mono ?_
    rintro r w1 ⟨rfl, b1⟩
    have B1 := btq b0 b1
    obtain ⟨c0, c1, c2, c3, c4, c5⟩ := (q0.below b1).sixK
    rw [h1]
    go_wp2_with fail
    refine (iparts_any ss HN.out (hF.below B1) hN1).mono ?_
    rintro r w2 ⟨rfl, rfl⟩
    rw [h2]
    go_wp2_with fail
    refine (place_any).mono ?_
    rintro r w3 ⟨rfl, rfl⟩
    rw [place_in, h3]
    go_wp2
    go_ret
    exact ⟨ret_bool (by simp [viewB, h3]), B1⟩
   ·go_enter Tryz.func253, Tryz.ntmps253
    go_wp2_with fail
    refine (itrt_any C D (hC.below b0) (hD.below b0) hn hm).mono ?_
    rintro r w1 ⟨rfl, b1⟩
    have B1 := btq b0 b1
    obtain ⟨c0, c1, c2, c3, c4, c5⟩ := (q0.below b1).sixK
    rw [h1]
    go_wp2_with fail
    refine (iparts_any ss HN.out (hF.below B1) hN1).mono ?_
    rintro r w2 ⟨rfl, rfl⟩
    rw [h2]
    go_wp2_with fail
    refine (place_any).mono ?_
    rintro r w3 ⟨rfl, rfl⟩
    rw [place_in, h3]
    go_wp2_with fail
    refine (imay_any E (hE.below B1) hk).mono ?_
    rintro r w4 ⟨rfl, rfl⟩
    go_wp2
    go_ret
    exact ⟨ret_bool (by simp [viewB, h1, h2, h3]), B1⟩
theorem vkeeps_any {u : Option Addr} {l uc : Nat} (C D E : List Int) (ss : List IV) {w : World}
  (hD : Ints w c m D) (hE : Ints w e 3 E) (hN : ss.length = N) (hF : ISG w ad ss) (hN1 : N <= 1048576) (hm3 : m <= 3) (hs : 0 <= s) (hs' : s < m) (hp : partsB ss = true) (bE : bnd 20000 E) (bD : ∀ i : Nat, i < D.length -> 0 <= D[i]?.getD 0 /\ D[i]?.getD 0 <= 50) :
  Calls Tryz.prog 254 #[viewV a n cap c m cap' ad N pc s e 3 ec u l uc] w fun r w' => r = .returned (.bool (keepsB (D[s.toNat]?.getD 0) E ss)) /\ Below w.heap.size w w' := by
 have HN : Hid (ss.length = N) := hN
 have HP : Hid (partsB ss = true) := hp
 clear hN hp
 have q0 := Cel.new w [.slice a n cap, .slice c m cap', .slice ad N pc, .int .i64 s, .slice e 3 ec, .slice u l uc] 334
 have b0 := (Below.refl w.heap.size w).alloc (qG _) (.cells #[.slice a n cap, .slice c m cap', .slice ad N pc, .int .i64 s, .slice e 3 ec, .slice u l uc] 334)
 obtain ⟨t, rfl⟩ : ∃ t : Nat, s = t := ⟨s.toNat, by omega⟩
 have ht : t < m := by omega
 have bg := bD t (by rw [hD.1]; exact ht)
 obtain ⟨b, off, rfl, hcell⟩ := (hD.below b0).pos (by omega)
 have hck := hcell t ht
 rw [Int.toNat_natCast]
 have hck' : (w.alloc (.cells #[.slice a n cap, .slice (some ⟨b, off, none⟩) m cap', .slice ad N pc, .int .i64 (t : Int), .slice e 3 ec, .slice u l uc] 334)).cell? ⟨b, off + t, none⟩ = some (.int .i64 (D[t]?.getD 0)) := by rw [hck]; simp
 generalize HG : D[t]?.getD 0 = g at *
 clear HG hck hcell bD hD
 go_enter Tryz.func254, Tryz.ntmps254
 go_wp2_with fail
 go_loopw [5, 16] (fun _ i wr => ∃ k : Nat, k <= N /\ i = .int .i64 k /\ Below w.heap.size w wr /\ Cel wr w.heap.size [.slice a n cap, .slice (some ⟨b, off, none⟩) m cap', .slice ad N pc, .int .i64 (t : Int), .slice e 3 ec, .slice u l uc] 334 /\ keepsB g E (ss.take k) = true) (fun _ i _ => N - (intOf i).toNat)
 case atStart => exact ⟨0, qH _, rfl, b0, q0, rfl⟩
 case round =>
  clear hck' q0 b0
  obtain ⟨k, hk, rfl, hb, q1, hall⟩ := hrel
  have HA : Hid _ := hall
  clear hall
  by_cases hlt : k < N
  ·obtain ⟨b2, off2, rfl, hc, hr⟩ := (hF.below hb) k (by rw [HN.out]; exact hlt)
   have H1 : Hid _ := keepsB_step (g := g) (E := E) (ss := ss) (k := k) (by rw [HN.out]; exact hlt) HA.out
   have H2 : Hid _ := keepsB_false (g := g) (E := E) (ss := ss) (k := k) (by rw [HN.out]; exact hlt)
   have H3 := partsB_at (ss := ss) (k := k) (by rw [HN.out]; exact hlt) HP.out
   generalize HG : ss[k]?.getD noI = p at *
   clear HG hF HA
   obtain ⟨ga, gn, gcap, gx⟩ := p
   obtain ⟨e3, bx⟩ := okN_elim (by omega) H3
   obtain rfl : gn = 3 := by have : (gn : Int) = 3 := e3; omega
   have hP := bndP_of bx bE (by omega) (by omega)
   have hc' : wr.cell? ⟨b2, off2 + k, none⟩ = some (.slice ga 3 gcap) := hc
   have c4 := q1.cell 4
   simp only [qD, qE] at c4
   have hr1 : Ints wr ga 3 gx := hr.1
   clear hc H3 e3
   have dn := dot_bnd hP 3
   go_wp2_with fail
   refine (psum_any gx E hr1 (hE.below hb) (by omega) hP (by omega) (by omega)).mono ?_
   rintro r w1 ⟨rfl, rfl⟩
   have H1' : Hid (inB (dot gx E 3) (-g) g = true -> keepsB g E (ss.take (k + 1)) = true) := H1
   have H2' : Hid (inB (dot gx E 3) (-g) g = false -> keepsB g E ss = false) := H2
   generalize HG : dot gx E 3 = x at *
   clear HG H1 H2 hP dn
   go_wp2_with fail
   refine (within_any (some ⟨w1.heap.size, 0, none⟩) 1 1 [x] ?_ (by omega) (by omega) (by omega)).mono ?_
   ·refine ⟨rfl, fun i hi => ⟨w1.heap.size, 0, rfl, ?_⟩⟩
    obtain rfl : i = 0 := by omega
    simp [go_sem]
   rintro r w2 ⟨rfl, rfl⟩
   rw [allB_one]
   cases he : inB x (-g) g
   ·go_wp2
    go_ret
    exact ⟨ret_bool (by rw [H2'.out he]), hb.alloc hb.size _⟩
   ·go_wp2
    go_roundw
    case rel => exact ⟨k + 1, by omega, by go_num, hb.alloc hb.size _, q1.alloc _, H1'.out he⟩
    case measure => simp [intOf]; omega
  ·go_wp2
   go_ret
   exact ⟨ret_bool (by rw [keepsB_end (by rw [HN.out]; omega) HA.out]), hb⟩
theorem ikeep_any (C D E : List Int) (ss : List IV) {w : World}
  (hC : Ints w a n C) (hD : Ints w c m D) (hE : Ints w e k E) (hN : ss.length = N) (hF : ISG w ad ss) (hn : n <= 1048576) (hm : m <= 1048576) (hk : k <= 1048576) (hN1 : N <= 1048576) :
  Calls Tryz.prog 234 #[treV a n cap c m cap', .slice ad N pc, .int .i64 s, .slice e k ec] w fun r w' => r = .returned (.bool (keepB n m C D ss s k E)) /\ Below w.heap.size w w' := by
 have HN : Hid (ss.length = N) := hN
 clear hN
 have B0 : Below w.heap.size w ((w.alloc (.cells #[.slice a n cap, .slice c m cap'] 149)).alloc (.cells #[.slice a n cap, .slice c m cap', .slice ad N pc, .int .i64 s, .slice e k ec, .slice none 0 0] 334)) := ((Below.refl w.heap.size w).alloc (qG _) _).alloc (by simp) _
 have q0 := Cel.new (w.alloc (.cells #[.slice a n cap, .slice c m cap'] 149)) [.slice a n cap, .slice c m cap', .slice ad N pc, .int .i64 s, .slice e k ec, .slice none 0 0] 334
 rw [World.size_alloc] at q0
 cases h1 : viewB n m C D ss s k E
 ·go_enter Tryz.func234, Tryz.ntmps234
  go_wp2_with fail
  refine (vok_any C D E ss (hC.below B0) (hD.below B0) (hE.below B0) HN.out (hF.below B0) hn hm hk hN1).mono ?_
  rintro r w1 ⟨rfl, b1⟩
  have B1 := btq B0 b1
  rw [h1]
  go_wp2
  go_ret
  exact ⟨ret_bool (by simp [keepB, h1]), B1⟩
 ·obtain ⟨-, -, m1, m2, hp0, s0, s1, e2, bE, bD⟩ := viewB_elim h1
  have hp : Hid _ := hp0
  clear hp0
  subst e2
  go_enter Tryz.func234, Tryz.ntmps234
  go_wp2_with fail
  refine (vok_any C D E ss (hC.below B0) (hD.below B0) (hE.below B0) HN.out (hF.below B0) hn hm hk hN1).mono ?_
  rintro r w1 ⟨rfl, b1⟩
  have B1 := btq B0 b1
  obtain ⟨c0, c1, c2, c3, c4, c5⟩ := (q0.below b1).sixK
  rw [h1]
  have HK : Hid _ := h1
  clear h1
  go_wp2_with fail
  refine (vkeeps_any C D E ss (hD.below B1) (hE.below B1) HN.out (hF.below B1) hN1 m2 s0 s1 hp.out bE bD).mono ?_
  rintro r w2 ⟨rfl, b2⟩
  have B2 := btq B1 b2
  go_wp2
  go_ret
  exact ⟨ret_bool (by rw [keepB, HK.out]; rfl), B2⟩
theorem skeep_any (C D E : List Int) (ss : List IV) {w : World}
  (hC : Ints w a n C) (hD : Ints w c m D) (hE : Ints w e k E) (hN : ss.length = N) (hF : ISG w ad ss) (hn : n <= 1048576) (hm : m <= 1048576) (hk : k <= 1048576) (hN1 : N <= 1048576) :
  Calls Tryz.prog 183 #[treV a n cap c m cap', .slice ad N pc, .int .i64 s, .slice e k ec] w fun r w' => r = .returned (.bool (keepB n m C D ss s k E)) /\ Below w.heap.size w w' := by
 have HN : Hid (ss.length = N) := hN
 clear hN
 have b0 := (Below.refl w.heap.size w).alloc (qG _) (.cells #[.slice a n cap, .slice c m cap'] 149)
 have q0 := Cel.new w [.slice a n cap, .slice c m cap'] 149
 cases h1 : trtB n m C D
 ·go_enter Tryz.func183, Tryz.ntmps183
  go_wp2_with fail
  refine (strt_any C D (hC.below b0) (hD.below b0) hn hm).mono ?_
  rintro r w1 ⟨rfl, b1⟩
  have B1 := btq b0 b1
  rw [h1]
  go_wp2
  go_ret
  exact ⟨ret_bool (by simp [keepB, viewB, h1]), B1⟩
 cases h2 : partsB ss
 ·go_enter Tryz.func183, Tryz.ntmps183
  go_wp2_with fail
  refine (strt_any C D (hC.below b0) (hD.below b0) hn hm).mono ?_
  rintro r w1 ⟨rfl, b1⟩
  have B1 := btq b0 b1
  rw [h1]
  go_wp2_with fail
  refine (sparts_any ss HN.out (hF.below B1) hN1).mono ?_
  rintro r w2 ⟨rfl, rfl⟩
  rw [h2]
  go_wp2
  go_ret
  exact ⟨ret_bool (by simp [keepB, viewB, h2]), B1⟩
 cases h3 : inB s 0 ((m : Int) - 1)
 ·go_enter Tryz.func183, Tryz.ntmps183
  go_wp2_with fail
  refine (strt_any C D (hC.below b0) (hD.below b0) hn hm).mono ?_
  rintro r w1 ⟨rfl, b1⟩
  have B1 := btq b0 b1
  have c1 := (q0.below b1).cell 1
  simp only [qD, qE] at c1
  rw [h1]
  go_wp2_with fail
  refine (sparts_any ss HN.out (hF.below B1) hN1).mono ?_
  rintro r w2 ⟨rfl, rfl⟩
  rw [h2]
  go_wp2_with fail
  refine (in_any).mono ?_
  rintro r w3 ⟨rfl, rfl⟩
  rw [h3]
  go_wp2
  go_ret
  exact ⟨ret_bool (by simp [keepB, viewB, h3]), B1⟩
 cases h4 : okN 3 20000 k E
 ·go_enter Tryz.func183, Tryz.ntmps183
  go_wp2_with fail
  refine (strt_any C D (hC.below b0) (hD.below b0) hn hm).mono ?_
  rintro r w1 ⟨rfl, b1⟩
  have B1 := btq b0 b1
  have c1 := (q0.below b1).cell 1
  simp only [qD, qE] at c1
  rw [h1]
  go_wp2_with fail
  refine (sparts_any ss HN.out (hF.below B1) hN1).mono ?_
  rintro r w2 ⟨rfl, rfl⟩
  rw [h2]
  go_wp2_with fail
  refine (in_any).mono ?_
  rintro r w3 ⟨rfl, rfl⟩
  rw [h3]
  go_wp2_with fail
  refine (all_any E (hE.below B1) hk (by omega) (by omega)).mono ?_
  rintro r w4 ⟨rfl, rfl⟩
  rw [h4]
  go_wp2
  go_ret
  exact ⟨ret_bool (by simp [keepB, viewB, h4]), B1⟩
 have hv : viewB n m C D ss s k E = true := by simp [viewB, h1, h2, h3, h4]
 obtain ⟨-, -, m1, m2, hp0, s0, s1, e2, bE, bD⟩ := viewB_elim hv
 have HP : Hid _ := hp0
 have HV : Hid _ := hv
 have H1 : Hid _ := h1
 have H2 : Hid _ := h2
 have H3 : Hid _ := h3
 have H4 : Hid _ := h4
 clear hp0 hv h1 h2 h3 h4
 subst e2
 obtain ⟨t, rfl⟩ : ∃ t : Nat, s = t := ⟨s.toNat, by omega⟩
 have ht : t < m := by omega
 have bg := bD t (by rw [hD.1]; exact ht)
 obtain ⟨b, off, rfl, hcell⟩ := hD.pos (by omega)
 have hck := hcell t ht
 have hck' : w.cell? ⟨b, off + t, none⟩ = some (.int .i64 (D[t]?.getD 0)) := by rw [hck]; simp
 have hkb : keepB n m C D ss t 3 E = keepsB (D[t]?.getD 0) E ss := by rw [keepB, HV.out]; simp
 rw [hkb]
 clear hkb
 generalize HG : D[t]?.getD 0 = g at *
 clear HG hck hcell bD
 have ht' : (t : Int) < (m : Int) := by omega
 go_enter Tryz.func183, Tryz.ntmps183
 go_wp2_with fail
 refine (strt_any C D (hC.below b0) (hD.below b0) hn hm).mono ?_
 rintro r w1 ⟨rfl, b1⟩
 have B1 := btq b0 b1
 have q1 := q0.below b1
 have c1 := q1.cell 1
 simp only [qD, qE] at c1
 rw [H1.out]
 go_wp2_with fail
 refine (sparts_any ss HN.out (hF.below B1) hN1).mono ?_
 rintro r w2 ⟨rfl, rfl⟩
 rw [H2.out]
 go_wp2_with fail
 refine (in_any).mono ?_
 rintro r w3 ⟨rfl, rfl⟩
 rw [H3.out]
 go_wp2_with fail
 refine (all_any E (hE.below B1) hk (by omega) (by omega)).mono ?_
 rintro r w4 ⟨rfl, rfl⟩
 rw [H4.out]
 have dk : w4.cell? ⟨b, off + t, none⟩ = some (.int .i64 g) := by rw [B1.cell (p := ⟨b, off + t, none⟩) (block_lt hck')]; exact hck'
 clear c1 b1 b0 q0 hC hD
 go_wp2_with fail
 go_loopw [9] (fun i wr => ∃ k : Nat, k <= N /\ i = .int .i64 k /\ Below w.heap.size w wr /\ Cel wr w.heap.size [.slice a n cap, .slice (some ⟨b, off, none⟩) m cap'] 149 /\ keepsB g E (ss.take k) = true) (fun i _ => N - (intOf i).toNat)
 case atStart => exact ⟨0, qH _, rfl, B1, q1, rfl⟩
 case round =>
  clear dk B1 q1
  obtain ⟨j, hj, rfl, hb, q1, hall⟩ := hrel
  have HA : Hid _ := hall
  clear hall
  by_cases hlt : j < N
  ·obtain ⟨b2, off2, rfl, hc, hr⟩ := (hF.below hb) j (by rw [HN.out]; exact hlt)
   have H1 : Hid _ := keepsB_step (g := g) (E := E) (ss := ss) (k := j) (by rw [HN.out]; exact hlt) HA.out
   have H2 : Hid _ := keepsB_false (g := g) (E := E) (ss := ss) (k := j) (by rw [HN.out]; exact hlt)
   have H3 := partsB_at (ss := ss) (k := j) (by rw [HN.out]; exact hlt) HP.out
   have dk : wr.cell? ⟨b, off + t, none⟩ = some (.int .i64 g) := by rw [hb.cell (p := ⟨b, off + t, none⟩) (block_lt hck')]; exact hck'
   generalize HG : ss[j]?.getD noI = p at *
   clear HG hF HA
   obtain ⟨ga, gn, gcap, gx⟩ := p
   obtain ⟨e3, bx⟩ := okN_elim (by omega) H3
   obtain rfl : gn = 3 := by have : (gn : Int) = 3 := e3; omega
   have hP := bndP_of bx bE (by omega) (by omega)
   have hr1 : Ints wr ga 3 gx := hr.1
   have hE1 := hE.below hb
   have hc' : wr.cell? ⟨b2, off2 + j, none⟩ = some (.slice ga 3 gcap) := hc
   have H1' : Hid (inB (dot gx E 3) (-g) g = true -> keepsB g E (ss.take (j + 1)) = true) := H1
   have H2' : Hid (inB (dot gx E 3) (-g) g = false -> keepsB g E ss = false) := H2
   clear hc H3 e3 hr H1 H2 hck' hE
   have hlt' : (j : Int) < (N : Int) := by omega
   go_upto_region 6 with fail
   have hn0 : wr.cell? ⟨w.heap.size, 1, none⟩ = some (.slice (some ⟨b, off, none⟩) m cap') /\ wr.cell? ⟨b, off + t, none⟩ = some (.int .i64 g) /\ wr.cell? ⟨b2, off2 + j, none⟩ = some (.slice ga 3 gcap) := ⟨q1.cell 1, dk, hc'⟩
   go_region_held3 (fun w' => w'.cell? ⟨w.heap.size, 1, none⟩ = some (.slice (some ⟨b, off, none⟩) m cap') /\ w'.cell? ⟨b, off + t, none⟩ = some (.int .i64 g) /\ w'.cell? ⟨b2, off2 + j, none⟩ = some (.slice ga 3 gcap)) (first | with_reducible assumption | exact hn0)
    (first
     | (go_at_call 232
        refine (times5_any gx E (by exact hr1.below (Below.refl _ _).drew) (by exact hE1.below (Below.refl _ _).drew) hP (by omega) (by omega)).mono ?_
        rintro ee w3 ⟨rfl, b3⟩
        have b3' := below_of_drew b3
        have q3 := q1.below b3'
        have d3 := (b3'.cell (p := ⟨b, off + t, none⟩) (block_lt dk)).trans dk
        have e3 := (b3'.cell (p := ⟨b2, off2 + j, none⟩) (block_lt hc')).trans hc'
        have hn3 : w3.cell? ⟨w.heap.size, 1, none⟩ = some (.slice (some ⟨b, off, none⟩) m cap') /\ w3.cell? ⟨b, off + t, none⟩ = some (.int .i64 g) /\ w3.cell? ⟨b2, off2 + j, none⟩ = some (.slice ga 3 gcap) := ⟨q3.cell 1, d3, e3⟩)
     | (go_at_call 104
        refine (in_any).mono ?_
        rintro ee w4 ⟨rfl, rfl⟩))
   have hb2 := btq hb b3'
   have hw : IntKind.i64.wrap (-g) = -g := wrap_id (by omega) (by omega)
   rw [hw]
   cases he : inB (dot gx E 3) (-g) g
   ·go_wp2
    go_ret
    exact ⟨ret_bool (by rw [H2'.out he]), hb2⟩
   ·go_wp2
    go_roundw
    case rel => exact ⟨j + 1, by omega, by go_num, hb2, q3, H1'.out he⟩
    case measure => simp [intOf]; omega
  ·go_wp2
   go_ret
   exact ⟨ret_bool (by rw [keepsB_end (by rw [HN.out]; omega) HA.out]), hb⟩
theorem copies_pair (hl : ts.length = ss.length) (h : copiesIS ss ts) : ts.map (fun p => (p.n, p.x)) = ss.map (fun p => (p.n, p.x)) := by
 apply List.ext_getElem?
 intro i
 by_cases hi : i < ts.length
 ·have h0 := h i hi
  have h1 := h0.1
  have h2 := h0.2
  rw [qC hi, qC (by omega)] at h1 h2
  simp only [Option.getD_some] at h1 h2
  rw [List.getElem?_map, List.getElem?_map, qC hi, qC (by omega)]
  simp [h1, h2]
 ·rw [List.getElem?_eq_none (by simp; omega), List.getElem?_eq_none (by simp; omega)]
theorem partsB_copy (hl : ts.length = ss.length) (h : copiesIS ss ts) : partsB ts = partsB ss := by
 have e : ∀ l : List IV, partsB l = (l.map (fun p => (p.n, p.x))).all fun q => okN 3 10000000 q.1 q.2 := fun l => by rw [List.all_map]; rfl
 rw [e, e, copies_pair hl h]
theorem keepsB_copy (hl : ts.length = ss.length) (h : copiesIS ss ts) : keepsB g E ts = keepsB g E ss := by
 have e : ∀ l : List IV, keepsB g E l = (l.map (fun p => (p.n, p.x))).all fun q => inB (dot q.2 E 3) (-g) g := fun l => by rw [List.all_map]; rfl
 rw [e, e, copies_pair hl h]
theorem viewB_copy (hl : ts.length = ss.length) (h : copiesIS ss ts) : viewB n m C D ts s k E = viewB n m C D ss s k E := by
 rw [viewB, viewB, partsB_copy hl h]
theorem keepB_copy (hl : ts.length = ss.length) (h : copiesIS ss ts) : keepB n m C D ts s k E = keepB n m C D ss s k E := by
 rw [keepB, keepB, viewB_copy hl h, keepsB_copy hl h]
theorem Cel.two (h : Cel w B [v0, v1] t) : w.cell? ⟨B, 0, none⟩ = some v0 /\ w.cell? ⟨B, 1, none⟩ = some v1 := ⟨h.cell 0, h.cell 1⟩
theorem Cel.three {v2 : Value} (h : Cel w B [v0, v1, v2] t) : w.cell? ⟨B, 0, none⟩ = some v0 /\ w.cell? ⟨B, 1, none⟩ = some v1 /\ w.cell? ⟨B, 2, none⟩ = some v2 := ⟨h.cell 0, h.cell 1, h.cell 2⟩
def rowsB (N : Nat) (ls : List LV) : List RowM := if actB N ls then rowsL ls else []
theorem JR.noRows (w : World) : JR w w.heap.size 0 [] [] (w.alloc (.cells #[] 159)) :=
 ⟨bal, World.ownsRow_lit w #[] 0 (qG _) (by unfold maxLen; omega) rfl, fun j hj => by simp at hj⟩
theorem actB_parts (h : actB N ls = true) : N <= 6 /\ ls.all LV.ok = true := by
 simp only [actB, Bool.and_eq_true, decide_eq_true_eq] at h
 exact ⟨by omega, h.1.2⟩
theorem way0_at {a0 a1 a2 c0 c1 c2 : Option Addr} {x0 x1 x2 y0 y1 y2 : Nat} (h : Cel W B [.slice a0 3 x0, .slice c0 2 y0, .int .i64 0, .slice a1 3 x1, .slice c1 2 y1, .int .i64 0, .slice a2 3 x2, .slice c2 2 y2, .int .i64 0] 151)
  (i0 : Ints W a0 3 ([0, 0, 0].set 0 1)) (j0 : Ints W c0 2 [0, 0]) (i1 : Ints W a1 3 ([0, 0, 0].set 1 1)) (j1 : Ints W c1 2 [0, 0]) (i2 : Ints W a2 3 ([0, 0, 0].set 2 1)) (j2 : Ints W c2 2 [0, 0]) : FormsAt W (some ⟨B, 0, none⟩) way0.pots := fun i hi => by
 have hi' : i < 3 := hi
 match i, hi' with
 | 0, _ => exact ⟨B, 0, rfl, a0, c0, x0, y0, h.cell 0, h.cell 1, h.cell 2, i0, j0⟩
 | 1, _ => exact ⟨B, 0, rfl, a1, c1, x1, y1, h.cell 3, h.cell 4, h.cell 5, i1, j1⟩
 | 2, _ => exact ⟨B, 0, rfl, a2, c2, x2, y2, h.cell 6, h.cell 7, h.cell 8, i2, j2⟩
theorem FormsAt.noForms : FormsAt W a [] := fun i hi => by simp at hi
theorem srows_any (ls : List LV) {w : World} (hN : ls.length = N) (hF : LinesG w ad ls) (hN1 : N <= 1048576) :
  Calls Tryz.prog 109 #[.slice ad N cap] w fun e w' => ∃ G cp xs, e = .returned (.slice (some ⟨G, 0, none⟩) (rowsB N ls).length cp) /\ JR w G cp xs (rowsB N ls) w' := by
 have HN : Hid (ls.length = N) := hN
 clear hN
 obtain ⟨u, hu⟩ : ∃ u, actB N ls = u := ⟨_, rfl⟩
 have HU : Hid (actB N ls = u) := hu
 go_enter Tryz.func109, Tryz.ntmps109
 go_wp2_with fail
 refine (sact_any ls HN.out hF hN1).mono ?_
 rintro e w1 ⟨rfl, b1⟩
 rw [hu]
 clear hu
 cases u with
 | false =>
  have J := (JR.noRows w1).mono b1
  go_wp2
  go_ret
  rw [rowsB, HU.out]
  exact ⟨_, _, _, rfl, J⟩
 | true =>
  obtain ⟨h6, hall⟩ := actB_parts HU.out
  have HA : Hid (ls.all LV.ok = true) := hall
  clear hall
  go_wp2_with fail
  refine (spot_any).mono ?_
  rintro ee w2 ⟨a0, n0, x0, c0, m0, y0, Z1, Z2, rfl, L1, L2, b2, o1, o2, -, -, -⟩
  rw [potC_in (0 : Int) 0 rfl (by omega)] at L1 o1
  rw [potD_in (0 : Int) (by omega) (by omega)] at L2 o2
  obtain rfl : n0 = 3 := by rw [<- L1]; simp
  obtain rfl : m0 = 2 := by rw [<- L2]; simp
  have i0 := o1.ints
  have j0 := o2.ints
  rw [L1] at i0
  rw [L2] at j0
  clear o1 o2 L1 L2 Z1 Z2
  go_wp2_with fail
  refine (spot_any).mono ?_
  rintro ee w3 ⟨a1, n1, x1, c1, m1, y1, Z1, Z2, rfl, L1, L2, b3, o1, o2, -, -, -⟩
  rw [potC_in (1 : Int) 1 rfl (by omega)] at L1 o1
  rw [potD_in (1 : Int) (by omega) (by omega)] at L2 o2
  obtain rfl : n1 = 3 := by rw [<- L1]; simp
  obtain rfl : m1 = 2 := by rw [<- L2]; simp
  have i1 := o1.ints
  have j1 := o2.ints
  rw [L1] at i1
  rw [L2] at j1
  clear o1 o2 L1 L2 Z1 Z2
  go_wp2_with fail
  refine (spot_any).mono ?_
  rintro ee w4 ⟨a2, n2, x2, c2, m2, y2, Z1, Z2, rfl, L1, L2, b4, o1, o2, -, -, -⟩
  rw [potC_in (2 : Int) 2 rfl (by omega)] at L1 o1
  rw [potD_in (2 : Int) (by omega) (by omega)] at L2 o2
  obtain rfl : n2 = 3 := by rw [<- L1]; simp
  obtain rfl : m2 = 2 := by rw [<- L2]; simp
  have i2 := o1.ints
  have j2 := o2.ints
  rw [L1] at i2
  rw [L2] at j2
  clear o1 o2 L1 L2 Z1 Z2
  have B2 := btq b1 b2
  have B3 := btq B2 b3
  have B4 := btq B3 b4
  have A1 : Below w4.heap.size w4 (w4.alloc (.cells #[.slice a0 3 x0, .slice c0 2 y0, .int .i64 0, .slice a1 3 x1, .slice c1 2 y1, .int .i64 0, .slice a2 3 x2, .slice c2 2 y2, .int .i64 0] 151)) := bal
  have A2 := (A1.alloc A1.size (.cells #[] 151))
  have A3 := (A2.alloc A2.size (.cells #[] 151))
  have i0' := ((i0.below b3).below b4).below A3
  have j0' := ((j0.below b3).below b4).below A3
  have i1' := (i1.below b4).below A3
  have j1' := (j1.below b4).below A3
  have i2' := i2.below A3
  have j2' := j2.below A3
  have nb := ((Cel.new w4 [.slice a0 3 x0, .slice c0 2 y0, .int .i64 0, .slice a1 3 x1, .slice c1 2 y1, .int .i64 0, .slice a2 3 x2, .slice c2 2 y2, .int .i64 0] 151).alloc (.cells #[] 151)).alloc (.cells #[] 151)
  have FP := way0_at nb i0' j0' i1' j1' i2' j2'
  have BA := btq B4 A3
  clear i0 j0 i1 j1 i2 j2 i0' j0' i1' j1' i2' j2' nb B2 B3 b2 b3 b4
  go_wp2_with fail
  refine (swalk_any ad N cap ls HN.out h6 HA.out 7 0 way0 _ _ _ _ _ _ _ _ _ (by omega) (by omega) (by omega) WayOk.start rfl rfl (hF.below BA) FP FormsAt.noForms FormsAt.noForms).mono ?_
  rintro ee w5 ⟨G, cp, xs, rfl, J⟩
  have J' := J.mono BA
  clear J FP
  go_wp2
  go_ret
  rw [rowsB, HU.out]
  exact ⟨G, cp, xs, rfl, J'⟩
def Bools (W : World) (a : Option Addr) (f : Nat -> Bool) : Prop := ∃ b off, a = some ⟨b, off, none⟩ /\ ∀ v, v < 3 -> W.cell? ⟨b, off + v, none⟩ = some (.bool (f v))
theorem Bools.below (h : Bools W a f) (b : Below W.heap.size W W') : Bools W' a f := by
 obtain ⟨b0, off, e, hc⟩ := h
 exact ⟨b0, off, e, fun v hv => (b.cell (p := ⟨b0, off + v, none⟩) (block_lt (hc v hv))).trans (hc v hv)⟩
def OwnB (W : World) (G : Nat) (f : Nat -> Bool) : Prop := ∃ cur : List Value, Cel W G cur 4 /\ ∀ v, v < 3 -> cur[v]? = some (.bool (f v))
theorem OwnB.lt (h : OwnB W G f) : G < W.heap.size := by obtain ⟨cur, hc, _⟩ := h; exact hc.lt
theorem OwnB.bools (h : OwnB W G f) : Bools W (some ⟨G, 0, none⟩) f := by
 obtain ⟨cur, hc, hv⟩ := h
 exact ⟨G, 0, rfl, fun v hh => by rw [Nat.zero_add, hc.cell v]; exact hv v hh⟩
theorem OwnB.set (h : OwnB W G f) {u : Nat} (hu : u < 3) (x : Bool) : OwnB (W.setCell ⟨G, u, none⟩ (.bool x)) G (fun v => if v = u then x else f v) := by
 obtain ⟨cur, hc, hv⟩ := h
 have hl : u < cur.length := (List.getElem?_eq_some_iff.1 (hv u hu)).1
 refine ⟨_, hc.set u _, fun v hh => ?_⟩
 by_cases e : v = u
 ·subst e; rw [List.getElem?_set_self hl]; simp
 ·rw [List.getElem?_set_ne (by omega)]; simp only [e, if_false]; exact hv v hh
theorem OwnB.ext {g : Nat -> Bool} (h : OwnB W G f) (e : ∀ v, v < 3 -> f v = g v) : OwnB W G g := by
 obtain ⟨cur, hc, hv⟩ := h
 exact ⟨cur, hc, fun v hh => by rw [<- e v hh]; exact hv v hh⟩
def hasP (f : Frm) (v : Nat) : Bool := f.1[v]?.getD 0 != 0
def readsF (r : Nat -> Bool) (fs : List Frm) (v : Nat) : Bool := r v || fs.any (fun f => hasP f v)
theorem readsF_snoc (r : Nat -> Bool) (fs : List Frm) (k : Nat) (hk : k < fs.length) (v : Nat) : readsF r (fs.take (k + 1)) v = (readsF r (fs.take k) v || hasP (fs[k]?.getD ([], [], 0)) v) := by
 rw [readsF, readsF, qF hk, List.any_append, qC hk]
 simp [Bool.or_assoc]
theorem Tryz.infoBool : (Tryz.prog.info? 4).map (fun i => (i.zero, i.size, i.bytes)) = some (some (.bool false), 1, 1) := by kernel_rfl
theorem sreads_any {pa : Option Addr} {r : Nat -> Bool} (fs : List Frm) {w : World} (hB : Bools w pa r) (hN : fs.length = N) (hF : FormsAt w ad fs) (hfit : ∀ k, k < N -> fitX 10000000 (fs[k]?.getD ([], [], 0))) (hN1 : N <= 1048576) :
  Calls Tryz.prog 110 #[.slice pa 3 pc, .slice ad N cap] w fun e w' => ∃ G cG, e = .returned (.slice (some ⟨G, 0, none⟩) 3 cG) /\ Below w.heap.size w w' /\ w.heap.size <= G /\ OwnB w' G (readsF r fs) := by
 have HN : Hid (fs.length = N) := hN
 have HF : Hid (FormsAt w ad fs) := hF
 have HFT : Hid _ := hfit
 clear hN hF hfit
 obtain ⟨zi, hi, hz0, hz1, hz2⟩ := info_parts Tryz.infoBool
 obtain ⟨pb, po, rfl, hpc⟩ := hB
 have A : Below w.heap.size w (w.alloc (.cells #[] 4)) := bal
 have HOL := World.ownsRow_lit (e := 4) (size := 1) (base := w.heap.size) w #[] 0 (qG _) (by unfold maxLen; omega) rfl
 have HNW : Hid (∀ j u, ([.bool (r 0), .bool (r 1), .bool (r 2)] : List Value)[j]? = some u -> (w.alloc (.cells #[] 4)).cell? ((⟨pb, po, none⟩ : Addr).add j) = some u) := fun j u hu => by
  have hadd : (⟨pb, po, none⟩ : Addr).add j = ⟨pb, po + j, none⟩ := by
   by_cases h0 : j = 0
   ·subst h0; simp [Addr.add]
   ·simp [Addr.add, h0]
  rw [hadd]
  have key : ∀ v, v < 3 -> (w.alloc (.cells #[] 4)).cell? ⟨pb, po + v, none⟩ = some (.bool (r v)) := fun v hv => by rw [A.cell (p := ⟨pb, po + v, none⟩) (block_lt (hpc v hv))]; exact hpc v hv
  match j with
  | 0 => simp only [qD, Option.some.injEq] at hu; subst hu; exact key 0 (by omega)
  | 1 => simp only [qD, qE, Option.some.injEq] at hu; subst hu; exact key 1 (by omega)
  | 2 => simp only [qD, qE, Option.some.injEq] at hu; subst hu; exact key 2 (by omega)
  | j + 3 => simp at hu
 clear hpc
 go_enter Tryz.func110, Tryz.ntmps110
 go_wp2_with (at_builtin; go_must (refine wpList_append_lies _ rfl (.tmp 8) (.tmp 9) 76 rfl w.heap.size 4 zi _ 1 1 Tryz.underlying76 hi hz0 hz1 hz2 rfl (by decide) (.slice (some ⟨w.heap.size, 0, none⟩) 0 0) 0 [] rfl HOL ⟨pb, po, none⟩ 3 pc [.bool (r 0), .bool (r 1), .bool (r 2)] rfl rfl HNW.out (by simp [Value.oneCell']) (by omega) (by unfold maxLen; omega) (by omega) (by rw [World.size_alloc]; omega) _ rfl ?_); intro G cG w1 hown hgrow hat hlt1)
 have b1 : Below w.heap.size w w1 := A.grown hgrow A.size (fun k hk => by have h' : some w.heap.size = some k := hk; simp only [Option.some.injEq] at h'; omega)
 have o1 : OwnB w1 G (readsF r (fs.take 0)) /\ w.heap.size <= G := by
  rcases hown.2 with ⟨h', _⟩ | ⟨g', cap', cur, h', hb, hg, _, _, hcs, htake⟩
  ·cases h'
  ·simp only [Value.slice.injEq, Option.some.injEq, Addr.mk.injEq, and_true, true_and] at h'
   obtain ⟨rfl, rfl⟩ := h'
   refine ⟨⟨cur.toList, by unfold Cel; simpa using hg, fun v hv => ?_⟩, hb⟩
   have h1 : (cur.toList.take ((0 + 3) * 1))[v]? = ([.bool (r 0), .bool (r 1), .bool (r 2)] : List Value)[v]? := by rw [htake]; rfl
   rw [List.getElem?_take, if_pos (by omega)] at h1
   rw [h1]
   match v, hv with
   | 0, _ => simp [readsF]
   | 1, _ => simp [readsF]
   | 2, _ => simp [readsF]
 obtain ⟨o1, lG⟩ := o1
 clear hown hgrow hat HNW HOL A
 go_wp2_with fail
 go_loopw [6, 7] (fun i _ wr => ∃ k : Nat, k <= N /\ i = .int .i64 k /\ Below w.heap.size w wr /\ OwnB wr G (readsF r (fs.take k))) (fun i _ _ => N - (intOf i).toNat)
 case atStart => exact ⟨0, qH _, rfl, b1, o1⟩
 case round =>
  clear b1 o1
  obtain ⟨k, hk, rfl, hb, o⟩ := hrel
  by_cases hlt : k < N
  ·have hlt' : (k : Int) < N := by omega
   have hkl : k < fs.length := by rw [HN.out]; exact hlt
   have HS : Hid (∀ v, readsF r (fs.take (k + 1)) v = (readsF r (fs.take k) v || hasP (fs[k]?.getD ([], [], 0)) v)) := fun v => readsF_snoc r fs k hkl v
   have hfit := HFT.out k hlt
   obtain ⟨lC, -, -, -, -, -⟩ := hfit
   have o' : OwnB wr G (fun v => if v < 0 then readsF r (fs.take (k + 1)) v else readsF r (fs.take k) v) := o.ext (fun v hv => by simp)
   clear o
   have HW : Hid (Below w.heap.size w wr) := hb
   clear hb
   go_wp2_with fail
   go_loopw [7] (fun v w2 => ∃ u : Nat, u <= 3 /\ v = .int .i64 u /\ Below w.heap.size w w2 /\ OwnB w2 G (fun v => if v < u then readsF r (fs.take (k + 1)) v else readsF r (fs.take k) v)) (fun v _ => 3 - (intOf v).toNat)
   case atStart => exact ⟨0, by omega, rfl, HW.out, o'⟩
   case round =>
    clear o' HW
    obtain ⟨u, hu, rfl, hb, o⟩ := hrel
    by_cases hu3 : u < 3
    ·have hu' : (u : Int) < 3 := by omega
     obtain ⟨b, off, rfl, a', c', ca, cc, c0, c1, c2, iC, iD⟩ := (HF.out.keep hb) k hkl
     obtain ⟨cb, co, rfl, cv⟩ := iC.2 u hu3
     have hval : (fs[k]?.getD ([], [], 0)).1.getD u 0 = (fs[k]?.getD ([], [], 0)).1[u]?.getD 0 := by rw [List.getD_eq_getElem?_getD]
     rw [hval] at cv
     have HH : Hid (hasP (fs[k]?.getD ([], [], 0)) u = ((fs[k]?.getD ([], [], 0)).1[u]?.getD 0 != 0)) := rfl
     generalize (fs[k]?.getD ([], [], 0)).1[u]?.getD 0 = z at *
     have lG2 := o.lt
     by_cases hz : z = 0
     ·have hz' : (z != 0) = false := by simp [hz]
      have O2 : OwnB wr G (fun v => if v < u + 1 then readsF r (fs.take (k + 1)) v else readsF r (fs.take k) v) := o.ext (fun v hv => by
       by_cases e : v = u
       ·subst e; simp only [Nat.lt_irrefl, if_false, Nat.lt_succ_self, if_true]; rw [HS.out, HH.out, hz']; simp
       ·by_cases e2 : v < u
        ·rw [if_pos e2, if_pos (by omega)]
        ·rw [if_neg e2, if_neg (by omega)])
      have HO2 : Hid (OwnB wr G (fun v => if v < u + 1 then readsF r (fs.take (k + 1)) v else readsF r (fs.take k) v)) := O2
      clear o O2
      go_wp2
      go_roundw
      case rel => exact ⟨u + 1, by omega, by go_num, hb, HO2.out⟩
      case measure => simp [intOf]; omega
     ·have hz' : (z != 0) = true := by simp [hz]
      obtain ⟨cur, hc, hv⟩ := o
      have g0 : wr.cell? ⟨G, u, none⟩ = some _ := (hc.cell u).trans (hv u hu3)
      have fz := hc.free u
      have o2 := OwnB.set (W := wr) (G := G) ⟨cur, hc, hv⟩ hu3 true
      have O2 : Hid (OwnB (wr.setCell ⟨G, u, none⟩ (.bool true)) G (fun v => if v < u + 1 then readsF r (fs.take (k + 1)) v else readsF r (fs.take k) v)) := o2.ext (fun v hv => by
       by_cases e : v = u
       ·subst e; simp only [if_true, Nat.lt_succ_self]; rw [HS.out, HH.out, hz']; simp
       ·simp only [e, if_false]
        by_cases e2 : v < u
        ·rw [if_pos e2, if_pos (by omega)]
        ·rw [if_neg e2, if_neg (by omega)])
      have B2 := hb.setCell (p := ⟨G, u, none⟩) lG (.bool true)
      clear o2 hc hv
      go_wp2
      go_roundw
      case rel => exact ⟨u + 1, by omega, by go_num, B2, O2.out⟩
      case measure => simp [intOf]; omega
    ·obtain rfl : u = 3 := by omega
     have O3 : Hid (OwnB wr G (readsF r (fs.take (k + 1)))) := o.ext (fun v hv => by simp only [hv, if_true])
     clear o
     go_wp2
     go_roundw
     case rel => exact ⟨k + 1, by omega, by go_num, hb, O3.out⟩
     case measure => simp [intOf]; omega
  ·obtain rfl : k = N := by omega
   have O3 : OwnB wr G (readsF r fs) := by
    have : fs.take k = fs := List.take_of_length_le (by rw [HN.out]; exact qG _)
    rw [this] at o; exact o
   go_wp2
   go_ret
   exact ⟨G, cG, rfl, hb, lG, O3⟩
abbrev wayV (ga : Option Addr) (ng gc : Nat) (pa : Option Addr) (cp : Nat) (ta : Option Addr) (nt tc : Nat) (st : Bool) : Value := .agg #[.slice ga ng gc, .slice pa 3 cp, .slice ta nt tc, .bool st]
theorem resYes {w' : World} {e : Ending} {K : Int} (h : Res w w' e C D K) (hC : C.length = 3) (hD : D.length = 2) : ∃ B1 B2 c1 c2, e = .returned (formV (some ⟨B1, 0, none⟩) 3 c1 (some ⟨B2, 0, none⟩) 2 c2 K) /\ Below w.heap.size w w' /\ w.heap.size <= B1 /\ B1 ≠ B2 /\ w.heap.size <= B2 /\ Blk w' B1 C /\ Blk w' B2 D := by
 obtain ⟨a, n, cap, c, m, cap', B1, B2, rfl, L1, L2, b, o1, o2, g1, g2, g3⟩ := h
 obtain rfl : n = 3 := by omega
 obtain rfl : m = 2 := by omega
 rcases o1 with h | ⟨rfl, k1⟩
 ·rw [h] at hC; cases hC
 rcases o2 with h | ⟨rfl, k2⟩
 ·rw [h] at hD; cases hD
 exact ⟨B1, B2, cap, cap', rfl, b, g1 (by omega), g3 (by omega) (by omega), g2 (by omega), k1, k2⟩
theorem iaddX_any (f : Frm) {a2 : Option Addr} {cap2 : Nat} {c2 : Option Addr} {cap2' : Nat} (g : Frm) {w : World} (hC : Ints w a 3 f.1) (hD : Ints w c 2 f.2.1) (hC2 : Ints w a2 3 g.1) (hD2 : Ints w c2 2 g.2.1) (h1 : fitX 10000000 f) (h2 : fitX 10000000 g) (h3 : fitX 10000000 (plusX f g)) :
  Calls Tryz.prog 305 #[formV a 3 cap c 2 cap' f.2.2, formV a2 3 cap2 c2 2 cap2' g.2.2] w fun e w' => ∃ B1 B2 c1 c2, e = .returned (formV (some ⟨B1, 0, none⟩) 3 c1 (some ⟨B2, 0, none⟩) 2 c2 (plusX f g).2.2) /\ Below w.heap.size w w' /\ w.heap.size <= B1 /\ B1 ≠ B2 /\ w.heap.size <= B2 /\ Blk w' B1 (plusX f g).1 /\ Blk w' B2 (plusX f g).2.1 := by
 have hok : addOk 3 2 f.1 f.2.1 f.2.2 3 2 g.1 g.2.1 g.2.2 = true := by
  have e3 : formB 3 2 (lin f.1 g.1 1) (lin f.2.1 g.2.1 1) (f.2.2 + 1 * g.2.2) = true := fit_ok h3
  unfold addOk
  rw [fit_ok h1, fit_ok h2, e3]; rfl
 refine (iadd_any a 3 cap c 2 cap' f.2.2 f.1 f.2.1 a2 3 cap2 c2 2 cap2' g.2.2 g.1 g.2.1 w hC hD hC2 hD2 (by omega) (by omega) (by omega) (by omega)).mono ?_
 intro e w' h
 rw [hok] at h
 exact resYes h h3.c h3.d
theorem lin_neg (xs ys : List Int) : lin xs (mulL (-1) ys) 1 = lin xs ys (-1) := by
 unfold lin mulL
 rw [List.zipWith_map_right]
 congr 1
 funext x y
 omega
def negX (k : Nat) : Frm := (mulL (-1) (([0, 0, 0] : List Int).set k 1), mulL (-1) [0, 0], -1 * 0)
theorem plus_neg (f : Frm) (k : Nat) : plusX f (negX k) = lessX f k := by
 simp only [plusX, negX, lessX, lin_neg]
 rw [show f.2.2 + 1 * (-1 * 0) = f.2.2 + -1 * 0 by omega]
theorem negX_fit (hk : k < 3) : fitX 1 (negX k) := by
 have b3 : bnd 1 (mulL (-1) (([0, 0, 0] : List Int).set k 1)) := fun i => by
  match k, hk, i with
  | 0, _, 0 => simp [mulL]
  | 0, _, 1 => simp [mulL]
  | 0, _, 2 => simp [mulL]
  | 0, _, i + 3 => simp [mulL]
  | 1, _, 0 => simp [mulL]
  | 1, _, 1 => simp [mulL]
  | 1, _, 2 => simp [mulL]
  | 1, _, i + 3 => simp [mulL]
  | 2, _, 0 => simp [mulL]
  | 2, _, 1 => simp [mulL]
  | 2, _, 2 => simp [mulL]
  | 2, _, i + 3 => simp [mulL]
 have b2 : bnd 1 (mulL (-1) ([0, 0] : List Int)) := fun i => by
  match i with
  | 0 => simp [mulL]
  | 1 => simp [mulL]
  | i + 2 => simp [mulL]
 exact ⟨by simp [negX, mulL], by simp [negX, mulL], b3, b2, by simp [negX], by simp [negX]⟩
theorem inegpot_any (k : Nat) (hk : k < 3) {a : Option Addr} {cap : Nat} {c : Option Addr} {cap' : Nat} {w : World} (hC : Ints w a 3 (([0, 0, 0] : List Int).set k 1)) (hD : Ints w c 2 [0, 0]) :
  Calls Tryz.prog 306 #[formV a 3 cap c 2 cap' 0, .int .i64 (-1)] w fun e w' => ∃ B1 B2 c1 c2, e = .returned (formV (some ⟨B1, 0, none⟩) 3 c1 (some ⟨B2, 0, none⟩) 2 c2 (negX k).2.2) /\ Below w.heap.size w w' /\ w.heap.size <= B1 /\ B1 ≠ B2 /\ w.heap.size <= B2 /\ Blk w' B1 (negX k).1 /\ Blk w' B2 (negX k).2.1 := by
 have h1 : formB 3 2 (([0, 0, 0] : List Int).set k 1) [0, 0] 0 = true := by
  match k, hk with
  | 0, _ => decide
  | 1, _ => decide
  | 2, _ => decide
 have h2 : formB 3 2 (negX k).1 (negX k).2.1 (negX k).2.2 = true := fit_ok ((negX_fit hk).mono (by omega))
 have hok : timOk 3 2 (([0, 0, 0] : List Int).set k 1) [0, 0] 0 (-1) = true := by
  unfold timOk
  rw [h1]
  have h2' : formB 3 2 (mulL (-1) (([0, 0, 0] : List Int).set k 1)) (mulL (-1) [0, 0]) (-1 * 0) = true := h2
  rw [h2']; rfl
 refine (itim_any a 3 cap c 2 cap' 0 (-1) w hC hD (by omega) (by omega)).mono ?_
 intro e w' h
 rw [hok] at h
 exact resYes h (negX_fit hk).c (negX_fit hk).d
theorem iadds_any (y : Way) {ga : Option Addr} {ng gc : Nat} {pa : Option Addr} {cp : Nat} {ta : Option Addr} {nt tc : Nat} {st : Bool} {w : World} (hp : y.pots.length = 3) (hP : FormsAt w pa y.pots) (fp : ∀ k, k < 3 -> fitX 9000000 (y.pots[k]?.getD noX)) :
  Calls Tryz.prog 293 #[wayV ga ng gc pa cp ta nt tc st] w fun e w' => ∃ v xs, e = .returned v /\ JV w v 3 xs (endW y).adds w' := by
 have HPL : Hid (y.pots.length = 3) := hp
 have HFP : Hid _ := fp
 have HP : Hid (FormsAt w pa y.pots) := hP
 clear hp fp hP
 obtain ⟨zi, hi, hz0, hz1, hz2⟩ := info_parts Tryz.infoForm
 have B0 : Below w.heap.size w (w.alloc (.cells #[.slice ga ng gc, .slice pa 3 cp, .slice ta nt tc, .bool st] 372)) := bal
 have j0 : JV w (.slice none 0 0) 0 [] (endW y).adds (w.alloc (.cells #[.slice ga ng gc, .slice pa 3 cp, .slice ta nt tc, .bool st] 372)) := (JV.nil w _).below B0
 go_enter Tryz.func293, Tryz.ntmps293
 go_wp2_with fail
 go_loopw [3, 4, 5, 9] (fun r _ _ i wr => ∃ (k : Nat) (xs : List Value), k <= 3 /\ i = .int .i64 k /\ JV w r k xs (endW y).adds wr) (fun _ _ _ i _ => 3 - (intOf i).toNat)
 case atStart => exact ⟨0, [], by omega, rfl, j0⟩
 case round =>
  clear j0 B0
  obtain ⟨k, xs, hk, rfl, j⟩ := hrel
  by_cases hlt : k < 3
  ·obtain ⟨va, vc, rfl⟩ := j.isSlice
   have hlt' : (k : Int) < 3 := by omega
   obtain ⟨b, off, rfl, a', c', ca, cc, c0, c1, c2, iC, iD⟩ := (HP.out.keep j.b) k (by rw [HPL.out]; exact hlt)
   have hfit : fitX 9000000 (y.pots[k]?.getD ([], [], 0)) := HFP.out k hlt
   generalize HG : y.pots[k]?.getD ([], [], 0) = f at *
   have HT : Hid ((endW y).adds[k]?.getD ([], [], 0) = lessX f k) := by
    show _ = _
    rw [show (endW y).adds = (List.range 3).map (fun v => lessX (y.pots[v]?.getD noX) v) from rfl, List.getElem?_map, List.getElem?_range hlt]
    show lessX (y.pots[k]?.getD noX) k = _
    rw [show y.pots[k]?.getD noX = f from HG]
   clear HG
   have fit1 : fitX 10000000 f := hfit.mono (by omega)
   have fit3 : fitX 10000000 (plusX f (negX k)) := (plusX_fit hfit (negX_fit hlt) (by omega)).mono (by omega)
   have fit4 : fitX 10000000 (lessX f k) := by rw [<- plus_neg]; exact fit3
   have HF1 : Hid _ := fit1
   have HF3 : Hid _ := fit3
   have lC := fit4.c
   have lD := fit4.d
   have HPN : Hid (plusX f (negX k) = lessX f k) := plus_neg f k
   clear hfit fit1 fit3 fit4
   have A1 : Below wr.heap.size wr (wr.alloc (.cells #[.slice a' 3 ca, .slice c' 2 cc, .int .i64 f.2.2] 151)) := bal
   have bx := Cel.new wr [.slice a' 3 ca, .slice c' 2 cc, .int .i64 f.2.2] 151
   go_upto_region 5 with fail
   have z0 : wr.heap.size < (wr.alloc (.cells #[.slice a' 3 ca, .slice c' 2 cc, .int .i64 f.2.2] 151)).heap.size := by rw [World.size_alloc]; omega
   generalize (wr.alloc (.cells #[.slice a' 3 ca, .slice c' 2 cc, .int .i64 f.2.2] 151)) = W0 at *
   have KP : Hid (∀ W, Below W0.heap.size W0 W -> Cel W wr.heap.size [.slice a' 3 ca, .slice c' 2 cc, .int .i64 f.2.2] 151) := fun W hW => bx.below hW
   have KQ : Hid (∀ W, Below W0.heap.size W0 W -> (W.cell? ⟨wr.heap.size, 0, none⟩ = some (.slice a' 3 ca) /\ W.cell? ⟨wr.heap.size, 1, none⟩ = some (.slice c' 2 cc) /\ W.cell? ⟨wr.heap.size, 2, none⟩ = some (.int .i64 f.2.2))) := fun W hW => by
    obtain ⟨n0, n1, n2, _, _, _⟩ := (KP.out W hW).trio
    exact ⟨n0, n1, n2⟩
   have jW := j.below A1
   have iC0 := iC.below A1
   have iD0 := iD.below A1
   have e0 : Below W0.heap.size W0 W0.drew := (Below.refl _ _).drew
   have hSS := And.intro (KQ.out _ e0) (True.intro)
   have OWN : Hid (∀ G : Nat, (Value.slice va k vc).ownBlock = some G -> G < wr.heap.size) := fun G e => (j.own e).2
   have sw := jW.b.size
   clear bx j iC iD c0 c1 c2 A1
   refine wp_region_ends (fun w' => w'.cell? ⟨wr.heap.size, 0, none⟩ = some (.slice a' 3 ca) /\ w'.cell? ⟨wr.heap.size, 1, none⟩ = some (.slice c' 2 cc) /\ w'.cell? ⟨wr.heap.size, 2, none⟩ = some (.int .i64 f.2.2)) (fun _ => True) 8 (by kernel_rfl) ?_
   refine tkl 0 rfl hSS ?_
   refine tkl 1 rfl hSS ?_
   refine tkl 2 rfl hSS ?_
   clear hSS
   refine wo1 3 rfl fun K hK => ?_
   go_simp
   refine (ipot_any).mono ?_
   intro ee w1 hR
   rw [potC_in (k : Int) k rfl (by omega), potD_in (k : Int) (by omega) (by omega)] at hR
   obtain ⟨P1, P2, p1, p2, rfl, b1, -, -, -, u1, u2⟩ := resYes hR (by simp) rfl
   have e1 := below_of_drew b1
   clear hR b1
   (try dsimp only)
   refine kk0 hK (KQ.out _ e1) ?_
   refine wo1 4 rfl fun K hK => ?_
   go_simp
   refine (inegpot_any k hlt (u1.ints' (by simp)) (u2.ints' rfl)).mono ?_
   rintro ee w2 ⟨N1, N2, q1, q2, rfl, b2, -, -, -, v1, v2⟩
   have e2 := e1.trans (b2.mono e1.size)
   clear b2 u1 u2
   (try dsimp only)
   refine kk0 hK (KQ.out _ e2) ?_
   refine wo1 5 rfl fun K hK => ?_
   go_simp
   refine (iaddX_any f (negX k) (iC0.below e2) (iD0.below e2) (v1.ints' (by simp [negX, mulL])) (v2.ints' (by simp [negX, mulL])) HF1.out ((negX_fit hlt).mono (by omega)) HF3.out).mono ?_
   rw [HPN.out]
   rintro ee w3 ⟨Z1, Z2, x0, y0, rfl, b3, z1, z2, z3, k1, k2⟩
   have e3 := e2.trans (b3.mono e2.size)
   have s2 := e2.size
   have s3 := b3.size
   clear b3 v1 v2
   (try dsimp only)
   refine kk0 hK (KQ.out _ e3) ?_
   refine wo1 6 rfl fun K hK => ?_
   go_simp
   have A : Below w3.heap.size w3 (w3.alloc (.cells #[.slice (some ⟨Z1, 0, none⟩) 3 x0, .slice (some ⟨Z2, 0, none⟩) 2 y0, .int .i64 (lessX f k).2.2] 151)) := bal
   have e4 := e3.trans (A.mono e3.size)
   have j4 := jW.below e4
   have k1' := k1.below A
   have k2' := k2.below A
   have n1 : (Value.slice va k vc).ownBlock ≠ some Z1 := fun e => by have := OWN.out _ e; omega
   have n2 : (Value.slice va k vc).ownBlock ≠ some Z2 := fun e => by have := OWN.out _ e; omega
   refine kk0 hK (KQ.out _ e4) ?_
   clear hK K jW
   refine wo1 7 rfl fun K hK => ?_
   rw [if_pos (by rfl)]
   refine wp_append_lies _ (.tmp 14) (.tmp 20) 157 rfl w.heap.size 151 zi _ 3 56 Tryz.underlying157 hi hz0 hz1 hz2 rfl (by omega) (.slice va k vc) k xs (by rfl) j4.o ⟨w3.heap.size, 0, none⟩ 1 1 [.slice (some ⟨Z1, 0, none⟩) 3 x0, .slice (some ⟨Z2, 0, none⟩) 2 y0, .int .i64 (lessX f k).2.2] (by rfl) (by rfl) (World.news_of_block (cs := #[.slice (some ⟨Z1, 0, none⟩) 3 x0, .slice (some ⟨Z2, 0, none⟩) 2 y0, .int .i64 (lessX f k).2.2]) (t := 151) (fr := (0, 0)) (heap_alloc_new w3 _)) (by simp [Value.oneCell']) (by omega) (by unfold maxLen; omega) (by omega) j4.b.size _ rfl ?_
   intro g cpg w4 hown hgrow hat hltg
   have j5 := j4.app hown hgrow hat rfl (k1'.ints' lC) (k2'.ints' lD) n1 n2 (by omega) (by omega) HT.out
   have bx4 := (KP.out _ e4).grew hgrow (fun e => by have := OWN.out _ e; omega)
   obtain ⟨m0, m1, m2, -, -, -⟩ := bx4.trio
   refine hK.out _ _ ⟨⟨m0, m1, m2⟩, fun _ => trivial⟩ ?_
   clear hK K hown hgrow hat j4 k1 k2 k1' k2' n1 n2
   refine wo1 8 rfl fun K hK => ?_
   go_simp
   refine hK.out _ _ ⟨⟨m0, m1, m2⟩, fun _ => trivial⟩ ?_
   refine wod ?_ _
   clear bx4 m0 m1 m2 KP KQ
   go_wp2
   go_roundw
   case rel => exact ⟨k + 1, _, by omega, by go_num, j5⟩
   case measure => simp [intOf]; omega
  ·obtain rfl : k = 3 := by omega
   go_wp2
   go_ret
   exact ⟨_, xs, rfl, j⟩
structure RowFit (r : RowM) : Prop where
 g : ∀ k, k < r.guards.length -> fitX 10000000 (r.guards[k]?.getD ([], [], 0))
 a : ∀ k, k < r.adds.length -> fitX 10000000 (r.adds[k]?.getD ([], [], 0))
 t : ∀ k, k < r.tells.length -> fitX 10000000 (r.tells[k]?.getD ([], [], 0))
 lg : r.guards.length <= 1000
 la : r.adds.length <= 3
 lt : r.tells.length <= 1000
theorem endW_fit {i : Nat} {y : Way} (h : WayOk i y) (hi : i <= 1000) : RowFit (endW y) := by
 refine ⟨fun k hk => h.gf k hk, fun k hk => ?_, fun k hk => h.tf k hk, ?_, ?_, ?_⟩
 ·have hk3 : k < 3 := by
   have : (endW y).adds.length = 3 := by simp [endW]
   omega
  have e : (endW y).adds[k]?.getD ([], [], 0) = lessX (y.pots[k]?.getD noX) k := by
   rw [show (endW y).adds = (List.range 3).map (fun v => lessX (y.pots[v]?.getD noX) v) from rfl, List.getElem?_map, List.getElem?_range hk3]
   rfl
  rw [e, <- plus_neg]
  have h1 := h.pf k hk3
  have h6 := wb_six (n := min i 6) (by omega)
  have hp := wb_pos (min i 6)
  exact (plusX_fit h1 (negX_fit hk3) (by omega)).mono (by omega)
 ·show y.guards.length <= 1000; have := h.gl; omega
 ·simp [endW]
 ·show y.tells.length <= 1000; have := h.tl; omega
theorem stopW_fit {i : Nat} {y : Way} (h : WayOk i y) (hi : i <= 1000) : RowFit (stopW y) :=
 ⟨fun k hk => h.gf k hk, fun k hk => by simp [stopW] at hk, fun k hk => by simp [stopW] at hk, by show y.guards.length <= 1000; have := h.gl; omega, by simp [stopW], by simp [stopW]⟩
theorem goW_fit (h6 : ls.length <= 6) (hall : ls.all LV.ok = true) (hD : ∀ k, k < ls.length -> (ls[k]?.getD noLV).f.D.length = (ls[k]?.getD noLV).f.m) (f : Nat) : ∀ (i : Nat) (y : Way), i <= 12 + 7 * (7 - f) -> f <= 7 -> WayOk i y -> ∀ r ∈ goW ls f i y, RowFit r := by
 induction f with
 | zero => intro i y hi _ h r hr; simp only [goW, List.mem_cons, List.not_mem_nil, or_false] at hr; subst hr; exact endW_fit h (by omega)
 | succ f ih =>
  intro i y hi hf7 h r hr
  rw [goW] at hr
  by_cases hl : i < ls.length
  ·rw [if_pos hl] at hr
   have hok : (ls[i]?.getD noLV).ok = true := by
    rw [qC hl]
    exact List.all_eq_true.1 hall _ (List.getElem_mem hl)
   have hDD := hD i hl
   generalize ls[i]?.getD noLV = q at *
   by_cases hk4 : q.kind = 4
   ·rw [if_neg (by omega), if_neg (by omega), if_neg (by omega)] at hr
    simp only [List.mem_cons, List.not_mem_nil, or_false] at hr
    subst hr
    exact stopW_fit h (by omega)
   ·obtain ⟨hsm, hkk, hz, hp⟩ := lineW (show lineB q.kind q.pot q.skip q.f.n q.f.m q.f.C q.f.D q.f.K = true from hok) hk4
    obtain ⟨f1, f2, f3⟩ := h.into (by omega) (f := q.f) hsm hDD
    rcases hkk with e | e | e
    ·rw [if_pos e] at hr
     have hz' := hz e
     rcases List.mem_append.1 hr with hr | hr
     ·exact ih _ _ (by omega) (by omega) (h.guard (by omega) f2) r hr
     ·exact ih _ _ (by omega) (by omega) (h.guard (by omega) f3) r hr
    ·rw [if_neg (by omega), if_pos e] at hr
     have hp' := hp e
     exact ih _ _ (by omega) (by omega) (h.add (by omega) (by omega) f1) r hr
    ·rw [if_neg (by omega), if_neg (by omega), if_pos e] at hr
     exact ih _ _ (by omega) (by omega) (h.tell (by omega) f2) r hr
  ·rw [if_neg hl] at hr
   simp only [List.mem_cons, List.not_mem_nil, or_false] at hr
   subst hr
   exact endW_fit h (by omega)
def readsR (rs : List RowM) (v : Nat) : Bool := rs.any fun r => r.adds.any (fun f => hasP f v) || r.tells.any (fun f => hasP f v)
theorem readsR_snoc (rs : List RowM) (k : Nat) (hk : k < rs.length) (v : Nat) : readsR (rs.take (k + 1)) v = readsF (readsF (readsR (rs.take k)) (rs[k]?.getD noR).adds) (rs[k]?.getD noR).tells v := by
 rw [readsR, qF hk, List.any_append, qC hk]
 simp [readsF, readsR, Bool.or_assoc]
theorem rowsL_fit (h6 : ls.length <= 6) (hall : ls.all LV.ok = true) (hF : LinesG w ad ls) : ∀ r ∈ rowsL ls, RowFit r :=
 goW_fit h6 hall (fun k hk => by obtain ⟨b, off, e, hc, hA⟩ := hF k hk; exact hA.D.1) 7 0 way0 (by omega) (by omega) WayOk.start
theorem OwnB.below (h : OwnB W G f) (b : Below W.heap.size W W') : OwnB W' G f := by
 obtain ⟨cur, hc, hv⟩ := h
 exact ⟨cur, hc.below b, hv⟩
theorem put4 {X : Nat} {vs : List Value} {T : TypeId} (h : Cel W X vs T) (hl : vs.length = 4) (v0 v1 v2 v3 : Value) :
  Cel ((((W.setCell ⟨X, 0, none⟩ v0).setCell ⟨X, 1, none⟩ v1).setCell ⟨X, 2, none⟩ v2).setCell ⟨X, 3, none⟩ v3) X [v0, v1, v2, v3] T /\ Touch (fun z => z = X) W ((((W.setCell ⟨X, 0, none⟩ v0).setCell ⟨X, 1, none⟩ v1).setCell ⟨X, 2, none⟩ v2).setCell ⟨X, 3, none⟩ v3) := by
 refine ⟨?_, (((((Touch.refl (fun z => z = X) W).setCell rfl _).setCell rfl _).setCell rfl _).setCell rfl _)⟩
 have := (((h.set 0 v0).set 1 v1).set 2 v2).set 3 v3
 match vs, hl with
 | [a, b, c, d], _ => exact this
theorem FOff.empty {S : Nat -> Prop} : FOff W S a [] := fun W' t i hi => by simp at hi
theorem JV.foff' {xs : List Value} {fs : List Frm} (j : JV w (.slice a n cap) n xs fs W) (hn : fs.length = n) : FOff W (fun k => k < w.heap.size) a fs := by
 obtain ⟨a', cap', e, h⟩ := j.foff hn
 simp only [Value.slice.injEq, true_and] at e
 obtain ⟨rfl, rfl⟩ := e
 exact h
theorem irow_stop (y : Way) (ga : Option Addr) (ng gc : Nat) (pa : Option Addr) (cp : Nat) (ta : Option Addr) (nt tc : Nat) (w : World) (hg : y.guards.length = ng) (hG : FormsAt w ga y.guards) (fg : ∀ k, k < ng -> fitX 10000000 (y.guards[k]?.getD ([], [], 0))) (hg1 : ng <= 1048576) :
  Calls Tryz.prog 283 #[wayV ga ng gc pa cp ta nt tc true] w fun e w' => ∃ v, e = .returned v /\ Below w.heap.size w w' /\ RowX w' w.heap.size v (stopW y) := by
 have HGL : Hid (y.guards.length = ng) := hg
 have HFG : Hid _ := fg
 clear hg fg
 have B0 : Below w.heap.size w ((w.alloc (.cells #[.slice ga ng gc, .slice pa 3 cp, .slice ta nt tc, .bool true] 372)).alloc (.cells #[.slice none 0 0, .slice none 0 0, .slice none 0 0, .bool false] 159)) := (bal).alloc (by simp) _
 have r0 := Cel.new (w.alloc (.cells #[.slice ga ng gc, .slice pa 3 cp, .slice ta nt tc, .bool true] 372)) [.slice none 0 0, .slice none 0 0, .slice none 0 0, .bool false] 159
 rw [World.size_alloc] at r0
 go_enter Tryz.func283, Tryz.ntmps283
 go_wp2_with fail
 refine (icopies_any y.guards HGL.out (hG.keep B0) HFG.out hg1).mono ?_
 rintro e w1 ⟨v1, xs1, rfl, j1⟩
 obtain ⟨a1, c1, rfl⟩ := j1.isSlice
 have B1 := btq B0 j1.b
 have r1 := r0.below j1.b
 have g1 := j1.foff' HGL.out
 rw [World.size_alloc, World.size_alloc] at g1
 have lr := r1.lt
 obtain ⟨c0, c1', c2, c3⟩ := r1.four
 have y0 := r1.free 0
 have y1 := r1.free 1
 have y2 := r1.free 2
 have y3 := r1.free 3
 obtain ⟨x', T'⟩ := put4 r1 rfl (.slice a1 ng c1) (.slice none 0 0) (.slice none 0 0) (.bool true)
 obtain ⟨h0, h1, h2, h3⟩ := x'.four
 clear j1 r0 B0
 go_wp2
 refine bodyPost_ret (v := .agg #[.slice a1 ng c1, .slice none 0 0, .slice none 0 0, .bool true]) (by simp [results, Tryz.results283, go_sem, h0, h1, h2, h3]) rfl ?_
 refine ⟨_, rfl, B1.trans (T'.below B1.size (fun k hk => by omega)), a1, c1, none, 0, none, 0, ?_, (g1.touch (T'.mono (fun k hk => by omega))).mono (fun k hk => by omega), FOff.empty, FOff.empty⟩
 show _ = Value.agg #[.slice a1 y.guards.length c1, .slice none 0 0, .slice none 0 0, .bool true]
 rw [HGL.out]
theorem irow_end (y : Way) (ga : Option Addr) (ng gc : Nat) (pa : Option Addr) (cp : Nat) (ta : Option Addr) (nt tc : Nat) (w : World) (hp : y.pots.length = 3) (hg : y.guards.length = ng) (ht : y.tells.length = nt) (hP : FormsAt w pa y.pots) (hG : FormsAt w ga y.guards) (hT : FormsAt w ta y.tells) (fp : ∀ k, k < 3 -> fitX 9000000 (y.pots[k]?.getD noX)) (fg : ∀ k, k < ng -> fitX 10000000 (y.guards[k]?.getD ([], [], 0))) (ft : ∀ k, k < nt -> fitX 10000000 (y.tells[k]?.getD ([], [], 0))) (hg1 : ng <= 1048576) (ht1 : nt <= 1048576) :
  Calls Tryz.prog 283 #[wayV ga ng gc pa cp ta nt tc false] w fun e w' => ∃ v, e = .returned v /\ Below w.heap.size w w' /\ RowX w' w.heap.size v (endW y) := by
 have HPL : Hid (y.pots.length = 3) := hp
 have HGL : Hid (y.guards.length = ng) := hg
 have HTL : Hid (y.tells.length = nt) := ht
 have HFP : Hid _ := fp
 have HFG : Hid _ := fg
 have HFT : Hid _ := ft
 clear hp hg ht fp fg ft
 have B0 : Below w.heap.size w ((w.alloc (.cells #[.slice ga ng gc, .slice pa 3 cp, .slice ta nt tc, .bool false] 372)).alloc (.cells #[.slice none 0 0, .slice none 0 0, .slice none 0 0, .bool false] 159)) := (bal).alloc (by simp) _
 have r0 := Cel.new (w.alloc (.cells #[.slice ga ng gc, .slice pa 3 cp, .slice ta nt tc, .bool false] 372)) [.slice none 0 0, .slice none 0 0, .slice none 0 0, .bool false] 159
 have p0 := (Cel.new w [.slice ga ng gc, .slice pa 3 cp, .slice ta nt tc, .bool false] 372).alloc (.cells #[.slice none 0 0, .slice none 0 0, .slice none 0 0, .bool false] 159)
 rw [World.size_alloc] at r0
 go_enter Tryz.func283, Tryz.ntmps283
 go_upto_region 3 with fail
 generalize ((w.alloc (.cells #[.slice ga ng gc, .slice pa 3 cp, .slice ta nt tc, .bool false] 372)).alloc (.cells #[.slice none 0 0, .slice none 0 0, .slice none 0 0, .bool false] 159)) = W0 at *
 have KP : Hid (∀ W, Below W0.heap.size W0 W -> Cel W w.heap.size [.slice ga ng gc, .slice pa 3 cp, .slice ta nt tc, .bool false] 372) := fun W hW => p0.below hW
 have KR : Hid (∀ W, Below W0.heap.size W0 W -> Cel W (w.heap.size + 1) [.slice none 0 0, .slice none 0 0, .slice none 0 0, .bool false] 159) := fun W hW => r0.below hW
 have e0 : Below W0.heap.size W0 W0.drew := (Below.refl _ _).drew
 have hSS : (W0.drew.cell? ⟨w.heap.size, 0, none⟩ = some (.slice ga ng gc) /\ W0.drew.cell? ⟨w.heap.size, 1, none⟩ = some (.slice pa 3 cp) /\ W0.drew.cell? ⟨w.heap.size, 2, none⟩ = some (.slice ta nt tc) /\ W0.drew.cell? ⟨w.heap.size, 3, none⟩ = some (.bool false)) /\ True := ⟨(KP.out _ e0).four, trivial⟩
 have lr := r0.lt
 clear p0 r0
 refine wp_region_ends (fun w' => w'.cell? ⟨w.heap.size, 0, none⟩ = some (.slice ga ng gc) /\ w'.cell? ⟨w.heap.size, 1, none⟩ = some (.slice pa 3 cp) /\ w'.cell? ⟨w.heap.size, 2, none⟩ = some (.slice ta nt tc) /\ w'.cell? ⟨w.heap.size, 3, none⟩ = some (.bool false)) (fun _ => True) 9 (by kernel_rfl) ?_
 refine tkl 0 rfl hSS ?_
 refine tkl 1 rfl hSS ?_
 refine tkl 3 rfl hSS ?_
 refine tkl 5 rfl hSS ?_
 refine tkl 6 rfl hSS ?_
 clear hSS
 refine wo1 2 rfl fun K hK => ?_
 go_simp
 refine (icopies_any y.guards HGL.out ((hG.keep B0).keep e0) HFG.out hg1).mono ?_
 rintro ee w1 ⟨v1, xs1, rfl, j1⟩
 have e1 := below_of_drew j1.b
 obtain ⟨a1, c1, rfl⟩ := j1.isSlice
 have g1 : FOff w1 (fun k => k < W0.heap.size) a1 y.guards := j1.foff' HGL.out
 clear j1
 (try dsimp only)
 refine kk0 hK ((KP.out _ e1).four) ?_
 refine wo1 4 rfl fun K hK => ?_
 go_simp
 refine (iadds_any y HPL.out ((hP.keep B0).keep e1) HFP.out).mono ?_
 rintro ee w2 ⟨v2, xs2, rfl, j2⟩
 have e2 := btq e1 j2.b
 obtain ⟨a2, c2, rfl⟩ := j2.isSlice
 have g2 := g1.below j2.b
 have s1 := e1.size
 have d2 : FOff w2 (fun k => k < w1.heap.size) a2 (endW y).adds := j2.foff' rfl
 clear j2 g1
 (try dsimp only)
 refine kk0 hK ((KP.out _ e2).four) ?_
 refine wo1 7 rfl fun K hK => ?_
 go_simp
 refine (icopies_any y.tells HTL.out ((hT.keep B0).keep e2) HFT.out ht1).mono ?_
 rintro ee w3 ⟨v3, xs3, rfl, j3⟩
 have e3 := btq e2 j3.b
 obtain ⟨a3, c3, rfl⟩ := j3.isSlice
 have g3 := g2.below j3.b
 have d3 := d2.below j3.b
 have s2 := e2.size
 have s3 := e3.size
 have t3 : FOff w3 (fun k => k < w2.heap.size) a3 y.tells := j3.foff' HTL.out
 clear j3 g2 d2
 (try dsimp only)
 refine kk0 hK ((KP.out _ e3).four) ?_
 refine wo1 8 rfl fun K hK => ?_
 go_simp
 refine kk0 hK ((KP.out _ e3).four) ?_
 have r1 := KR.out _ e3
 have lr3 := r1.lt
 obtain ⟨q0, q1, q2, q3⟩ := r1.four
 have y0 := r1.free 0
 have y1 := r1.free 1
 have y2 := r1.free 2
 have y3 := r1.free 3
 obtain ⟨x', T'⟩ := put4 r1 rfl (.slice a1 ng c1) (.slice a2 3 c2) (.slice a3 nt c3) (.bool false)
 have p4 := (KP.out _ e3).touch T' (fun h => by have := h; omega)
 obtain ⟨h0, h1, h2, h3⟩ := x'.four
 refine wo1 9 rfl fun K hK => ?_
 go_simp
 refine hK.out _ _ ⟨p4.four, fun h => absurd (show true = false from h) (by decide)⟩ ?_
 refine wod ?_ _
 have B3 := btq B0 e3
 have sB := B0.size
 have gg := (g3.touch (T'.mono (fun k hk => by omega))).mono (S' := fun k => k < w.heap.size) (fun k hk => by omega)
 have dd := (d3.touch (T'.mono (fun k hk => by omega))).mono (S' := fun k => k < w.heap.size) (fun k hk => by omega)
 have tt := (t3.touch (T'.mono (fun k hk => by omega))).mono (S' := fun k => k < w.heap.size) (fun k hk => by omega)
 have BB := B3.trans (T'.below B3.size (fun k hk => by omega))
 clear q0 q1 q2 q3 y0 y1 y2 y3 r1 p4 x' T' g3 d3 t3 KP KR
 go_wp2
 refine bodyPost_ret (v := .agg #[.slice a1 ng c1, .slice a2 3 c2, .slice a3 nt c3, .bool false]) (by simp [results, Tryz.results283, go_sem, h0, h1, h2, h3]) rfl ?_
 refine ⟨_, rfl, BB, a1, c1, a2, c2, a3, c3, ?_, gg, dd, tt⟩
 show _ = Value.agg #[.slice a1 y.guards.length c1, .slice a2 3 c2, .slice a3 y.tells.length c3, .bool false]
 rw [HGL.out, HTL.out]
end Go.Proofs.YtacfoeekmcnpjaaGreatDoor
