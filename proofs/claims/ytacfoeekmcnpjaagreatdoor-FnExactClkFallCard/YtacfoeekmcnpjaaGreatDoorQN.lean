/-
  Lemmas that the claim's last text rests on.
-/
import Derived.Lib.Hide
import Derived.Test.YtacfoeekmcnpjaaGreatDoorQM
namespace Go.Proofs.YtacfoeekmcnpjaaGreatDoor
open Go.RowKit Go.Deep
open List renaming set_cons_zero → qA, set_cons_succ → qB, getElem?_cons_zero → qC, getElem?_cons_succ → qD, length_map → qF
open Nat renaming le_refl → qE
set_option linter.unusedVariables false
set_option maxRecDepth 100000
set_option maxHeartbeats 25600000
variable {B cap n : Nat} {W w : World} {bs : Nat -> Nat} {v : Value}
/-! What is left of a list behind a fall: ok: the clerk was ok; sm: it was as it is told to be. -/
def faL {α : Type} (ok : Bool) (x : List α) : List α := if ok then x else []
def faN (ok : Bool) (n : Nat) : Nat := if ok then n else 0
def faG (ok sm : Bool) (n : Nat) (x : List GV) : List GV := if ok then (if sm then x else List.replicate n noG) else []
def IFall (u : Bool) (r : Int) (bn : Nat) (bx : List Int) (dn : Nat) (dx : List DV) (kn : Nat) (kx : List QV) (en : Nat) (ex : List GV) (up ok : Bool) (w : World) (e : Ending) (w' : World) : Prop := ∃ (ba : Option Addr) (cb B : Nat) (da : Option Addr) (cd G1 : Nat) (ds : List DV) (b1 : Nat -> Nat) (ka : Option Addr) (ck G2 : Nat) (ks : List QV) (b2 : Nat -> Nat) (ea : Option Addr) (cg G3 : Nat) (gs : List GV) (b3 b4 : Nat -> Nat) (n1 n2 n3 n4 : Nat), e = .returned (ckV (ok && up) (if ok then r else 0) ba (faN ok bn) cb da (faN ok dn) cd ka (faN (ok && u == up) kn) ck ea (faN ok en) cg) /\ Below w.heap.size w w' /\ n4 <= w'.heap.size /\ CkL w' ba B (faN ok bn) (faL ok bx) da G1 (faN ok dn) (fun i => ds[i]?.getD noD) b1 ka G2 (faN (ok && u == up) kn) (fun i => ks[i]?.getD noQ) b2 ea G3 (faN ok en) (fun i => gs[i]?.getD noG) b3 b4 w.heap.size n1 n2 n3 n4 /\ ds.length = faN ok dn /\ (∀ i, i < faN ok dn -> sameD ((faL ok dx)[i]?.getD noD) (ds[i]?.getD noD)) /\ ks.length = faN (ok && u == up) kn /\ (∀ i, i < faN (ok && u == up) kn -> sameQ ((faL (ok && u == up) kx)[i]?.getD noQ) (ks[i]?.getD noQ)) /\ gs.length = faN ok en /\ ∀ i, i < faN ok en -> sameG ((faG ok (u == up) en ex)[i]?.getD noG) (gs[i]?.getD noG)
theorem iclkfall_any {cl : Int} {ad : Option Addr} {N : Nat} {ga : Option Addr} {gn gc : Nat} {sa : Option Addr} {sn sc : Nat} (ss : List L2V) (G S : List Int) {u : Bool} {r : Int} {Bb bn bc : Nat} (bx : List Int) {Bd dn dc : Nat} (dx : List DV) {Bk kn kc : Nat} (kx : List QV) {Bg en ec : Nat} (ex : List GV) {up : Bool} (ok : Bool) {w : World} (hp : PlAt w ad N ss ga gn G sa sn S) (hb : Blk w Bb bx) (lb : bx.length = bn) (zb : bn <= 1048576) (hd : MD w Bd dn dx) (ld : dx.length = dn) (zd : dn <= 1048576) (hk : MQ w Bk kn kx) (lk : kx.length = kn) (zk : kn <= 1048576) (hg : MG w Bg en ex) (lg : ex.length = en) (zg : en <= 1048576) (hTB : Lib.TabBelow Tryz.prog w.heap.size w "internal/strconv.uint64pow10" .u64 Lib.pow10Tab) (hok : clkB cl N ss gn G sn S u r bn bx dn dx kn kx en ex = ok) :
  Calls Tryz.prog 31 #[plV cl ad N cap ga gn gc sa sn sc, ckV u r (some ⟨Bb, 0, none⟩) bn bc (some ⟨Bd, 0, none⟩) dn dc (some ⟨Bk, 0, none⟩) kn kc (some ⟨Bg, 0, none⟩) en ec, .bool up] w fun e w' => IFall u r bn bx dn dx kn kx en ex up ok w e w' := by
 have HTB : Hid _ := hTB
 have HOK : Hid _ := hok
 clear hTB hok
 have q0 := ((Cel.new w [.int .i64 cl, .slice ad N cap, .slice ga gn gc, .slice sa sn sc] 41).alloc (.cells #[.bool u, .int .i64 r, .slice (some ⟨Bb, 0, none⟩) bn bc, .slice (some ⟨Bd, 0, none⟩) dn dc, .slice (some ⟨Bk, 0, none⟩) kn kc, .slice (some ⟨Bg, 0, none⟩) en ec] 47)).alloc (.cells #[.bool false, .int .i64 0, .slice none 0 0, .slice none 0 0, .slice none 0 0, .slice none 0 0] 47)
 have y0 := (Cel.new (w.alloc (.cells #[.int .i64 cl, .slice ad N cap, .slice ga gn gc, .slice sa sn sc] 41)) [.bool u, .int .i64 r, .slice (some ⟨Bb, 0, none⟩) bn bc, .slice (some ⟨Bd, 0, none⟩) dn dc, .slice (some ⟨Bk, 0, none⟩) kn kc, .slice (some ⟨Bg, 0, none⟩) en ec] 47).alloc (.cells #[.bool false, .int .i64 0, .slice none 0 0, .slice none 0 0, .slice none 0 0, .slice none 0 0] 47)
 have r0 := Cel.new ((w.alloc (.cells #[.int .i64 cl, .slice ad N cap, .slice ga gn gc, .slice sa sn sc] 41)).alloc (.cells #[.bool u, .int .i64 r, .slice (some ⟨Bb, 0, none⟩) bn bc, .slice (some ⟨Bd, 0, none⟩) dn dc, .slice (some ⟨Bk, 0, none⟩) kn kc, .slice (some ⟨Bg, 0, none⟩) en ec] 47)) [.bool false, .int .i64 0, .slice none 0 0, .slice none 0 0, .slice none 0 0, .slice none 0 0] 47
 rw [World.size_alloc] at y0
 rw [World.size_alloc, World.size_alloc] at r0
 have B0 := (((Below.refl w.heap.size w).alloc (qE _) (.cells #[.int .i64 cl, .slice ad N cap, .slice ga gn gc, .slice sa sn sc] 41)).alloc (by simp) (.cells #[.bool u, .int .i64 r, .slice (some ⟨Bb, 0, none⟩) bn bc, .slice (some ⟨Bd, 0, none⟩) dn dc, .slice (some ⟨Bk, 0, none⟩) kn kc, .slice (some ⟨Bg, 0, none⟩) en ec] 47)).alloc (by simp; omega) (.cells #[.bool false, .int .i64 0, .slice none 0 0, .slice none 0 0, .slice none 0 0, .slice none 0 0] 47)
 have Lb : Hid _ := lb
 have Ld : Hid _ := ld
 have Lk : Hid _ := lk
 have Lg : Hid _ := lg
 clear lb ld lk lg
 have hC : CkAt w (some ⟨Bb, 0, none⟩) bn bx (some ⟨Bd, 0, none⟩) dn dx (some ⟨Bk, 0, none⟩) kn kx (some ⟨Bg, 0, none⟩) en ex := ⟨hb.ints' Lb.out, zb, hd.g, Ld.out, zd, hk.g, Lk.out, zk, hg.g, Lg.out, zg⟩
 go_enter Tryz.func31, Tryz.ntmps31
 go_upto_region 1 with fail
 obtain ⟨W0, hW0⟩ : ∃ W, W = (((w.alloc (.cells #[.int .i64 cl, .slice ad N cap, .slice ga gn gc, .slice sa sn sc] 41)).alloc (.cells #[.bool u, .int .i64 r, .slice (some ⟨Bb, 0, none⟩) bn bc, .slice (some ⟨Bd, 0, none⟩) dn dc, .slice (some ⟨Bk, 0, none⟩) kn kc, .slice (some ⟨Bg, 0, none⟩) en ec] 47)).alloc (.cells #[.bool false, .int .i64 0, .slice none 0 0, .slice none 0 0, .slice none 0 0, .slice none 0 0] 47)) := ⟨_, rfl⟩
 rw [<- hW0] at q0 y0 r0 B0 ⊢
 clear hW0
 have s0 := r0.lt
 obtain ⟨c0, c1, c2, c3⟩ := q0.quadP
 obtain ⟨d0, d1, d2, d3, d4, d5⟩ := y0.sixP
 go_wp2_with fail
 refine (iclkok_any ss G S bx dx kx ex (hp.below B0) (hC.below B0) (fun w' h' => HTB.out w' (btq B0 h'))).mono ?_
 rintro e w1 ⟨rfl, b1⟩
 rw [HOK.out]
 have B1 := btq B0 b1
 have y1 := y0.below b1
 have r1 := r0.below b1
 have f1 := b1.size
 have s1 := r1.lt
 clear c0 c1 c2 c3 d0 d1 d2 d3 d4 d5 q0 y0 r0 hC
 obtain ⟨e0, e1, e2, e3, e4, e5⟩ := r1.sixP
 have z0 := r1.free 0
 have z1 := r1.free 1
 have z2 := r1.free 2
 have z3 := r1.free 3
 have z4 := r1.free 4
 have z5 := r1.free 5
 cases ok
 ·go_wp2
  have T5 : Touch (fun y => y = w.heap.size + 1 + 1) w1 ((((((w1.setCell ⟨w.heap.size + 1 + 1, 0, none⟩ (.bool false)).setCell ⟨w.heap.size + 1 + 1, 1, none⟩ (.int .i64 0)).setCell ⟨w.heap.size + 1 + 1, 2, none⟩ (.slice none 0 0)).setCell ⟨w.heap.size + 1 + 1, 3, none⟩ (.slice none 0 0)).setCell ⟨w.heap.size + 1 + 1, 4, none⟩ (.slice none 0 0)).setCell ⟨w.heap.size + 1 + 1, 5, none⟩ (.slice none 0 0)) := ((((((Touch.refl (fun y => y = w.heap.size + 1 + 1) w1).setCell rfl _).setCell rfl _).setCell rfl _).setCell rfl _).setCell rfl _).setCell rfl _
  refine bodyPost_ret (v := ckV false 0 none 0 0 none 0 0 none 0 0 none 0 0) (by simp [results, Tryz.results31, go_sem, e0, e1, e2, e3, e4, e5]) rfl ?_
  unfold IFall
  refine ⟨none, 0, 0, none, 0, 0, [], fun _ => 0, none, 0, 0, [], fun _ => 0, none, 0, 0, [], fun _ => 0, fun _ => 0, w.heap.size, w.heap.size, w.heap.size, w.heap.size, rfl, ?_, ?_, ?_, rfl, fun i hi => absurd hi (Nat.not_lt_zero _), rfl, fun i hi => absurd hi (Nat.not_lt_zero _), rfl, fun i hi => absurd hi (Nat.not_lt_zero _)⟩
  ·exact B1.trans (T5.below (by omega) (fun z hz => by have hz : z = w.heap.size + 1 + 1 := hz; omega))
  ·simp; omega
  ·exact ⟨OwnX.nil _ _ _, DL.zero _ _ _ _ _, QL.zero _ _ _ _ _, GL.zero _ _ _ _ _ _, fun h => absurd h (Nat.not_lt_zero _), fun h => absurd h (Nat.not_lt_zero _), fun i hi => absurd hi (Nat.not_lt_zero _), fun h => absurd h (Nat.not_lt_zero _), fun i hi => absurd hi (Nat.not_lt_zero _), fun h => absurd h (Nat.not_lt_zero _), fun i hi => absurd hi (Nat.not_lt_zero _), fun i hi => absurd hi (Nat.not_lt_zero _), by omega⟩
 clear z0 z1 z2 z3 z4 z5 e0 e1 e2 e3 e4 e5
 obtain ⟨d0, d1, d2, d3, d4, d5⟩ := y1.sixP
 go_wp2_with fail
 refine (icopClk_any bx dx kx ex (hb.below B1) Lb.out zb (hd.below B1) Ld.out zd (hk.below B1) Lk.out zk (hg.below B1) Lg.out zg).mono ?_
 rintro ee w2 ⟨ba, cb, B, da, cd, G1, ds, t1, ka, ck, G2, ks, t2, ea, cg, G3, gs, t3, t4, n1, n2, n3, n4, rfl, b2, hn4, L, l1, m1, l2, m2, l3, m3⟩
 have f2 := b2.size
 have r2 := r1.below b2
 have B2 := btq B1 b2
 have x0 := Cel.new w2 [.bool u, .int .i64 r, .slice ba bn cb, .slice da dn cd, .slice ka kn ck, .slice ea en cg] 47
 have A : Below w2.heap.size w2 (w2.alloc (.cells #[.bool u, .int .i64 r, .slice ba bn cb, .slice da dn cd, .slice ka kn ck, .slice ea en cg] 47)) := bal
 have r3 := r2.below A
 have L3 := L.below A
 have B3 := btq B2 A
 have f3 := A.size
 have f3' : w2.heap.size < (w2.alloc (.cells #[.bool u, .int .i64 r, .slice ba bn cb, .slice da dn cd, .slice ka kn ck, .slice ea en cg] 47)).heap.size := by simp
 have M1 : Hid _ := m1
 have M2 : Hid _ := m2
 have M3 : Hid _ := m3
 have L1 : Hid _ := l1
 have L2 : Hid _ := l2
 have L3' : Hid _ := l3
 clear m1 m2 m3 l1 l2 l3 L r1 r2 y1 d0 d1 d2 d3 d4 d5 hb hd hk hg A
 go_upto_region 4 with fail
 obtain ⟨W3, hW3⟩ : ∃ W, W = w2.alloc (.cells #[.bool u, .int .i64 r, .slice ba bn cb, .slice da dn cd, .slice ka kn ck, .slice ea en cg] 47) := ⟨_, rfl⟩
 rw [<- hW3] at x0 r3 L3 B3 f3 f3' ⊢
 clear hW3
 have HL : Hid _ := L3
 clear L3
 obtain ⟨g0, g1, g2, g3, g4, g5⟩ := x0.sixP
 by_cases hs : u = up
 ·subst hs
  have hne : (u != u) = false := by cases u <;> rfl
  have heq : (u == u) = true := by cases u <;> rfl
  obtain ⟨e0, e1, e2, e3, e4, e5⟩ := r3.sixP
  have z0 := r3.free 0
  have z1 := r3.free 1
  have z2 := r3.free 2
  have z3 := r3.free 3
  have z4 := r3.free 4
  have z5 := r3.free 5
  have s3 := r3.lt
  have HQ : Hid _ := heq
  clear heq
  go_wp2
  have T5 : Touch (fun y => y = w.heap.size + 1 + 1) W3 ((((((W3.setCell ⟨w.heap.size + 1 + 1, 0, none⟩ (.bool u)).setCell ⟨w.heap.size + 1 + 1, 1, none⟩ (.int .i64 r)).setCell ⟨w.heap.size + 1 + 1, 2, none⟩ (.slice ba bn cb)).setCell ⟨w.heap.size + 1 + 1, 3, none⟩ (.slice da dn cd)).setCell ⟨w.heap.size + 1 + 1, 4, none⟩ (.slice ka kn ck)).setCell ⟨w.heap.size + 1 + 1, 5, none⟩ (.slice ea en cg)) := ((((((Touch.refl (fun y => y = w.heap.size + 1 + 1) W3).setCell rfl _).setCell rfl _).setCell rfl _).setCell rfl _).setCell rfl _).setCell rfl _
  refine bodyPost_ret (v := ckV u r ba bn cb da dn cd ka kn ck ea en cg) (by simp [results, Tryz.results31, go_sem, e0, e1, e2, e3, e4, e5]) rfl ?_
  unfold IFall
  have q : (true && u == u) = true := by rw [HQ.out]; rfl
  rw [q]
  refine ⟨ba, cb, B, da, cd, G1, ds, t1, ka, ck, G2, ks, t2, ea, cg, G3, gs, t3, t4, n1, n2, n3, n4, by rw [Bool.true_and]; rfl, ?_, ?_, ?_, L1.out, M1.out, L2.out, M2.out, L3'.out, by rw [HQ.out]; exact M3.out⟩
  ·exact B3.trans (T5.below (by omega) (fun z hz => by have hz : z = w.heap.size + 1 + 1 := hz; omega))
  ·simp; omega
  ·have hh := HL.out.touch T5 (fun x hx => Or.inl (by have hx : x = w.heap.size + 1 + 1 := hx; omega))
   exact ⟨hh.b, hh.d, hh.k, hh.g, fun h0 => ⟨by have := (hh.rb h0).1; omega, (hh.rb h0).2⟩, hh.rd, hh.rd', hh.rk, hh.rk', hh.rg, hh.rg', hh.rg'', by have := hh.o; omega⟩
 ·have hne : (u != up) = true := by cases u <;> cases up <;> first | rfl | exact absurd rfl hs
  have hqf : (u == up) = false := by cases u <;> cases up <;> first | rfl | exact absurd rfl hs
  have HQ : Hid _ := hqf
  clear hs hne
  have hne : (!u == up) = true := by rw [hqf]; rfl
  have z0 := x0.free 0
  have x1 := x0.set 0 (.bool up)
  simp only [qA] at x1
  have T1 : Touch (fun y => y = w2.heap.size) W3 (W3.setCell ⟨w2.heap.size, 0, none⟩ (.bool up)) := (Touch.refl (fun y => y = w2.heap.size) W3).setCell rfl _
  have e1 : (W3.setCell ⟨w2.heap.size, 0, none⟩ (.bool up)).heap.size <= W3.heap.size /\ W3.heap.size <= (W3.setCell ⟨w2.heap.size, 0, none⟩ (.bool up)).heap.size := by simp
  go_upto_region 6 with fail
  obtain ⟨W4, hW4⟩ : ∃ W, W = W3.setCell ⟨w2.heap.size, 0, none⟩ (.bool up) := ⟨_, rfl⟩
  rw [<- hW4] at x1 T1 e1 ⊢
  clear hW4 g0 g1 g2 g3 g4 g5 z0 x0
  go_wp2_with fail
  refine (iforget_any x1 zg).mono ?_
  rintro ee w5 ⟨v5, rfl, T2, x2, gl, h5⟩
  have TT := T1.trans T2
  have r5 := r3.touch TT (fun h => by have h : w.heap.size + 1 + 1 = w2.heap.size := h; omega)
  have s3 := r3.lt
  have hL5 : Hid _ := HL.out.touch TT (fun x hx => Or.inr (by have hx : x = w2.heap.size := hx; omega))
  have B5 : Below w.heap.size w w5 := B3.trans (TT.below (by omega) (fun z hz => by have hz : z = w2.heap.size := hz; omega))
  obtain ⟨g0, g1, g2, g3, g4, g5⟩ := x2.sixP
  obtain ⟨e0, e1', e2, e3, e4, e5⟩ := r5.sixP
  have z0 := r5.free 0
  have z1 := r5.free 1
  have z2 := r5.free 2
  have z3 := r5.free 3
  have z4 := r5.free 4
  have z5 := r5.free 5
  have s5 := r5.lt
  clear r3 TT T1 T2 x1 x2 r5
  go_wp2
  have T5 : Touch (fun y => y = w.heap.size + 1 + 1) w5 ((((((w5.setCell ⟨w.heap.size + 1 + 1, 0, none⟩ (.bool up)).setCell ⟨w.heap.size + 1 + 1, 1, none⟩ (.int .i64 r)).setCell ⟨w.heap.size + 1 + 1, 2, none⟩ (.slice ba bn cb)).setCell ⟨w.heap.size + 1 + 1, 3, none⟩ (.slice da dn cd)).setCell ⟨w.heap.size + 1 + 1, 4, none⟩ (.slice none 0 0)).setCell ⟨w.heap.size + 1 + 1, 5, none⟩ (.slice (some ⟨W4.heap.size, 0, none⟩) en en)) := ((((((Touch.refl (fun y => y = w.heap.size + 1 + 1) w5).setCell rfl _).setCell rfl _).setCell rfl _).setCell rfl _).setCell rfl _).setCell rfl _
  refine bodyPost_ret (v := ckV up r ba bn cb da dn cd none 0 0 (some ⟨W4.heap.size, 0, none⟩) en en) (by simp [results, Tryz.results31, go_sem, e0, e1', e2, e3, e4, e5]) rfl ?_
  unfold IFall
  have q : (true && u == up) = false := by rw [HQ.out]; rfl
  rw [q]
  refine ⟨ba, cb, B, da, cd, G1, ds, t1, none, 0, 0, [], fun _ => 0, some ⟨W4.heap.size, 0, none⟩, en, W4.heap.size, List.replicate en noG, fun _ => 0, fun _ => 0, n1, n2, n4, w5.heap.size, by rw [Bool.true_and]; rfl, ?_, ?_, ?_, L1.out, M1.out, rfl, fun i hi => absurd hi (Nat.not_lt_zero _), List.length_replicate, fun i hi => ?_⟩
  ·exact B5.trans (T5.below (by omega) (fun z hz => by have hz : z = w.heap.size + 1 + 1 := hz; omega))
  ·simp
  ·have hh := hL5.out.touch T5 (fun x hx => Or.inl (by have hx : x = w.heap.size + 1 + 1 := hx; omega))
   have ho := hh.o
   have hr : ∀ i, (List.replicate en noG)[i]?.getD noG = noG := fun i => by rw [List.getElem?_replicate]; split <;> rfl
   have hgl := (gl.touch T5 (fun _ hx => by have hx : W4.heap.size = w.heap.size + 1 + 1 := hx; omega) (fun i hi h => absurd h (by decide)) (fun i hi h => absurd h (by decide))).ext (g := fun i => (List.replicate en noG)[i]?.getD noG) (fun i hi => by simp [hi])
   exact ⟨hh.b, hh.d, QL.zero _ _ _ _ _, hgl, fun h0 => ⟨by have := (hh.rb h0).1; omega, (hh.rb h0).2⟩, hh.rd, hh.rd', fun h => absurd h (Nat.not_lt_zero _), fun i hi => absurd hi (Nat.not_lt_zero _), fun h0 => ⟨by omega, h5⟩, fun i hi h0 => absurd h0 (by rw [hr i]; decide), fun i hi h0 => absurd h0 (by rw [hr i]; decide), by omega⟩
  ·rw [faG, if_pos rfl, HQ.out]
   have hi : i < en := hi
   simp only [Bool.false_eq_true, if_false]
   exact ⟨rfl, rfl, rfl, trivial⟩
def SCopyP : Prop := ∀ (u : Bool) (r : Int) (Bb bn bc : Nat) (bx : List Int) (Bd dn dc : Nat) (dx : List DV) (Bk kn kc : Nat) (kx : List QV) (Bg en ec : Nat) (ex : List GV) (w : World) (hb : Blk w Bb bx) (lb : bx.length = bn) (zb : bn <= 1048576) (hd : MD w Bd dn dx) (ld : dx.length = dn) (zd : dn <= 1048576) (hk : MQ w Bk kn kx) (lk : kx.length = kn) (zk : kn <= 1048576) (hg : MG w Bg en ex) (lg : ex.length = en) (zg : en <= 1048576), Calls Tryz.prog 163 #[ckV u r (some ⟨Bb, 0, none⟩) bn bc (some ⟨Bd, 0, none⟩) dn dc (some ⟨Bk, 0, none⟩) kn kc (some ⟨Bg, 0, none⟩) en ec] w fun e w' => ∃ (ba : Option Addr) (cb : Nat) (da : Option Addr) (cd : Nat) (ds : List DV) (ka : Option Addr) (ck : Nat) (ks : List QV) (ea : Option Addr) (cg : Nat) (gs : List GV), e = .returned (ckV u r ba bn cb da dn cd ka kn ck ea en cg) /\ Below w.heap.size w w' /\ (∀ (S : Nat -> Prop) (W : World), Touch S w' W -> (∀ x, S x -> x < w.heap.size \/ w'.heap.size <= x) -> CkAt W ba bn bx da dn ds ka kn ks ea en gs) /\ (∀ i, i < dn -> sameD (dx[i]?.getD noD) (ds[i]?.getD noD)) /\ (∀ i, i < kn -> sameQ (kx[i]?.getD noQ) (ks[i]?.getD noQ)) /\ ∀ i, i < en -> sameG (ex[i]?.getD noG) (gs[i]?.getD noG)
def SFall (u : Bool) (r : Int) (bn : Nat) (bx : List Int) (dn : Nat) (dx : List DV) (kn : Nat) (kx : List QV) (en : Nat) (ex : List GV) (up ok : Bool) (w : World) (e : Ending) (w' : World) : Prop := ∃ (ba : Option Addr) (cb : Nat) (da : Option Addr) (cd : Nat) (ds : List DV) (ka : Option Addr) (ck : Nat) (ks : List QV) (ea : Option Addr) (cg : Nat) (gs : List GV), e = .returned (ckV (ok && up) (if ok then r else 0) ba (faN ok bn) cb da (faN ok dn) cd ka (faN (ok && u == up) kn) ck ea (faN ok en) cg) /\ Below w.heap.size w w' /\ (∀ (S : Nat -> Prop) (W : World), Touch S w' W -> (∀ x, S x -> x < w.heap.size \/ w'.heap.size <= x) -> CkAt W ba (faN ok bn) (faL ok bx) da (faN ok dn) ds ka (faN (ok && u == up) kn) ks ea (faN ok en) gs) /\ (∀ i, i < faN ok dn -> sameD ((faL ok dx)[i]?.getD noD) (ds[i]?.getD noD)) /\ (∀ i, i < faN (ok && u == up) kn -> sameQ ((faL (ok && u == up) kx)[i]?.getD noQ) (ks[i]?.getD noQ)) /\ ∀ i, i < faN ok en -> sameG ((faG ok (u == up) en ex)[i]?.getD noG) (gs[i]?.getD noG)
theorem sl9fall_of (HS : SCopyP) {cl : Int} {ad : Option Addr} {N cap : Nat} {ga : Option Addr} {gn gc : Nat} {sa : Option Addr} {sn sc : Nat} {u : Bool} {r : Int} {Bb bn bc : Nat} (bx : List Int) {Bd dn dc : Nat} (dx : List DV) {Bk kn kc : Nat} (kx : List QV) {Bg en ec : Nat} (ex : List GV) {up : Bool} {w : World} (hb : Blk w Bb bx) (lb : bx.length = bn) (zb : bn <= 1048576) (hd : MD w Bd dn dx) (ld : dx.length = dn) (zd : dn <= 1048576) (hk : MQ w Bk kn kx) (lk : kx.length = kn) (zk : kn <= 1048576) (hg : MG w Bg en ex) (lg : ex.length = en) (zg : en <= 1048576) (hen : en = gn) :
  Calls Tryz.prog 81 #[plV cl ad N cap ga gn gc sa sn sc, ckV u r (some ⟨Bb, 0, none⟩) bn bc (some ⟨Bd, 0, none⟩) dn dc (some ⟨Bk, 0, none⟩) kn kc (some ⟨Bg, 0, none⟩) en ec, .bool up] w fun e w' => SFall u r bn bx dn dx kn kx en ex up true w e w' := by
 have HEN : Hid _ := hen
 clear hen
 have q0 := ((Cel.new w [.int .i64 cl, .slice ad N cap, .slice ga gn gc, .slice sa sn sc] 41).alloc (.cells #[.bool u, .int .i64 r, .slice (some ⟨Bb, 0, none⟩) bn bc, .slice (some ⟨Bd, 0, none⟩) dn dc, .slice (some ⟨Bk, 0, none⟩) kn kc, .slice (some ⟨Bg, 0, none⟩) en ec] 47)).alloc (.cells #[.bool false, .int .i64 0, .slice none 0 0, .slice none 0 0, .slice none 0 0, .slice none 0 0] 47)
 have y0 := (Cel.new (w.alloc (.cells #[.int .i64 cl, .slice ad N cap, .slice ga gn gc, .slice sa sn sc] 41)) [.bool u, .int .i64 r, .slice (some ⟨Bb, 0, none⟩) bn bc, .slice (some ⟨Bd, 0, none⟩) dn dc, .slice (some ⟨Bk, 0, none⟩) kn kc, .slice (some ⟨Bg, 0, none⟩) en ec] 47).alloc (.cells #[.bool false, .int .i64 0, .slice none 0 0, .slice none 0 0, .slice none 0 0, .slice none 0 0] 47)
 have r0 := Cel.new ((w.alloc (.cells #[.int .i64 cl, .slice ad N cap, .slice ga gn gc, .slice sa sn sc] 41)).alloc (.cells #[.bool u, .int .i64 r, .slice (some ⟨Bb, 0, none⟩) bn bc, .slice (some ⟨Bd, 0, none⟩) dn dc, .slice (some ⟨Bk, 0, none⟩) kn kc, .slice (some ⟨Bg, 0, none⟩) en ec] 47)) [.bool false, .int .i64 0, .slice none 0 0, .slice none 0 0, .slice none 0 0, .slice none 0 0] 47
 rw [World.size_alloc] at y0
 rw [World.size_alloc, World.size_alloc] at r0
 have B0 := (((Below.refl w.heap.size w).alloc (qE _) (.cells #[.int .i64 cl, .slice ad N cap, .slice ga gn gc, .slice sa sn sc] 41)).alloc (by simp) (.cells #[.bool u, .int .i64 r, .slice (some ⟨Bb, 0, none⟩) bn bc, .slice (some ⟨Bd, 0, none⟩) dn dc, .slice (some ⟨Bk, 0, none⟩) kn kc, .slice (some ⟨Bg, 0, none⟩) en ec] 47)).alloc (by simp; omega) (.cells #[.bool false, .int .i64 0, .slice none 0 0, .slice none 0 0, .slice none 0 0, .slice none 0 0] 47)
 have Lb : Hid _ := lb
 have Ld : Hid _ := ld
 have Lk : Hid _ := lk
 have Lg : Hid _ := lg
 clear lb ld lk lg
 go_enter Tryz.func81, Tryz.ntmps81
 go_upto_region 1 with fail
 obtain ⟨W0, hW0⟩ : ∃ W, W = (((w.alloc (.cells #[.int .i64 cl, .slice ad N cap, .slice ga gn gc, .slice sa sn sc] 41)).alloc (.cells #[.bool u, .int .i64 r, .slice (some ⟨Bb, 0, none⟩) bn bc, .slice (some ⟨Bd, 0, none⟩) dn dc, .slice (some ⟨Bk, 0, none⟩) kn kc, .slice (some ⟨Bg, 0, none⟩) en ec] 47)).alloc (.cells #[.bool false, .int .i64 0, .slice none 0 0, .slice none 0 0, .slice none 0 0, .slice none 0 0] 47)) := ⟨_, rfl⟩
 rw [<- hW0] at q0 y0 r0 B0 ⊢
 clear hW0
 have s0 := r0.lt
 obtain ⟨d0, d1, d2, d3, d4, d5⟩ := y0.sixP
 go_wp2_with fail
 refine (HS _ _ _ _ _ bx _ _ _ dx _ _ _ kx _ _ _ ex _ (hb.below B0) Lb.out zb (hd.below B0) Ld.out zd (hk.below B0) Lk.out zk (hg.below B0) Lg.out zg).mono ?_
 rintro ee w2 ⟨ba, cb, da, cd, ds, ka, ck, ks, ea, cg, gs, rfl, b2, L, m1, m2, m3⟩
 have f2 := b2.size
 have q2 := q0.below b2
 have y2 := y0.below b2
 have r2 := r0.below b2
 have B2 := btq B0 b2
 have x0 := Cel.new w2 [.bool u, .int .i64 r, .slice ba bn cb, .slice da dn cd, .slice ka kn ck, .slice ea en cg] 47
 have A : Below w2.heap.size w2 (w2.alloc (.cells #[.bool u, .int .i64 r, .slice ba bn cb, .slice da dn cd, .slice ka kn ck, .slice ea en cg] 47)) := bal
 have q3 := q2.below A
 have y3 := y2.below A
 have r3 := r2.below A
 have B3 := btq B2 A
 have f3' : w2.heap.size < (w2.alloc (.cells #[.bool u, .int .i64 r, .slice ba bn cb, .slice da dn cd, .slice ka kn ck, .slice ea en cg] 47)).heap.size := by simp
 have M1 : Hid _ := m1
 have M2 : Hid _ := m2
 have M3 : Hid _ := m3
 have HL : Hid _ := L
 have TA : Hid (Touch (fun _ => False) w2 (w2.alloc (.cells #[.bool u, .int .i64 r, .slice ba bn cb, .slice da dn cd, .slice ka kn ck, .slice ea en cg] 47))) := Touch.of A
 clear m1 m2 m3 L q0 q2 y0 y2 r0 r2 d0 d1 d2 d3 d4 d5 hb hd hk hg A
 go_upto_region 2 with fail
 obtain ⟨W3, hW3⟩ : ∃ W, W = w2.alloc (.cells #[.bool u, .int .i64 r, .slice ba bn cb, .slice da dn cd, .slice ka kn ck, .slice ea en cg] 47) := ⟨_, rfl⟩
 rw [<- hW3] at x0 q3 y3 r3 TA B3 f3' ⊢
 clear hW3
 obtain ⟨d0, d1, d2, d3, d4, d5⟩ := y3.sixP
 by_cases hs : u = up
 ·subst hs
  have heq : (u == u) = true := by cases u <;> rfl
  have HQ : Hid _ := heq
  clear heq
  have zz := x0.free 0
  have g0 := x0.cell 0
  simp only [qC] at g0
  have x1 := x0.set 0 (.bool u)
  simp only [qA] at x1
  have T1 : Touch (fun y => y = w2.heap.size) W3 (W3.setCell ⟨w2.heap.size, 0, none⟩ (.bool u)) := (Touch.refl (fun y => y = w2.heap.size) W3).setCell rfl _
  go_upto_region 6 with fail
  obtain ⟨W4, hW4⟩ : ∃ W, W = W3.setCell ⟨w2.heap.size, 0, none⟩ (.bool u) := ⟨_, rfl⟩
  rw [<- hW4] at x1 T1 ⊢
  clear hW4 g0 zz d0 d1 d2 d3 d4 d5
  have r4 := r3.touch T1 (fun h => by have h : w.heap.size + 1 + 1 = w2.heap.size := h; omega)
  obtain ⟨g0, g1, g2, g3, g4, g5⟩ := x1.sixP
  obtain ⟨e0, e1, e2, e3, e4, e5⟩ := r4.sixP
  have z0 := r4.free 0
  have z1 := r4.free 1
  have z2 := r4.free 2
  have z3 := r4.free 3
  have z4 := r4.free 4
  have z5 := r4.free 5
  have s4 := r4.lt
  go_wp2
  have T5 : Touch (fun y => y = w.heap.size + 1 + 1) W4 ((((((W4.setCell ⟨w.heap.size + 1 + 1, 0, none⟩ (.bool u)).setCell ⟨w.heap.size + 1 + 1, 1, none⟩ (.int .i64 r)).setCell ⟨w.heap.size + 1 + 1, 2, none⟩ (.slice ba bn cb)).setCell ⟨w.heap.size + 1 + 1, 3, none⟩ (.slice da dn cd)).setCell ⟨w.heap.size + 1 + 1, 4, none⟩ (.slice ka kn ck)).setCell ⟨w.heap.size + 1 + 1, 5, none⟩ (.slice ea en cg)) := ((((((Touch.refl (fun y => y = w.heap.size + 1 + 1) W4).setCell rfl _).setCell rfl _).setCell rfl _).setCell rfl _).setCell rfl _).setCell rfl _
  refine bodyPost_ret (v := ckV u r ba bn cb da dn cd ka kn ck ea en cg) (by simp [results, Tryz.results81, go_sem, e0, e1, e2, e3, e4, e5]) rfl ?_
  unfold SFall
  have q : (true && u == u) = true := by rw [HQ.out]; rfl
  rw [q]
  have TT : Touch (fun y => y = w2.heap.size \/ y = w.heap.size + 1 + 1) w2 _ := ((TA.out.mono (T := fun y => y = w2.heap.size \/ y = w.heap.size + 1 + 1) fun _ h => h.elim).trans (T1.mono fun _ h => Or.inl h)).trans (T5.mono fun _ h => Or.inr h)
  refine ⟨ba, cb, da, cd, ds, ka, ck, ks, ea, cg, gs, by rw [Bool.true_and]; rfl, ?_, ?_, M1.out, M2.out, by rw [HQ.out]; exact M3.out⟩
  ·exact B2.trans (TT.below (by omega) (fun z hz => by omega))
  ·intro S W t hS
   have ss := (TT.below (B := w.heap.size) (by omega) (fun z hz => by omega)).size
   exact HL.out (fun y => (y = w2.heap.size \/ y = w.heap.size + 1 + 1) \/ S y) _ ((TT.mono fun _ h => Or.inl h).trans (t.mono fun _ h => Or.inr h)) (fun x hx => by rcases hx with hx | hx; (· omega); (· have := hS x hx; omega))
 ·have hqf : (u == up) = false := by cases u <;> cases up <;> first | rfl | exact absurd rfl hs
  have hqg : (up == u) = false := by cases u <;> cases up <;> first | rfl | exact absurd rfl hs
  have HQ : Hid _ := hqf
  have hne : (!up == u) = true := by rw [hqg]; rfl
  clear hs
  have zz := x0.free 4
  have g4 := x0.cell 4
  simp only [qC, qD] at g4
  have x1 := (x0.set 4 (.slice (some ⟨W3.heap.size, 0, none⟩) 0 0)).alloc (.cells #[] 106)
  simp only [qA, qB] at x1
  have T1 : Touch (fun y => y = w2.heap.size) W3 ((W3.setCell ⟨w2.heap.size, 4, none⟩ (.slice (some ⟨W3.heap.size, 0, none⟩) 0 0)).alloc (.cells #[] 106)) := ((Touch.refl (fun y => y = w2.heap.size) _).setCell rfl _).trans (Touch.of (bal))
  have e1 : W3.heap.size <= ((W3.setCell ⟨w2.heap.size, 4, none⟩ (.slice (some ⟨W3.heap.size, 0, none⟩) 0 0)).alloc (.cells #[] 106)).heap.size := by simp
  go_upto_region 4 with fail
  obtain ⟨W4, hW4⟩ : ∃ W, W = (W3.setCell ⟨w2.heap.size, 4, none⟩ (.slice (some ⟨W3.heap.size, 0, none⟩) 0 0)).alloc (.cells #[] 106) := ⟨_, rfl⟩
  rw [<- hW4] at x1 T1 e1 ⊢
  clear hW4 g4 zz d0 d1 d2 d3 d4 d5
  have q4 := q3.touch T1 (fun h => by have h : w.heap.size = w2.heap.size := h; omega)
  have r4 := r3.touch T1 (fun h => by have h : w.heap.size + 1 + 1 = w2.heap.size := h; omega)
  obtain ⟨c0, c1, c2, c3⟩ := q4.quadP
  go_wp2_with fail
  refine (snoneG_any (by rw [<- HEN.out]; exact zg)).mono ?_
  rintro ee w5 ⟨na, nc, rfl, b5, hG⟩
  have x5 := x1.below b5
  have r5 := r4.below b5
  have f5 := b5.size
  have zz := x5.free 5
  have u5 := x5.cell 5
  simp only [qC, qD] at u5
  have x6 := x5.set 5 (.slice na gn nc)
  simp only [qA, qB] at x6
  have T6 : Touch (fun y => y = w2.heap.size) w5 (w5.setCell ⟨w2.heap.size, 5, none⟩ (.slice na gn nc)) := (Touch.refl (fun y => y = w2.heap.size) w5).setCell rfl _
  have z0 := x6.free 0
  have u0 := x6.cell 0
  simp only [qC] at u0
  have x7 := x6.set 0 (.bool up)
  simp only [qA] at x7
  have T7 : Touch (fun y => y = w2.heap.size) w5 ((w5.setCell ⟨w2.heap.size, 5, none⟩ (.slice na gn nc)).setCell ⟨w2.heap.size, 0, none⟩ (.bool up)) := T6.trans ((Touch.refl (fun y => y = w2.heap.size) _).setCell rfl _)
  have HGG : Hid _ := hG
  clear c0 c1 c2 c3 q4 hG
  go_upto_region 6 with fail
  obtain ⟨W7, hW7⟩ : ∃ W, W = (w5.setCell ⟨w2.heap.size, 5, none⟩ (.slice na gn nc)).setCell ⟨w2.heap.size, 0, none⟩ (.bool up) := ⟨_, rfl⟩
  rw [<- hW7] at x7 T7 ⊢
  have r7 := r5.touch T7 (fun h => by have h : w.heap.size + 1 + 1 = w2.heap.size := h; omega)
  clear hW7 zz u5 z0 u0 x5 x6 T6 r5 r4
  obtain ⟨g0, g1, g2, g3, g4, g5⟩ := x7.sixP
  obtain ⟨e0, e1, e2, e3, e4, e5⟩ := r7.sixP
  have z0 := r7.free 0
  have z1 := r7.free 1
  have z2 := r7.free 2
  have z3 := r7.free 3
  have z4 := r7.free 4
  have z5 := r7.free 5
  have s4 := r7.lt
  go_wp2
  have T5 : Touch (fun y => y = w.heap.size + 1 + 1) W7 ((((((W7.setCell ⟨w.heap.size + 1 + 1, 0, none⟩ (.bool up)).setCell ⟨w.heap.size + 1 + 1, 1, none⟩ (.int .i64 r)).setCell ⟨w.heap.size + 1 + 1, 2, none⟩ (.slice ba bn cb)).setCell ⟨w.heap.size + 1 + 1, 3, none⟩ (.slice da dn cd)).setCell ⟨w.heap.size + 1 + 1, 4, none⟩ (.slice (some ⟨W3.heap.size, 0, none⟩) 0 0)).setCell ⟨w.heap.size + 1 + 1, 5, none⟩ (.slice na gn nc)) := ((((((Touch.refl (fun y => y = w.heap.size + 1 + 1) W7).setCell rfl _).setCell rfl _).setCell rfl _).setCell rfl _).setCell rfl _).setCell rfl _
  refine bodyPost_ret (v := ckV up r ba bn cb da dn cd (some ⟨W3.heap.size, 0, none⟩) 0 0 na gn nc) (by simp [results, Tryz.results81, go_sem, e0, e1, e2, e3, e4, e5]) rfl ?_
  unfold SFall
  have q : (true && u == up) = false := by rw [HQ.out]; rfl
  rw [q]
  have TT : Touch (fun y => y = w2.heap.size \/ y = w.heap.size + 1 + 1) w2 _ := ((((TA.out.mono (T := fun y => y = w2.heap.size \/ y = w.heap.size + 1 + 1) fun _ h => h.elim).trans (T1.mono fun _ h => Or.inl h)).trans (Touch.of b5)).trans (T7.mono fun _ h => Or.inl h)).trans (T5.mono fun _ h => Or.inr h)
  have ss := (TT.below (B := w.heap.size) (by omega) (fun z hz => by omega)).size
  have TG : Touch (fun y => y = w2.heap.size \/ y = w.heap.size + 1 + 1) w5 _ := (T7.mono fun _ h => Or.inl h).trans (T5.mono fun _ h => Or.inr h)
  have st := (TG.below (B := w.heap.size) (by omega) (fun z hz => by omega)).size
  refine ⟨ba, cb, da, cd, ds, some ⟨W3.heap.size, 0, none⟩, 0, [], na, nc, List.replicate gn noG, by rw [Bool.true_and, HEN.out]; rfl, ?_, ?_, M1.out, fun i hi => absurd hi (Nat.not_lt_zero _), fun i hi => ?_⟩
  ·exact B2.trans (TT.below (by omega) (fun z hz => by omega))
  ·intro S W t hS
   have hL := HL.out (fun y => (y = w2.heap.size \/ y = w.heap.size + 1 + 1) \/ S y) _ ((TT.mono fun _ h => Or.inl h).trans (t.mono fun _ h => Or.inr h)) (fun x hx => by rcases hx with hx | hx; (· omega); (· have := hS x hx; omega))
   have hg5 := HGG.out (fun y => (y = w2.heap.size \/ y = w.heap.size + 1 + 1) \/ S y) _ ((TG.mono fun _ h => Or.inl h).trans (t.mono fun _ h => Or.inr h)) (fun x hx => by rcases hx with hx | hx; (· omega); (· have := hS x hx; omega))
   exact ⟨hL.b, hL.zb, hL.d, hL.ld, hL.zd, fun i hi => absurd hi (Nat.not_lt_zero _), rfl, Nat.zero_le _, hg5, by rw [List.length_replicate, HEN.out]; rfl, hL.zg⟩
  ·rw [faG, if_pos rfl, HQ.out, HEN.out]
   simp only [Bool.false_eq_true, if_false]
   exact ⟨rfl, rfl, rfl, trivial⟩
theorem Touch.ofB {w' : World} (h : Below B w w') (hs : w.heap.size <= w'.heap.size) : Touch (fun x => B <= x) w w' := ⟨h.os, h.tape, h.output, hs, fun k hk hn => h.block k (by omega)⟩
theorem wp_copyI {o : Oper} {a : Act} {K : Act -> World -> Prop} {Q : Exit -> Act -> World -> Prop} (s x : Operand) (ho : o.op = .call { callee := .builtin .append, args := #[s, x], argTypes := #[23, 23] }) (base L B n cap : Nat) (zs : List Int)
  (hs : a.eval s = .slice (some ⟨L, 0, none⟩) 0 0) (hown : W.ownsRow base 3 1 (.slice (some ⟨L, 0, none⟩) 0 0) 0 []) (hx : a.eval x = .slice (some ⟨B, 0, none⟩) n cap) (hb : Blk W B zs) (hl : zs.length = n) (hn : n <= 1048576) (hbase : base <= W.heap.size) (hL : base <= L)
  (h : ∀ a' cap' B' W1, Below base W W1 -> Touch (fun z => z = L) W W1 -> OwnX W1 a' B' n zs -> (0 < n -> base <= B' /\ (B' = L \/ W.heap.size <= B')) -> K (a.put o.dst (.slice a' n cap')) W1) : o.wp Tryz.prog a W K Q := by
 by_cases h0 : 0 < n
 ·obtain ⟨i0, hi, hz0, hz1, hz2⟩ := info_parts Tryz.infoInt
  have hcl : ∀ i, i < n -> W.cell? ⟨B, 0 + i, none⟩ = some (.int .i64 (zs.getD i 0)) := fun i hi => by rw [Nat.zero_add]; exact hb.cell i (by omega)
  refine wp_append_lies _ s x 23 ho base 3 i0 (.int .i64 0) 1 8 Tryz.underlying23 hi hz0 hz1 hz2 rfl (by omega) _ 0 [] hs hown ⟨B, 0, none⟩ n cap (zs.map (Value.int .i64)) hx (by rw [qF, hl, Nat.mul_one]) (newsI hcl hl) (oneI) h0 (by unfold maxLen; omega) (by omega) hbase _ rfl ?_
  intro g cp W1 ho1 hg hat hlt
  have hB : Below base W W1 := (Below.refl base W).grown hg hbase (fun z hz => by simp only [Value.ownBlock, Option.some.injEq] at hz; omega)
  simp only [Nat.zero_add]
  have hgb : base <= g /\ (g = L \/ W.heap.size <= g) := by
   rcases hat with e | e
   ·simp only [Value.ownBlock, Option.some.injEq] at e; omega
   ·omega
  refine h _ _ g W1 hB ⟨hB.os, hB.tape, hB.output, hB.size, fun C hC hne => ?_⟩ ?_ (fun _ => hgb)
  ·rw [hg.block C hC (by simp only [Value.ownBlock]; intro e; simp only [Option.some.injEq] at e; exact hne e)]
  ·rcases ho1.2 with ⟨hv, _⟩ | ⟨g', cap', cur, hv, hg', hh, hl', _, hs', ht⟩
   ·simp at hv
   ·simp only [Value.slice.injEq, Option.some.injEq, Addr.mk.injEq, and_true, true_and] at hv
    obtain ⟨rfl, rfl⟩ := hv
    refine ⟨hl, .inr ⟨rfl, cur.toList, by unfold Cel; simpa using hh, fun i hi => ?_⟩⟩
    have h1 : (cur.toList.take ((0 + n) * 1))[i]? = (zs.map (Value.int .i64))[i]? := by rw [ht]; rfl
    rw [List.getElem?_take, if_pos (by omega)] at h1
    rw [h1]
    have hi2 : i < zs.length := by omega
    simp [hi2]
 ·obtain rfl : n = 0 := by omega
  have hzs : zs = [] := List.eq_nil_of_length_eq_zero hl
  subst hzs
  obtain ⟨dst, op, ty, pos, after, guard⟩ := o
  dsimp only at ho
  subst ho
  unfold Oper.wp execOp
  simp only [resolve, invoke, builtin, Sem.run_bind, Sem.run_pure, Result.andThen_ok, List.map_toArray, List.map_cons, List.map_nil, hs, hx]
  go_simp
  exact h _ _ 0 W (Below.refl _ _) (Touch.refl _ _) (OwnX.nil _ _ _) (fun h => absurd h (Nat.lt_irrefl _))
section
variable {P : Program} {md : Region.Mode} {ops : Array Oper} {Q : Exit -> Act -> World -> Prop} {S0 S : World -> Prop} {s : Nat}
theorem tkM {i : Nat} {oi os : Oper} {fuel : Nat} {listed : Array Bool} {a : Act} (hi : ops[i]? = some oi) (hos : ops[s]? = some os) (hS : S0 w /\ S w)
  (h : wpAnyE P md ops Q S0 S s fuel (listed.setIfInBounds i true) (a.put oi.dst v) w)
  (hw : Region.wanted oi (yielded ops a.tmps) = true := by rfl)
  (hy : ∀ w, S w -> (execOp a.eval oi).run P w = .ok (.value v) w := by (intro wz hSw; (try dsimp only at hSw); go_simp; try (with_reducible rfl)))
  (hs : Region.noSelect ops = true := by kernel_rfl) (hf : Region.free md ops listed i = true := by kernel_rfl) (hr : (Region.ready md ops listed).contains i = true := by kernel_rfl) (his : i ≠ s := by decide)
  (hls : listed.getD s true = false := by rfl) (hb : ∃ e ∈ os.after, Region.binds md e = true /\ e.on = i := by simp [Region.binds])
  (hQ : ∀ c a w, Q (.panic c) (a.put oi.dst v) w -> Q (.panic c) a w := by exact fun _ _ _ h => h) : wpAnyE P md ops Q S0 S s (fuel + 1) listed a w :=
 wpAnyE_take1 hi hos hs hf hr his hls hb hQ (Or.inl ⟨hw, hy⟩) hS h
end
theorem Below.setBoth (h : Below w.heap.size w W) {X : Nat} {vs : List Value} {t : TypeId} (hX : X < w.heap.size) (hc : Cel W X vs t) (i : Nat) (y : Value) : Below w.heap.size (w.setCell ⟨X, i, none⟩ y) (W.setCell ⟨X, i, none⟩ y) := by
 have tW : Touch (fun x => x = X) W (W.setCell ⟨X, i, none⟩ y) := (Touch.refl (fun x => x = X) W).setCell rfl _
 have tw : Touch (fun x => x = X) w (w.setCell ⟨X, i, none⟩ y) := (Touch.refl (fun x => x = X) w).setCell rfl _
 have hcw : Cel w X vs t := by unfold Cel at *; rw [<- h.block X hX]; exact hc
 have hs := h.size
 refine ⟨tW.os.trans (h.os.trans tw.os.symm), tW.tape.trans (h.tape.trans tw.tape.symm), tW.output.trans (h.output.trans tw.output.symm), by rw [size_setCell, size_setCell]; exact hs, fun k hk => ?_⟩
 by_cases e : k = X
 ·subst e
  have h1 := hc.set i y
  have h2 := hcw.set i y
  unfold Cel at h1 h2
  rw [h1, h2]
 ·rw [tW.block k (by omega) e, tw.block k hk e, h.block k hk]
theorem own_touch {S : Nat -> Prop} {W' : World} {base : Nat} {e : TypeId} {s : Nat} {xs : List Value} (h : W.ownsRow base e s v n xs) (t : Touch S W W') (hS : ∀ g, base <= g -> ¬ S g) : W'.ownsRow base e s v n xs := by
 refine ⟨h.1, ?_⟩
 rcases h.2 with h0 | ⟨g, cap, cur, hv, hb, hg, hr⟩
 ·exact .inl h0
 ·exact .inr ⟨g, cap, cur, hv, hb, by rw [t.block g (lt_of_block hg) (hS g hb)]; exact hg, hr⟩
theorem own_keep {S : Nat -> Prop} {W' : World} {base : Nat} {e : TypeId} {s : Nat} {xs : List Value} (h : W.ownsRow base e s v n xs) (t : Touch S W W') (hS : ∀ g, v.ownBlock = some g -> ¬ S g) : W'.ownsRow base e s v n xs := by
 refine ⟨h.1, ?_⟩
 rcases h.2 with h0 | ⟨g, cap, cur, hv, hb, hg, hr⟩
 ·exact .inl h0
 ·exact .inr ⟨g, cap, cur, hv, hb, by rw [t.block g (lt_of_block hg) (hS g (by rw [hv]; rfl))]; exact hg, hr⟩
theorem JQc.setLow {ts : List QV} (j : JQc w v ts bs W) {X : Nat} {vs : List Value} {t : TypeId} (hX : X < w.heap.size) (hc : Cel W X vs t) (i : Nat) (y : Value) : JQc (w.setCell ⟨X, i, none⟩ y) v ts bs (W.setCell ⟨X, i, none⟩ y) := by
 have tW : Touch (fun x => x = X) W (W.setCell ⟨X, i, none⟩ y) := (Touch.refl (fun x => x = X) W).setCell rfl _
 have b := Below.setBoth j.b hX hc i y
 refine ⟨by rw [size_setCell]; exact b, by rw [size_setCell]; exact own_touch j.o tW (fun g hg e => by omega), fun k hk => ?_, j.d⟩
 obtain ⟨a, b, c⟩ := j.k k hk
 exact ⟨a.touch tW (fun h0 e => by have := (c h0).1; omega), b, fun h0 => by rw [size_setCell]; exact c h0⟩
theorem JGc.setLow {ts : List GV} {ds : Nat -> Nat} (j : JGc w v ts bs ds W) {X : Nat} {vs : List Value} {t : TypeId} (hX : X < w.heap.size) (hc : Cel W X vs t) (i : Nat) (y : Value) : JGc (w.setCell ⟨X, i, none⟩ y) v ts bs ds (W.setCell ⟨X, i, none⟩ y) := by
 have tW : Touch (fun x => x = X) W (W.setCell ⟨X, i, none⟩ y) := (Touch.refl (fun x => x = X) W).setCell rfl _
 have b := Below.setBoth j.b hX hc i y
 refine ⟨by rw [size_setCell]; exact b, by rw [size_setCell]; exact own_touch j.o tW (fun g hg e => by omega), fun k hk => ?_, fun k hk => ?_, j.d, j.e, j.m⟩
 ·obtain ⟨a, b, c⟩ := j.k k hk
  exact ⟨a.touch tW (fun h0 e => by have := (c h0).1; omega), b, fun h0 => by rw [size_setCell]; exact c h0⟩
 ·obtain ⟨a, b, c⟩ := j.u k hk
  exact ⟨a.touch tW (fun h0 e => by have := (c h0).1; omega), b, fun h0 => by rw [size_setCell]; exact c h0⟩
structure SC9 (W0 : World) (u : Bool) (r : Int) (ba : Option Addr) (bn cb : Nat) (bx : List Int) (Bq : Nat) (da : Option Addr) (dn cd G : Nat) (ds : List DV) (bs : Nat -> Nat) (X : Nat) (W : World) : Prop where
 b : Below W0.heap.size W0 W
 x : Cel W X [.bool u, .int .i64 r, .slice ba bn cb, .slice da dn cd, .slice none 0 0, .slice none 0 0] 47
 hX : W0.heap.size <= X
 o : OwnX W ba Bq bn bx
 hB : 0 < bn -> W0.heap.size <= Bq /\ Bq ≠ X
 d : DL W da G dn (fun i => ds[i]?.getD noD) bs
 hG : 0 < dn -> W0.heap.size <= G /\ G ≠ X
 hb : ∀ i, i < dn -> 0 < (ds[i]?.getD noD).t.n -> W0.heap.size <= bs i /\ bs i ≠ X
 l : ds.length = dn
theorem SC9.mk' {W0 WS : World} {u : Bool} {r : Int} {ba : Option Addr} {bn cb : Nat} {bx : List Int} {Bq : Nat} {da : Option Addr} {dn cd G : Nat} {ds : List DV} {X : Nat} (dS : Below W0.heap.size W0 WS) (xS : Cel WS X [.bool u, .int .i64 r, .slice ba bn cb, .slice da dn cd, .slice none 0 0, .slice none 0 0] 47) (T : Touch (fun z => z = X) W WS) (hX : W0.heap.size <= X) (o : OwnX W ba Bq bn bx) (hB : 0 < bn -> W0.heap.size <= Bq /\ Bq ≠ X) (d : DL W da G dn (fun i => ds[i]?.getD noD) bs) (hG : 0 < dn -> W0.heap.size <= G /\ G ≠ X) (hb : ∀ i, i < dn -> 0 < (ds[i]?.getD noD).t.n -> W0.heap.size <= bs i /\ bs i ≠ X) (l : ds.length = dn) : SC9 W0 u r ba bn cb bx Bq da dn cd G ds bs X WS :=
 ⟨dS, xS, hX, o.touch T (fun h0 e => (hB h0).2 e), hB, d.touch T (fun h0 e => (hG h0).2 e) (fun i hi h0 e => (hb i hi h0).2 e), hG, hb, l⟩
theorem JGc.fresh {V : World} {gs : List GV} {bg dg : Nat -> Nat} {m a b x y : Nat} (j : JGc w v gs bg dg V) (hl : gs.length = m) (hs : w.heap.size <= V.heap.size) (h1 : 0 < a -> V.heap.size <= x) (h2 : 0 < b -> V.heap.size <= y) :
  Hid (0 < a -> ∀ i, i < m -> (0 < (gs[i]?.getD noG).t.n -> bg i ≠ x) /\ (0 < (gs[i]?.getD noG).u.n -> dg i ≠ x)) /\ Hid (0 < b -> ∀ i, i < m -> (0 < (gs[i]?.getD noG).t.n -> bg i ≠ y) /\ (0 < (gs[i]?.getD noG).u.n -> dg i ≠ y)) /\ Hid (0 < a -> w.heap.size <= x /\ some x ≠ v.ownBlock) /\ Hid (0 < b -> w.heap.size <= y /\ some y ≠ v.ownBlock) := by
 have key : ∀ {c z : Nat}, (0 < c -> V.heap.size <= z) -> (0 < c -> ∀ i, i < m -> (0 < (gs[i]?.getD noG).t.n -> bg i ≠ z) /\ (0 < (gs[i]?.getD noG).u.n -> dg i ≠ z)) /\ (0 < c -> w.heap.size <= z /\ some z ≠ v.ownBlock) := fun h => by
  refine ⟨fun h0 i hi => ?_, fun h0 => ?_⟩
  ·have h2 := h h0
   exact ⟨fun hi0 => by have h1 := ((j.k i (by rw [hl]; exact hi)).1).lt hi0; omega, fun hi0 => by have h1 := ((j.u i (by rw [hl]; exact hi)).1).lt hi0; omega⟩
  ·have h2 := h h0
   exact ⟨by omega, fun e => by have := (j.own e.symm).2; omega⟩
 exact ⟨(key h1).1, (key h2).1, (key h1).2, (key h2).2⟩
theorem sameG_app {xs gs : List GV} {s : GV} {m : Nat} (hl : gs.length = m) (h : ∀ i, i < m -> sameG (xs[i]?.getD noG) (gs[i]?.getD noG)) (hs : sameG (xs[m]?.getD noG) s) : ∀ i, i < m + 1 -> sameG (xs[i]?.getD noG) ((gs ++ [s])[i]?.getD noG) := fun i hi => by
 by_cases e : i < m
 ·rw [List.getElem?_append_left (by rw [hl]; exact e)]; exact h i e
 ·obtain rfl : i = m := by omega
  rw [List.getElem?_append_right (by rw [hl]; exact qE _), hl, Nat.sub_self]
  exact hs
theorem scopCall_any {x q c : Int} (zs : List Int) {w : World} (h : Blk w B zs) (hl : zs.length = n) (hn : n <= 1048576) :
  Calls Tryz.prog 219 #[qV x q c (some ⟨B, 0, none⟩) n cap] w fun e w' => ∃ a' cap' B', e = .returned (qV x q c a' n cap') /\ Below w.heap.size w w' /\ OwnX w' a' B' n zs /\ (0 < n -> w.heap.size <= B') := by
 have p0 := (Cel.new w [.int .i64 x, .int .i64 q, .int .i64 c, .slice (some ⟨B, 0, none⟩) n cap] 106).alloc (.cells #[.int .i64 0, .int .i64 0, .int .i64 0, .slice none 0 0] 106)
 have r0 := Cel.new (w.alloc (.cells #[.int .i64 x, .int .i64 q, .int .i64 c, .slice (some ⟨B, 0, none⟩) n cap] 106)) [.int .i64 0, .int .i64 0, .int .i64 0, .slice none 0 0] 106
 rw [World.size_alloc] at r0
 have B0 := ((Below.refl w.heap.size w).alloc (qE _) (.cells #[.int .i64 x, .int .i64 q, .int .i64 c, .slice (some ⟨B, 0, none⟩) n cap] 106)).alloc (by simp) (.cells #[.int .i64 0, .int .i64 0, .int .i64 0, .slice none 0 0] 106)
 have HZ : Hid (zs.length = n) := hl
 clear hl
 obtain ⟨i0, hi, hz0, hz1, hz2⟩ := info_parts Tryz.infoInt
 go_enter Tryz.func219, Tryz.ntmps219
 go_upto_region 1 with fail
 obtain ⟨W0, hW0⟩ : ∃ W, W = (w.alloc (.cells #[.int .i64 x, .int .i64 q, .int .i64 c, .slice (some ⟨B, 0, none⟩) n cap] 106)).alloc (.cells #[.int .i64 0, .int .i64 0, .int .i64 0, .slice none 0 0] 106) := ⟨_, rfl⟩
 rw [<- hW0] at p0 r0 B0 ⊢
 clear hW0
 have s0 := r0.lt
 have AL : Below W0.heap.size W0 (W0.alloc (.cells #[] 3)) := bal
 have pa := p0.below AL
 have c3 := pa.cell 3
 have z3 := pa.free 3
 simp only [qC, qD] at c3
 by_cases h0 : 0 < n
 ·obtain ⟨b, off, e, hcell⟩ := ((h.below B0).ints' HZ.out).pos h0
  simp only [Option.some.injEq, Addr.mk.injEq, and_true] at e
  obtain ⟨rfl, rfl⟩ := e
  have hcl : ∀ i, i < n -> (W0.alloc (.cells #[] 3)).cell? ⟨B, 0 + i, none⟩ = some (.int .i64 (zs.getD i 0)) := fun i hi => by
   rw [AL.cell (p := ⟨B, 0 + i, none⟩) (block_lt (hcell i hi))]; exact hcell i hi
  have HC : Hid _ := newsI hcl HZ.out
  have HL : Hid ((zs.map (Value.int .i64)).length = n * 1) := by show _ = _; rw [qF, HZ.out, Nat.mul_one]
  have HJ : Hid _ := (JA.lit W0).o
  clear hcl hcell h pa z3
  go_wp2_with (at_builtin; go_must (refine wpList_append_lies _ rfl (.tmp 3) (.tmp 5) 23 rfl W0.heap.size 3 i0 (.int .i64 0) 1 8 Tryz.underlying23 hi hz0 hz1 hz2 rfl (by decide) _ 0 [] rfl HJ.out ⟨B, 0, none⟩ n cap (zs.map (Value.int .i64)) rfl HL.out HC.out (oneI) h0 (by unfold maxLen; omega) (by omega) (by rw [World.size_alloc]; omega) _ rfl ?_); intro g cp W1 hown hgrow hat hlt1; refine Hid.out ?_)
  refine Lib.hid ?_
  have j := JA.copied HZ.out hown hgrow
  obtain ⟨a', cap', B', hv, o1, g1⟩ := j.ownx HZ.out
  have p1 := p0.below j.b
  have r1 := r0.below j.b
  have x3 := p1.cell 3
  have z3 := p1.free 3
  simp only [qC, qD] at x3
  have f1 := j.b.size
  have BB1 := btq B0 j.b
  clear hown hgrow hat j AL c3 HC HL HJ
  (try simp only [Nat.zero_add])
  rw [hv]
  clear hv
  have p2 := p1.set 3 (.slice a' n cap')
  simp only [qA, qB] at p2
  have T : Touch (fun y => y = w.heap.size) W1 (W1.setCell ⟨w.heap.size, 3, none⟩ (.slice a' n cap')) := (Touch.refl (fun y => y = w.heap.size) W1).setCell rfl _
  have r2 := r1.touch T (fun h => by have : w.heap.size + 1 = w.heap.size := h; omega)
  have o2 := o1.touch T (fun h0 h => by have h : B' = w.heap.size := h; have := g1 h0; omega)
  have B2 : Below w.heap.size w (W1.setCell ⟨w.heap.size, 3, none⟩ (.slice a' n cap')) := BB1.trans (T.below (by omega) (fun z hz => by have hz : z = w.heap.size := hz; omega))
  go_upto_region 2 with fail
  obtain ⟨W2, hW2⟩ : ∃ W, W = W1.setCell ⟨w.heap.size, 3, none⟩ (.slice a' n cap') := ⟨_, rfl⟩
  rw [<- hW2] at p2 r2 o2 B2 ⊢
  have x0 := p2.cell 0
  have x1 := p2.cell 1
  have x2 := p2.cell 2
  have x3 := p2.cell 3
  have f0 := r2.cell 0
  have f1 := r2.cell 1
  have f2 := r2.cell 2
  have f3 := r2.cell 3
  have z0 := r2.free 0
  have z1 := r2.free 1
  have z2 := r2.free 2
  have z3' := r2.free 3
  have s2 := r2.lt
  simp only [qC, qD] at x0 x1 x2 x3 f0 f1 f2 f3
  clear hW2 T p1 r1 z3
  go_wp2
  refine bodyPost_ret (v := qV x q c a' n cap') (by simp [results, Tryz.results219, go_sem, f0, f1, f2, f3]) rfl ⟨a', cap', B', rfl, ?_, ?_, ?_⟩
  ·exact (((B2.setCell (by simp only []; omega) _).setCell (by simp only []; omega) _).setCell (by simp only []; omega) _).setCell (by simp only []; omega) _
  ·refine (((o2.setOther (fun h0 => ?_) _ _).setOther (fun h0 => ?_) _ _).setOther (fun h0 => ?_) _ _).setOther (fun h0 => ?_) _ _
   all_goals (have := g1 h0; omega)
  ·intro h0; have := g1 h0; omega
 ·obtain rfl : n = 0 := by omega
  have hzs : zs = [] := List.eq_nil_of_length_eq_zero HZ.out
  subst hzs
  have o1 : OwnX (W0.alloc (.cells #[] 3)) (some ⟨W0.heap.size, 0, none⟩) 0 0 [] := OwnX.nil _ _ _
  have g1 : 0 < 0 -> W0.heap.size <= 0 := fun h => absurd h (Nat.lt_irrefl _)
  have p1 := pa
  have r1 := r0.below AL
  have f1 := AL.size
  have BB1 := btq B0 AL
  clear pa h p0 r0 AL
  have p2 := p1.set 3 (.slice (some ⟨W0.heap.size, 0, none⟩) 0 0)
  simp only [qA, qB] at p2
  have T : Touch (fun y => y = w.heap.size) (W0.alloc (.cells #[] 3)) ((W0.alloc (.cells #[] 3)).setCell ⟨w.heap.size, 3, none⟩ (.slice (some ⟨W0.heap.size, 0, none⟩) 0 0)) := (Touch.refl (fun y => y = w.heap.size) (W0.alloc (.cells #[] 3))).setCell rfl _
  have r2 := r1.touch T (fun h => by have : w.heap.size + 1 = w.heap.size := h; omega)
  have o2 := o1.touch T (fun h0 h => by have h : 0 = w.heap.size := h; have := g1 h0; omega)
  have B2 : Below w.heap.size w ((W0.alloc (.cells #[] 3)).setCell ⟨w.heap.size, 3, none⟩ (.slice (some ⟨W0.heap.size, 0, none⟩) 0 0)) := BB1.trans (T.below (by omega) (fun z hz => by have hz : z = w.heap.size := hz; omega))
  go_upto_region 2 with fail
  obtain ⟨W2, hW2⟩ : ∃ W, W = (W0.alloc (.cells #[] 3)).setCell ⟨w.heap.size, 3, none⟩ (.slice (some ⟨W0.heap.size, 0, none⟩) 0 0) := ⟨_, rfl⟩
  rw [<- hW2] at p2 r2 o2 B2 ⊢
  have x0 := p2.cell 0
  have x1 := p2.cell 1
  have x2 := p2.cell 2
  have x3 := p2.cell 3
  have f0 := r2.cell 0
  have f1 := r2.cell 1
  have f2 := r2.cell 2
  have f3 := r2.cell 3
  have z0 := r2.free 0
  have z1 := r2.free 1
  have z2 := r2.free 2
  have z3' := r2.free 3
  have s2 := r2.lt
  simp only [qC, qD] at x0 x1 x2 x3 f0 f1 f2 f3
  clear hW2 T p1 r1 z3
  go_wp2
  refine bodyPost_ret (v := qV x q c (some ⟨W0.heap.size, 0, none⟩) 0 0) (by simp [results, Tryz.results219, go_sem, f0, f1, f2, f3]) rfl ⟨some ⟨W0.heap.size, 0, none⟩, 0, 0, rfl, ?_, ?_, ?_⟩
  ·exact (((B2.setCell (by simp only []; omega) _).setCell (by simp only []; omega) _).setCell (by simp only []; omega) _).setCell (by simp only []; omega) _
  ·refine (((o2.setOther (fun h0 => ?_) _ _).setOther (fun h0 => ?_) _ _).setOther (fun h0 => ?_) _ _).setOther (fun h0 => ?_) _ _
   all_goals (have := g1 h0; omega)
  ·intro h0; have := g1 h0; omega
theorem scopRes_any {c : Int} (zs : List Int) {w : World} (h : Blk w B zs) (hl : zs.length = n) (hn : n <= 1048576) :
  Calls Tryz.prog 247 #[resP c (some ⟨B, 0, none⟩) n cap] w fun e w' => ∃ a' cap' B', e = .returned (resP c a' n cap') /\ Below w.heap.size w w' /\ OwnX w' a' B' n zs /\ (0 < n -> w.heap.size <= B') := by
 have p0 := (Cel.new w [.int .i64 c, .slice (some ⟨B, 0, none⟩) n cap] 104).alloc (.cells #[.int .i64 0, .slice none 0 0] 104)
 have r0 := Cel.new (w.alloc (.cells #[.int .i64 c, .slice (some ⟨B, 0, none⟩) n cap] 104)) [.int .i64 0, .slice none 0 0] 104
 rw [World.size_alloc] at r0
 have B0 := ((Below.refl w.heap.size w).alloc (qE _) (.cells #[.int .i64 c, .slice (some ⟨B, 0, none⟩) n cap] 104)).alloc (by simp) (.cells #[.int .i64 0, .slice none 0 0] 104)
 have HZ : Hid (zs.length = n) := hl
 clear hl
 obtain ⟨i0, hi, hz0, hz1, hz2⟩ := info_parts Tryz.infoInt
 go_enter Tryz.func247, Tryz.ntmps247
 go_upto_region 1 with fail
 obtain ⟨W0, hW0⟩ : ∃ W, W = (w.alloc (.cells #[.int .i64 c, .slice (some ⟨B, 0, none⟩) n cap] 104)).alloc (.cells #[.int .i64 0, .slice none 0 0] 104) := ⟨_, rfl⟩
 rw [<- hW0] at p0 r0 B0 ⊢
 clear hW0
 have s0 := r0.lt
 have KP : Hid (∀ W, Below W0.heap.size W0 W -> W.cell? ⟨w.heap.size, 0, none⟩ = some (.int .i64 c) /\ W.cell? ⟨w.heap.size, 1, none⟩ = some (.slice (some ⟨B, 0, none⟩) n cap)) := fun W hW => ⟨(p0.below hW).cell 0, (p0.below hW).cell 1⟩
 have d0 : Below W0.heap.size W0 W0.drew := (Below.refl _ _).drew
 have hSS : (W0.drew.cell? ⟨w.heap.size, 0, none⟩ = some (.int .i64 c) /\ W0.drew.cell? ⟨w.heap.size, 1, none⟩ = some (.slice (some ⟨B, 0, none⟩) n cap)) /\ True := ⟨KP.out _ d0, trivial⟩
 refine wp_region_ends (fun w' => w'.cell? ⟨w.heap.size, 0, none⟩ = some (.int .i64 c) /\ w'.cell? ⟨w.heap.size, 1, none⟩ = some (.slice (some ⟨B, 0, none⟩) n cap)) (fun _ => True) 7 (by kernel_rfl) ?_
 obtain ⟨V0, hV0⟩ : ∃ V, V = W0.drew := ⟨_, rfl⟩
 rw [<- hV0] at hSS d0 ⊢
 have f0 : V0.heap.size <= W0.heap.size /\ W0.heap.size <= V0.heap.size := by rw [hV0]; exact ⟨qE _, qE _⟩
 clear hV0
 refine tkl 0 rfl hSS ?_
 refine tkl 1 rfl hSS ?_
 refine tkl 3 rfl hSS ?_
 refine tkl 4 rfl hSS ?_
 clear hSS
 have AL : Below V0.heap.size V0 (V0.alloc (.cells #[] 3)) := bal
 have hAL : Below W0.heap.size W0 (V0.alloc (.cells #[] 3)) := btq d0 AL
 refine wo1 2 rfl fun K hK => ?_
 go_simp
 refine kk0 hK (KP.out _ hAL) ?_
 refine wo1 5 rfl fun K hK => ?_
 by_cases h0 : 0 < n
 ·obtain ⟨b, off, e, hcell⟩ := ((h.below B0).ints' HZ.out).pos h0
  simp only [Option.some.injEq, Addr.mk.injEq, and_true] at e
  obtain ⟨rfl, rfl⟩ := e
  have hcl : ∀ i, i < n -> (V0.alloc (.cells #[] 3)).cell? ⟨B, 0 + i, none⟩ = some (.int .i64 (zs.getD i 0)) := fun i hi => by
   rw [hAL.cell (p := ⟨B, 0 + i, none⟩) (block_lt (hcell i hi))]; exact hcell i hi
  have HC : Hid _ := newsI hcl HZ.out
  have HL : Hid ((zs.map (Value.int .i64)).length = n * 1) := by show _ = _; rw [qF, HZ.out, Nat.mul_one]
  have HJ : Hid _ := (JA.lit V0).o
  rw [if_pos (by rfl)]
  refine wp_append_lies _ (.tmp 5) (.tmp 7) 23 rfl V0.heap.size 3 i0 (.int .i64 0) 1 8 Tryz.underlying23 hi hz0 hz1 hz2 rfl (by omega) (.slice (some ⟨V0.heap.size, 0, none⟩) 0 0) 0 [] (by rfl) HJ.out ⟨B, 0, none⟩ n cap (zs.map (Value.int .i64)) (by rfl) HL.out HC.out (oneI) h0 (by unfold maxLen; omega) (by omega) AL.size (V0.heap.size + 1) (by rw [World.size_alloc]) ?_
  intro g cp W1 hown hgrow hat hlt1
  have j := JA.copied HZ.out hown hgrow
  obtain ⟨a', cap', B', hv, o1, g1⟩ := j.ownx HZ.out
  have g1 : 0 < n -> W0.heap.size <= B' := fun h => by have := g1 h; omega
  have b1 := btq d0 j.b
  (try simp only [Nat.zero_add])
  rw [hv]
  clear hv
  clear hown hgrow hat j hcl hcell HC HL HJ
  refine kk0 hK (KP.out _ b1) ?_
  refine wo1 6 rfl fun K hK => ?_
  go_simp
  refine kk0 hK (KP.out _ b1) ?_
  have r2 := r0.below b1
  have z0 := r2.free 0
  have z1 := r2.free 1
  have y0 := r2.cell 0
  have y1 := r2.cell 1
  simp only [qC, qD] at y0 y1
  have T : Touch (fun z => z = w.heap.size + 1) W1 ((W1.setCell ⟨w.heap.size + 1, 0, none⟩ (.int .i64 c)).setCell ⟨w.heap.size + 1, 1, none⟩ (.slice a' n cap')) := ((Touch.refl (fun z => z = w.heap.size + 1) W1).setCell rfl _).setCell rfl _
  have r6 := (r2.set 0 (.int .i64 c)).set 1 (.slice a' n cap')
  simp only [qA, qB] at r6
  have p6 := (p0.below b1).touch T (fun h => by have : w.heap.size = w.heap.size + 1 := h; omega)
  have h0' := r6.cell 0
  have h1' := r6.cell 1
  have x0 := p6.cell 0
  have x1 := p6.cell 1
  simp only [qC, qD] at h0' h1' x0 x1
  refine wo1 7 rfl fun K hK => ?_
  go_simp
  refine hK.out _ _ ⟨⟨x0, x1⟩, fun h => absurd (show true = false from h) (by decide)⟩ ?_
  refine wod ?_ _
  have q1 := o1.touch T (fun h0 e => by have e : B' = w.heap.size + 1 := e; have := g1 h0; omega)
  have BB := (btq B0 b1).trans (T.below (by have := b1.size; omega) (fun z hz => by omega))
  clear r2 z0 z1 y0 y1 r6 p6 x0 x1 T o1
  go_wp2
  refine bodyPost_ret (v := resP c a' n cap') (by simp [results, Tryz.results247, go_sem, h0', h1']) rfl ?_
  exact ⟨a', cap', B', rfl, BB, q1, fun h => by have := g1 h; omega⟩
 ·obtain rfl : n = 0 := by omega
  have hzs : zs = [] := List.eq_nil_of_length_eq_zero HZ.out
  subst hzs
  go_simp
  have o1 : OwnX (V0.alloc (.cells #[] 3)) (some ⟨V0.heap.size, 0, none⟩) 0 0 [] := OwnX.nil _ _ _
  have g1 : 0 < 0 -> W0.heap.size <= 0 := fun h => absurd h (Nat.lt_irrefl _)
  have b1 := hAL
  refine kk0 hK (KP.out _ b1) ?_
  refine wo1 6 rfl fun K hK => ?_
  go_simp
  refine kk0 hK (KP.out _ b1) ?_
  have r2 := r0.below b1
  have z0 := r2.free 0
  have z1 := r2.free 1
  have y0 := r2.cell 0
  have y1 := r2.cell 1
  simp only [qC, qD] at y0 y1
  have T : Touch (fun z => z = w.heap.size + 1) (V0.alloc (.cells #[] 3)) (((V0.alloc (.cells #[] 3)).setCell ⟨w.heap.size + 1, 0, none⟩ (.int .i64 c)).setCell ⟨w.heap.size + 1, 1, none⟩ (.slice (some ⟨V0.heap.size, 0, none⟩) 0 0)) := ((Touch.refl (fun z => z = w.heap.size + 1) (V0.alloc (.cells #[] 3))).setCell rfl _).setCell rfl _
  have r6 := (r2.set 0 (.int .i64 c)).set 1 (.slice (some ⟨V0.heap.size, 0, none⟩) 0 0)
  simp only [qA, qB] at r6
  have p6 := (p0.below b1).touch T (fun h => by have : w.heap.size = w.heap.size + 1 := h; omega)
  have h0' := r6.cell 0
  have h1' := r6.cell 1
  have x0 := p6.cell 0
  have x1 := p6.cell 1
  simp only [qC, qD] at h0' h1' x0 x1
  refine wo1 7 rfl fun K hK => ?_
  go_simp
  refine hK.out _ _ ⟨⟨x0, x1⟩, fun h => absurd (show true = false from h) (by decide)⟩ ?_
  refine wod ?_ _
  have q1 := o1.touch T (fun h0 e => by have e : 0 = w.heap.size + 1 := e; have := g1 h0; omega)
  have BB := (btq B0 b1).trans (T.below (by have := b1.size; omega) (fun z hz => by omega))
  clear r2 z0 z1 y0 y1 r6 p6 x0 x1 T o1
  go_wp2
  refine bodyPost_ret (v := resP c (some ⟨V0.heap.size, 0, none⟩) 0 0) (by simp [results, Tryz.results247, go_sem, h0', h1']) rfl ?_
  exact ⟨(some ⟨V0.heap.size, 0, none⟩), 0, 0, rfl, BB, q1, fun h => by have := g1 h; omega⟩
theorem JDc.lit (w : World) (bs : Nat -> Nat) : JDc w (.slice (some ⟨w.heap.size, 0, none⟩) 0 0) [] bs (w.alloc (.cells #[] 219)) := ⟨bal, World.ownsRow_lit w #[] 0 (qE _) (by unfold maxLen; omega) rfl, fun j hj => by simp at hj, fun i j hi => by simp at hi⟩
theorem scopDone_any {Bq N : Nat} (fs : List DV) {w : World} (hN : fs.length = N) (hF : MD w Bq N fs) (hN1 : N <= 1048576) :
  Calls Tryz.prog 218 #[.slice (some ⟨Bq, 0, none⟩) N cap] w fun e w' => ∃ v ts bs, e = .returned v /\ ts.length = N /\ JDc w v ts bs w' /\ ∀ i, i < N -> sameD (fs[i]?.getD noD) (ts[i]?.getD noD) := by
 have HN : Hid (fs.length = N) := hN
 have HF : Hid (MD w Bq N fs) := hF
 clear hN hF
 obtain ⟨zi, hi, hz0, hz1, hz2⟩ := info_parts Tryz.infoPlnDone
 have j0 := JDc.lit w (fun _ => 0)
 go_enter Tryz.func218, Tryz.ntmps218
 go_wp2_with fail
 go_loopw [3, 4] (fun r i wr => ∃ (k : Nat) (ts : List DV) (bs : Nat -> Nat), k <= N /\ i = .int .i64 k /\ Hid (ts.length = k) /\ JDc w r ts bs wr /\ Hid (∀ i, i < k -> sameD (fs[i]?.getD noD) (ts[i]?.getD noD))) (fun _ i _ => N - (intOf i).toNat)
 case atStart => exact ⟨0, [], fun _ => 0, Nat.zero_le _, rfl, rfl, j0, fun i hi => by omega⟩
 case round =>
  clear j0
  obtain ⟨k, ts, bs, hk, rfl, htl, j, HS⟩ := hrel
  by_cases hlt : k < N
  ·obtain ⟨va, vc, rfl⟩ := j.isSlice htl.out
   have hlt' : (k : Int) < N := by omega
   have hdk := HF.out.l k (by rw [HN.out]; exact hlt)
   have hcsW : ∀ W, Below w.heap.size w W -> ∀ r, r < 3 -> W.cell? ⟨Bq, k * 3 + r, none⟩ = (fs[k]?.getD noD).cs[r]? := fun W hW r hr => by
    obtain ⟨vs, hcel, hvl, hcs⟩ := (HF.out.below hW).c
    rw [hcel.cell]
    exact hcs k (by rw [HN.out]; exact hlt) r hr
   generalize HG : fs[k]?.getD noD = g at *
   have HT : Hid (fs[k]?.getD noD = g) := HG
   clear HG
   obtain ⟨gq, gc, ⟨gta, gtn, gtc, gtx⟩⟩ := g
   obtain ⟨⟨Bl, hBl, _, hblk, hlen, hle⟩, -⟩ := hdk
   obtain rfl : gta = some ⟨Bl, 0, none⟩ := hBl
   have hblk : Blk w Bl gtx := hblk
   have hlen : Hid (gtx.length = gtn) := hlen
   have hle : gtn <= 1048576 := hle
   have KP : Hid (∀ W, Below w.heap.size w W -> W.cell? ⟨Bq, k * 3, none⟩ = some (.int .i64 gq) /\ W.cell? ⟨Bq, k * 3 + 1, none⟩ = some (.int .i64 gc) /\ W.cell? ⟨Bq, k * 3 + 2, none⟩ = some (.slice (some ⟨Bl, 0, none⟩) gtn gtc)) := fun W hW => cellsD (hcsW W hW)
   clear hcsW
   have sz := j.b.size
   have d0 := j.b.drew
   have hSS := And.intro (KP.out _ d0) True.intro
   go_upto_region 5 with fail
   refine wp_region_ends (fun w' => w'.cell? ⟨Bq, k * 3, none⟩ = some (.int .i64 gq) /\ w'.cell? ⟨Bq, k * 3 + 1, none⟩ = some (.int .i64 gc) /\ w'.cell? ⟨Bq, k * 3 + 2, none⟩ = some (.slice (some ⟨Bl, 0, none⟩) gtn gtc)) (fun _ => True) 15 (by kernel_rfl) ?_
   have jd := j.below (Below.refl _ _).drew
   have fz : wr.drew.heap.size <= wr.heap.size /\ wr.heap.size <= wr.drew.heap.size := ⟨qE _, qE _⟩
   obtain ⟨V0, hV0⟩ : ∃ V, V = wr.drew := ⟨_, rfl⟩
   rw [<- hV0] at hSS d0 jd fz ⊢
   clear hV0 j
   refine tkl 0 rfl hSS ?_
   refine tkl 1 rfl hSS ?_
   refine tkl 2 rfl hSS ?_
   refine tkl 3 rfl hSS ?_
   refine tkl 4 rfl hSS ?_
   refine tkl 5 rfl hSS ?_
   refine tkl 6 rfl hSS ?_
   refine tkl 7 rfl hSS ?_
   refine tkl 8 rfl hSS ?_
   refine tkl 9 rfl hSS ?_
   refine tkl 10 rfl hSS ?_
   clear hSS
   (try simp only [Act.put, List.setIfInBounds_toArray, qB, qA, List.getElem_toArray, List.getElem_cons_succ, List.getElem_cons_zero])
   refine wo1 11 rfl fun K hK => ?_
   go_simp
   refine (scopRes_any gtx (hblk.below d0) hlen.out hle).mono ?_
   rintro ee w3 ⟨na, nc, nB, rfl, b3, o3, g3⟩
   have j3 := jd.below b3
   have sz3 := b3.size
   (try dsimp only)
   refine kk0 hK (KP.out _ j3.b) ?_
   have hnew : Hid (0 < gtn -> ∀ i, i < k -> 0 < (ts[i]?.getD noD).t.n -> bs i ≠ nB) := fun h0 i hi hi0 => by
    have h1 := ((jd.k i (by rw [htl.out]; exact hi)).1).lt hi0
    have h2 := g3 h0
    omega
   have hlo : Hid (0 < gtn -> w.heap.size <= nB /\ some nB ≠ (Value.slice va k vc).ownBlock) := fun h0 => by
    have h2 := g3 h0
    exact ⟨by omega, fun e => by have := (jd.own e.symm).2; omega⟩
   refine wo1 12 rfl fun K hK => ?_
   go_simp
   refine kk0 hK (KP.out _ j3.b) ?_
   have A : Below w3.heap.size w3 (w3.alloc (.cells #[.int .i64 gq, .int .i64 gc, .slice na gtn nc] 219)) := bal
   have j4 := j3.below A
   have ho : (w3.alloc (.cells #[.int .i64 gq, .int .i64 gc, .slice na gtn nc] 219)).ownsRow w.heap.size 219 3 (.slice va k vc) k (ts.flatMap DV.cs) := by
    have := j4.o
    rw [htl.out] at this
    exact this
   have hs5 := j4.b.size
   refine wo1 13 rfl fun K hK => ?_
   go_simp
   refine kk0 hK (KP.out _ j4.b) ?_
   refine wo1 14 rfl fun K hK => ?_
   rw [if_pos (by rfl)]
   refine wp_append_lies _ (.tmp 12) (.tmp 25) 43 rfl w.heap.size 219 zi _ 3 40 Tryz.underlying43 hi hz0 hz1 hz2 rfl (by omega) (.slice va k vc) k (ts.flatMap DV.cs) (by rfl) ho ⟨w3.heap.size, 0, none⟩ 1 1 [.int .i64 gq, .int .i64 gc, .slice na gtn nc] (by rfl) (by rfl) (World.news_of_block (cs := #[.int .i64 gq, .int .i64 gc, .slice na gtn nc]) (t := 219) (fr := (0, 0)) (heap_alloc_new w3 _)) (by simp [Value.oneCell']) (by omega) (by unfold maxLen; omega) (by omega) hs5 (w3.heap.size + 1) (by rw [World.size_alloc]) ?_
   intro g cp w4 hown hgrow hat hlt1
   have j5 := j3.app (s := ⟨gq, gc, ⟨na, gtn, nc, gtx⟩⟩) htl.out o3 hle hlo.out hnew.out hown hgrow (hat.elim (fun h => .inl (by rw [h]; rfl)) (fun h => .inr (by rw [h, World.size_alloc]; rfl)))
   have HS5 : Hid (∀ i, i < k + 1 -> sameD (fs[i]?.getD noD) ((ts ++ [⟨gq, gc, ⟨na, gtn, nc, gtx⟩⟩])[i]?.getD noD)) := fun i hi => by
    by_cases h : i < k
    ·rw [List.getElem?_append_left (by rw [htl.out]; exact h)]; exact HS.out i h
    ·obtain rfl : i = k := by omega
     rw [List.getElem?_append_right (by rw [htl.out]; exact qE _), htl.out, Nat.sub_self, HT.out]
     exact ⟨rfl, rfl, rfl, trivial⟩
   refine kk0 hK (KP.out _ j5.b) ?_
   clear hK K hown hgrow hat j4 j3 jd o3 ho
   refine wo1 15 rfl fun K hK => ?_
   go_simp
   refine kk0 hK (KP.out _ j5.b) ?_
   refine wod ?_ _
   go_wp2
   go_roundw
   case rel => exact ⟨k + 1, _, _, by omega, by go_num, by show _ = _; rw [List.length_append, htl.out]; rfl, j5, HS5⟩
   case measure => simp [intOf]; omega
  ·obtain rfl : k = N := by omega
   go_wp2
   go_ret
   exact ⟨_, ts, bs, rfl, htl.out, j, HS.out⟩
end Go.Proofs.YtacfoeekmcnpjaaGreatDoor
