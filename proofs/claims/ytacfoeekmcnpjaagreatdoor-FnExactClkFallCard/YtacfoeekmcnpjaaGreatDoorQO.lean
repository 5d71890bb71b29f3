/-
  Lemmas that the claim's last text rests on.
-/
import Derived.Test.YtacfoeekmcnpjaaGreatDoorQSp9
namespace Go.Proofs.YtacfoeekmcnpjaaGreatDoor
open Go.RowKit Go.Deep
open List renaming getElem?_eq_getElem → qA, getElem?_set_ne → qB
open Nat renaming le_refl → qC, zero_le → qD
set_option linter.unusedVariables false
set_option maxRecDepth 100000
set_option maxHeartbeats 25600000
variable {B G N bn cap dn en gn hi kn lo n : Nat} {Bs : Nat -> Prop} {W w w' : World} {a ba : Option Addr} {bs : Nat -> Nat} {bx : List Int} {dx : List DV} {ex : List GV} {f g : DV} {kx : List QV} {ok u : Bool} {r : Int}
theorem clk_len {cl : Int} {ss : List L2V} {G : List Int} {sn : Nat} {S : List Int} (h : clkB cl N ss gn G sn S u r bn bx dn dx kn kx en ex = true) : en = gn := by
 simp only [clkB, clerkB, gotsB, Bool.and_eq_true, decide_eq_true_eq] at h
 exact h.2.2.2.2.2.1.1
theorem sclkfall_of (HS : SCopyP) {cl : Int} {ad : Option Addr} {N cap : Nat} {ga : Option Addr} {gn gc : Nat} {sa : Option Addr} {sn sc : Nat} (ss : List L2V) (G S : List Int) {u : Bool} {r : Int} {Bb bn bc : Nat} (bx : List Int) {Bd dn dc : Nat} (dx : List DV) {Bk kn kc : Nat} (kx : List QV) {Bg en ec : Nat} (ex : List GV) {up : Bool} (ok : Bool) {w : World} (hp : PlAt w ad N ss ga gn G sa sn S) (hb : Blk w Bb bx) (lb : bx.length = bn) (zb : bn <= 1048576) (hd : MD w Bd dn dx) (ld : dx.length = dn) (zd : dn <= 1048576) (hk : MQ w Bk kn kx) (lk : kx.length = kn) (zk : kn <= 1048576) (hg : MG w Bg en ex) (lg : ex.length = en) (zg : en <= 1048576) (hok : clkB cl N ss gn G sn S u r bn bx dn dx kn kx en ex = ok) :
  Calls Tryz.prog 28 #[plV cl ad N cap ga gn gc sa sn sc, ckV u r (some ⟨Bb, 0, none⟩) bn bc (some ⟨Bd, 0, none⟩) dn dc (some ⟨Bk, 0, none⟩) kn kc (some ⟨Bg, 0, none⟩) en ec, .bool up] w fun e w' => SFall u r bn bx dn dx kn kx en ex up ok w e w' := by
 have HOK : Hid _ := hok
 clear hok
 have q0 := ((Cel.new w [.int .i64 cl, .slice ad N cap, .slice ga gn gc, .slice sa sn sc] 41).alloc (.cells #[.bool u, .int .i64 r, .slice (some ⟨Bb, 0, none⟩) bn bc, .slice (some ⟨Bd, 0, none⟩) dn dc, .slice (some ⟨Bk, 0, none⟩) kn kc, .slice (some ⟨Bg, 0, none⟩) en ec] 47)).alloc (.cells #[.bool false, .int .i64 0, .slice none 0 0, .slice none 0 0, .slice none 0 0, .slice none 0 0] 47)
 have y0 := (Cel.new (w.alloc (.cells #[.int .i64 cl, .slice ad N cap, .slice ga gn gc, .slice sa sn sc] 41)) [.bool u, .int .i64 r, .slice (some ⟨Bb, 0, none⟩) bn bc, .slice (some ⟨Bd, 0, none⟩) dn dc, .slice (some ⟨Bk, 0, none⟩) kn kc, .slice (some ⟨Bg, 0, none⟩) en ec] 47).alloc (.cells #[.bool false, .int .i64 0, .slice none 0 0, .slice none 0 0, .slice none 0 0, .slice none 0 0] 47)
 have r0 := Cel.new ((w.alloc (.cells #[.int .i64 cl, .slice ad N cap, .slice ga gn gc, .slice sa sn sc] 41)).alloc (.cells #[.bool u, .int .i64 r, .slice (some ⟨Bb, 0, none⟩) bn bc, .slice (some ⟨Bd, 0, none⟩) dn dc, .slice (some ⟨Bk, 0, none⟩) kn kc, .slice (some ⟨Bg, 0, none⟩) en ec] 47)) [.bool false, .int .i64 0, .slice none 0 0, .slice none 0 0, .slice none 0 0, .slice none 0 0] 47
 rw [World.size_alloc] at y0
 rw [World.size_alloc, World.size_alloc] at r0
 have B0 := (((Below.refl w.heap.size w).alloc (qC _) (.cells #[.int .i64 cl, .slice ad N cap, .slice ga gn gc, .slice sa sn sc] 41)).alloc (by simp) (.cells #[.bool u, .int .i64 r, .slice (some ⟨Bb, 0, none⟩) bn bc, .slice (some ⟨Bd, 0, none⟩) dn dc, .slice (some ⟨Bk, 0, none⟩) kn kc, .slice (some ⟨Bg, 0, none⟩) en ec] 47)).alloc (by simp; omega) (.cells #[.bool false, .int .i64 0, .slice none 0 0, .slice none 0 0, .slice none 0 0, .slice none 0 0] 47)
 have Lb : Hid _ := lb
 have Ld : Hid _ := ld
 have Lk : Hid _ := lk
 have Lg : Hid _ := lg
 clear lb ld lk lg
 have hC : CkAt w (some ⟨Bb, 0, none⟩) bn bx (some ⟨Bd, 0, none⟩) dn dx (some ⟨Bk, 0, none⟩) kn kx (some ⟨Bg, 0, none⟩) en ex := ⟨hb.ints' Lb.out, zb, hd.g, Ld.out, zd, hk.g, Lk.out, zk, hg.g, Lg.out, zg⟩
 go_enter Tryz.func28, Tryz.ntmps28
 go_upto_region 1 with fail
 obtain ⟨W0, hW0⟩ : ∃ W, W = (((w.alloc (.cells #[.int .i64 cl, .slice ad N cap, .slice ga gn gc, .slice sa sn sc] 41)).alloc (.cells #[.bool u, .int .i64 r, .slice (some ⟨Bb, 0, none⟩) bn bc, .slice (some ⟨Bd, 0, none⟩) dn dc, .slice (some ⟨Bk, 0, none⟩) kn kc, .slice (some ⟨Bg, 0, none⟩) en ec] 47)).alloc (.cells #[.bool false, .int .i64 0, .slice none 0 0, .slice none 0 0, .slice none 0 0, .slice none 0 0] 47)) := ⟨_, rfl⟩
 rw [<- hW0] at q0 y0 r0 B0 ⊢
 clear hW0
 have s0 := r0.lt
 obtain ⟨c0, c1, c2, c3⟩ := q0.quadP
 obtain ⟨d0, d1, d2, d3, d4, d5⟩ := y0.sixP
 go_wp2_with fail
 refine (sclkok_any ss G S bx dx kx ex (hp.below B0) (hC.below B0)).mono ?_
 rintro e w1 ⟨rfl, b1⟩
 rw [HOK.out]
 have B1 := btq B0 b1
 have q1 := q0.below b1
 have y1 := y0.below b1
 have r1 := r0.below b1
 have f1 := b1.size
 have s1 := r1.lt
 clear c0 c1 c2 c3 d0 d1 d2 d3 d4 d5 q0 y0 r0 hC
 cases ok
 ·obtain ⟨e0, e1, e2, e3, e4, e5⟩ := r1.sixP
  have z0 := r1.free 0
  have z1 := r1.free 1
  have z2 := r1.free 2
  have z3 := r1.free 3
  have z4 := r1.free 4
  have z5 := r1.free 5
  go_wp2
  have T5 : Touch (fun y => y = w.heap.size + 1 + 1) w1 ((((((w1.setCell ⟨w.heap.size + 1 + 1, 0, none⟩ (.bool false)).setCell ⟨w.heap.size + 1 + 1, 1, none⟩ (.int .i64 0)).setCell ⟨w.heap.size + 1 + 1, 2, none⟩ (.slice none 0 0)).setCell ⟨w.heap.size + 1 + 1, 3, none⟩ (.slice none 0 0)).setCell ⟨w.heap.size + 1 + 1, 4, none⟩ (.slice none 0 0)).setCell ⟨w.heap.size + 1 + 1, 5, none⟩ (.slice none 0 0)) := ((((((Touch.refl (fun y => y = w.heap.size + 1 + 1) w1).setCell rfl _).setCell rfl _).setCell rfl _).setCell rfl _).setCell rfl _).setCell rfl _
  refine bodyPost_ret (v := ckV false 0 none 0 0 none 0 0 none 0 0 none 0 0) (by simp [results, Tryz.results28, go_sem, e0, e1, e2, e3, e4, e5]) rfl ?_
  unfold SFall
  refine ⟨none, 0, none, 0, [], none, 0, [], none, 0, [], rfl, ?_, fun S W t hS => ?_, fun i hi => absurd hi (Nat.not_lt_zero _), fun i hi => absurd hi (Nat.not_lt_zero _), fun i hi => absurd hi (Nat.not_lt_zero _)⟩
  ·exact B1.trans (T5.below (by omega) (fun z hz => by have hz : z = w.heap.size + 1 + 1 := hz; omega))
  ·exact ⟨⟨rfl, fun j hj => absurd hj (Nat.not_lt_zero _)⟩, qD _, fun i hi => absurd hi (Nat.not_lt_zero _), rfl, qD _, fun i hi => absurd hi (Nat.not_lt_zero _), rfl, qD _, fun i hi => absurd hi (Nat.not_lt_zero _), rfl, qD _⟩
 have hen := clk_len HOK.out
 obtain ⟨c0, c1, c2, c3⟩ := q1.quadP
 obtain ⟨d0, d1, d2, d3, d4, d5⟩ := y1.sixP
 have HEN : Hid _ := hen
 clear hen
 go_wp2_with fail
 refine (sl9fall_of HS bx dx kx ex (hb.below B1) Lb.out zb (hd.below B1) Ld.out zd (hk.below B1) Lk.out zk (hg.below B1) Lg.out zg HEN.out).mono ?_
 intro ee w2 h2
 unfold SFall at h2
 obtain ⟨ba, cb, da, cd, ds, ka, ck, ks, ea, cg, gs, rfl, b2, L, m1, m2, m3⟩ := h2
 have M1 : Hid _ := m1
 have M2 : Hid _ := m2
 have M3 : Hid _ := m3
 have HL : Hid _ := L
 have r2 := r1.below b2
 have f2 := b2.size
 have B2 := btq B1 b2
 obtain ⟨U, hU⟩ : ∃ x, x = (true && up) := ⟨_, rfl⟩
 obtain ⟨R, hR⟩ : ∃ x, x = (if true = true then r else 0) := ⟨_, rfl⟩
 obtain ⟨kq, hkq⟩ : ∃ x, x = faN (true && u == up) kn := ⟨_, rfl⟩
 obtain ⟨xb, hxb⟩ : ∃ x, x = faN true bn := ⟨_, rfl⟩
 obtain ⟨xd, hxd⟩ : ∃ x, x = faN true dn := ⟨_, rfl⟩
 obtain ⟨xe, hxe⟩ : ∃ x, x = faN true en := ⟨_, rfl⟩
 rw [<- hU, <- hR, <- hkq, <- hxb, <- hxd, <- hxe]
 have HU : Hid _ := hU
 have HR : Hid _ := hR
 have HK : Hid _ := hkq
 have HB : Hid _ := hxb
 have HD : Hid _ := hxd
 have HE : Hid _ := hxe
 obtain ⟨e0, e1, e2, e3, e4, e5⟩ := r2.sixP
 have z0 := r2.free 0
 have z1 := r2.free 1
 have z2 := r2.free 2
 have z3 := r2.free 3
 have z4 := r2.free 4
 have z5 := r2.free 5
 have s2 := r2.lt
 clear hU hR hkq hxb hxd hxe m1 m2 m3 L c0 c1 c2 c3 d0 d1 d2 d3 d4 d5 q1 y1 r1 hb hd hk hg
 go_wp2
 have T5 : Touch (fun y => y = w.heap.size + 1 + 1) w2 ((((((w2.setCell ⟨w.heap.size + 1 + 1, 0, none⟩ (.bool U)).setCell ⟨w.heap.size + 1 + 1, 1, none⟩ (.int .i64 R)).setCell ⟨w.heap.size + 1 + 1, 2, none⟩ (.slice ba xb cb)).setCell ⟨w.heap.size + 1 + 1, 3, none⟩ (.slice da xd cd)).setCell ⟨w.heap.size + 1 + 1, 4, none⟩ (.slice ka kq ck)).setCell ⟨w.heap.size + 1 + 1, 5, none⟩ (.slice ea xe cg)) := ((((((Touch.refl (fun y => y = w.heap.size + 1 + 1) w2).setCell rfl _).setCell rfl _).setCell rfl _).setCell rfl _).setCell rfl _).setCell rfl _
 refine bodyPost_ret (v := ckV U R ba xb cb da xd cd ka kq ck ea xe cg) (by simp [results, Tryz.results28, go_sem, e0, e1, e2, e3, e4, e5]) rfl ?_
 unfold SFall
 refine ⟨ba, cb, da, cd, ds, ka, ck, ks, ea, cg, gs, by rw [HU.out, HR.out, HK.out, HB.out, HD.out, HE.out]; rfl, ?_, fun S' W t hS => ?_, M1.out, M2.out, M3.out⟩
 ·exact B2.trans (T5.below (by omega) (fun z hz => by have hz : z = w.heap.size + 1 + 1 := hz; omega))
 ·have st := (T5.below (B := w.heap.size) (by omega) (fun z hz => by have hz : z = w.heap.size + 1 + 1 := hz; omega)).size
  exact HL.out (fun y => y = w.heap.size + 1 + 1 \/ S' y) _ ((T5.mono fun _ h => Or.inl h).trans (t.mono fun _ h => Or.inr h)) (fun x hx => by rcases hx with hx | hx; (· omega); (· have := hS x hx; omega))
theorem markCkL_any {cb : Nat} (bx : List Int) {da : Option Addr} {G1 dn cd : Nat} (f1 : Nat -> DV) (b1 : Nat -> Nat) {ka : Option Addr} {G2 kn ck : Nat} (f2 : Nat -> QV) (b2 : Nat -> Nat) {ga : Option Addr} {G3 gn cg : Nat} (f3 : Nat -> GV) (b3 b4 : Nat -> Nat) {n0 : Nat} (n1 n2 n3 n4 : Nat) {w : World} (h : CkL w ba B bn bx da G1 dn f1 b1 ka G2 kn f2 b2 ga G3 gn f3 b3 b4 n0 n1 n2 n3 n4) (hn4 : n4 <= w.heap.size) (zb : bn <= 1048576) (zd : dn <= 1048576) (zk : kn <= 1048576) (zg : gn <= 1048576) (hk : (1 : Int) + bn + offD f1 dn + offQ f2 kn + offG f3 gn <= 100000000000000) :
  Calls Tryz.prog 35 #[ckV u r ba bn cb da dn cd ka kn ck ga gn cg, .int .i64 1] w fun e w' => e = .returned (.int .i64 (1 + bn + offD f1 dn + offQ f2 kn + offG f3 gn)) /\ Touch (fun x => n0 <= x /\ x < n4) w w' /\ CkL w' ba B bn (ramp 1 bn) da G1 dn (mkD (1 + bn) f1) b1 ka G2 kn (mkQ (1 + bn + offD f1 dn) f2) b2 ga G3 gn (mkG (1 + bn + offD f1 dn + offQ f2 kn) f3) b3 b4 n0 n1 n2 n3 n4 := by
 have H : Hid (CkL w ba B bn bx da G1 dn f1 b1 ka G2 kn f2 b2 ga G3 gn f3 b3 b4 n0 n1 n2 n3 n4) := h
 have ho := h.o
 clear h
 have x0 := Cel.new w [.bool u, .int .i64 r, .slice ba bn cb, .slice da dn cd, .slice ka kn ck, .slice ga gn cg] 47
 have A : Below w.heap.size w (w.alloc (.cells #[.bool u, .int .i64 r, .slice ba bn cb, .slice da dn cd, .slice ka kn ck, .slice ga gn cg] 47)) := bal
 have HA : Hid _ := A
 have h0 := H.out.below A
 have o0 : OwnX (w.alloc (.cells #[.bool u, .int .i64 r, .slice ba bn cb, .slice da dn cd, .slice ka kn ck, .slice ga gn cg] 47)) ba B bn bx := h0.b
 have H0 : Hid _ := h0
 clear h0
 obtain ⟨P1, hP1⟩ : ∃ p : Nat, p = offD f1 dn := ⟨_, rfl⟩
 obtain ⟨P2, hP2⟩ : ∃ p : Nat, p = offQ f2 kn := ⟨_, rfl⟩
 obtain ⟨P3, hP3⟩ : ∃ p : Nat, p = offG f3 gn := ⟨_, rfl⟩
 rw [<- hP1, <- hP2, <- hP3] at hk ⊢
 have HP1 : Hid (P1 = offD f1 dn) := hP1
 have HP2 : Hid (P2 = offQ f2 kn) := hP2
 have HP3 : Hid (P3 = offG f3 gn) := hP3
 clear hP1 hP2 hP3
 obtain ⟨c0, c1, c2, c3, c4, c5⟩ := x0.sixP
 go_enter Tryz.func35, Tryz.ntmps35
 go_wp2_with fail
 refine (markX_any B bx o0 zb (by omega) (by omega)).mono ?_
 rintro e w1 ⟨rfl, t1, q1⟩
 have d1 : DL w1 da G1 dn f1 b1 := H0.out.d.touch t1 (fun h0 s => by have := H.out.rb s.2; have := H.out.rd h0; omega) (fun i hi h0 s => by have := H.out.rb s.2; have := H.out.rd' i hi h0; omega)
 have k1 : QL w1 ka G2 kn f2 b2 := H0.out.k.touch t1 (fun h0 s => by have := H.out.rb s.2; have := H.out.rk h0; omega) (fun i hi h0 s => by have := H.out.rb s.2; have := H.out.rk' i hi h0; omega)
 have g1 : GL w1 ga G3 gn f3 b3 b4 := H0.out.g.touch t1 (fun h0 s => by have := H.out.rb s.2; have := H.out.rg h0; omega) (fun i hi h0 s => by have := H.out.rb s.2; have := H.out.rg' i hi h0; omega) (fun i hi h0 s => by have := H.out.rb s.2; have := H.out.rg'' i hi h0; omega)
 have x1 := x0.touch t1 (fun s => by have := H.out.rb s.2; have := s.1; omega)
 have T1 : Touch (fun x => n0 <= x /\ x < n4) w w1 := (Touch.of HA.out).trans (t1.mono fun y hy => by have := H.out.rb hy.2; have := hy.1; omega)
 clear x0 t1 c0 c1 c2 c3 c4 c5 o0 A
 obtain ⟨c0, c1, c2, c3, c4, c5⟩ := x1.sixP
 go_wp2_with fail
 refine (markDL_any f1 b1 d1 zd (by omega) (by rw [<- HP1.out]; omega)).mono ?_
 rintro e w2 ⟨rfl, t2, d2⟩
 rw [<- HP1.out]
 have S2 : ∀ x, ((0 < dn /\ x = G1) \/ ∃ j, j < dn /\ 0 < (f1 j).t.n /\ x = b1 j) -> n1 <= x /\ x < n2 := fun x hx => by
  rcases hx with ⟨h0, rfl⟩ | ⟨j, hj, h0, rfl⟩
  ·exact H.out.rd h0
  ·exact H.out.rd' j hj h0
 have q2 := q1.touch t2 (fun h0 s => by have := S2 _ s; have := H.out.rb h0; omega)
 have k2 := k1.touch t2 (fun h0 s => by have := S2 _ s; have := H.out.rk h0; omega) (fun i hi h0 s => by have := S2 _ s; have := H.out.rk' i hi h0; omega)
 have g2 := g1.touch t2 (fun h0 s => by have := S2 _ s; have := H.out.rg h0; omega) (fun i hi h0 s => by have := S2 _ s; have := H.out.rg' i hi h0; omega) (fun i hi h0 s => by have := S2 _ s; have := H.out.rg'' i hi h0; omega)
 have x2 := x1.touch t2 (fun s => by have := S2 _ s; omega)
 have T2 := T1.trans (t2.mono (T := fun x => n0 <= x /\ x < n4) fun y hy => by have := S2 _ hy; omega)
 clear x1 t2 c0 c1 c2 c3 c4 c5 q1 d1 k1 g1 T1 S2
 obtain ⟨c0, c1, c2, c3, c4, c5⟩ := x2.sixP
 go_wp2_with fail
 refine (markQL_any f2 b2 k2 zk (by omega) (by rw [<- HP2.out]; omega)).mono ?_
 rintro e w3 ⟨rfl, t3, k3⟩
 rw [<- HP2.out]
 have S3 : ∀ x, ((0 < kn /\ x = G2) \/ ∃ j, j < kn /\ 0 < (f2 j).t.n /\ x = b2 j) -> n2 <= x /\ x < n3 := fun x hx => by
  rcases hx with ⟨h0, rfl⟩ | ⟨j, hj, h0, rfl⟩
  ·exact H.out.rk h0
  ·exact H.out.rk' j hj h0
 have q3 := q2.touch t3 (fun h0 s => by have := S3 _ s; have := H.out.rb h0; omega)
 have d3 := d2.touch t3 (fun h0 s => by have := S3 _ s; have := H.out.rd h0; omega) (fun i hi h0 s => by have := S3 _ s; have := H.out.rd' i hi h0; omega)
 have g3 := g2.touch t3 (fun h0 s => by have := S3 _ s; have := H.out.rg h0; omega) (fun i hi h0 s => by have := S3 _ s; have := H.out.rg' i hi h0; omega) (fun i hi h0 s => by have := S3 _ s; have := H.out.rg'' i hi h0; omega)
 have x3 := x2.touch t3 (fun s => by have := S3 _ s; omega)
 have T3 := T2.trans (t3.mono (T := fun x => n0 <= x /\ x < n4) fun y hy => by have := S3 _ hy; omega)
 clear x2 t3 c0 c1 c2 c3 c4 c5 q2 d2 k2 g2 T2 S3
 obtain ⟨c0, c1, c2, c3, c4, c5⟩ := x3.sixP
 go_wp2_with fail
 refine (markGL_any f3 b3 b4 g3 zg (by omega) (by rw [<- HP3.out]; omega)).mono ?_
 rintro e w4 ⟨rfl, t4, g4⟩
 rw [<- HP3.out]
 have S4 : ∀ x, ((0 < gn /\ x = G3) \/ (∃ j, j < gn /\ 0 < (f3 j).t.n /\ x = b3 j) \/ ∃ j, j < gn /\ 0 < (f3 j).u.n /\ x = b4 j) -> n3 <= x /\ x < n4 := fun x hx => by
  rcases hx with ⟨h0, rfl⟩ | ⟨j, hj, h0, rfl⟩ | ⟨j, hj, h0, rfl⟩
  ·exact H.out.rg h0
  ·exact H.out.rg' j hj h0
  ·exact H.out.rg'' j hj h0
 have q4 := q3.touch t4 (fun h0 s => by have := S4 _ s; have := H.out.rb h0; omega)
 have d4 := d3.touch t4 (fun h0 s => by have := S4 _ s; have := H.out.rd h0; omega) (fun i hi h0 s => by have := S4 _ s; have := H.out.rd' i hi h0; omega)
 have k4 := k3.touch t4 (fun h0 s => by have := S4 _ s; have := H.out.rk h0; omega) (fun i hi h0 s => by have := S4 _ s; have := H.out.rk' i hi h0; omega)
 have T4 := T3.trans (t4.mono (T := fun x => n0 <= x /\ x < n4) fun y hy => by have := S4 _ hy; omega)
 clear x3 t4 c0 c1 c2 c3 c4 c5 q3 d3 k3 g3 T3 S4
 go_wp2
 go_ret
 exact ⟨rfl, T4, q4, d4, k4, g4, H.out.rb, H.out.rd, H.out.rd', H.out.rk, H.out.rk', H.out.rg, H.out.rg', H.out.rg'', H.out.o⟩
theorem heldCkL_any {cb : Nat} {da : Option Addr} {G1 cd : Nat} (f1 : Nat -> DV) (b1 : Nat -> Nat) {ka : Option Addr} {G2 kn ck : Nat} (f2 : Nat -> QV) (b2 : Nat -> Nat) {ga : Option Addr} {G3 gn cg : Nat} (f3 : Nat -> GV) (b3 b4 : Nat -> Nat) {n0 : Nat} (n1 n2 n3 n4 : Nat) {w : World} (h : CkL w ba B bn (ramp 1 bn) da G1 dn (mkD (1 + bn) f1) b1 ka G2 kn (mkQ (1 + bn + offD f1 dn) f2) b2 ga G3 gn (mkG (1 + bn + offD f1 dn + offQ f2 kn) f3) b3 b4 n0 n1 n2 n3 n4) (zb : bn <= 1048576) (zd : dn <= 1048576) (zk : kn <= 1048576) (zg : gn <= 1048576) (hk : (1 : Int) + bn + offD f1 dn + offQ f2 kn + offG f3 gn <= 100000000000000) :
  Calls Tryz.prog 36 #[ckV u r ba bn cb da dn cd ka kn ck ga gn cg, .int .i64 1] w fun e w' => e = .returned (.int .i64 (1 + bn + offD f1 dn + offQ f2 kn + offG f3 gn)) /\ Below w.heap.size w w' := by
 have x0 := Cel.new w [.bool u, .int .i64 r, .slice ba bn cb, .slice da dn cd, .slice ka kn ck, .slice ga gn cg] 47
 have A : Below w.heap.size w (w.alloc (.cells #[.bool u, .int .i64 r, .slice ba bn cb, .slice da dn cd, .slice ka kn ck, .slice ga gn cg] 47)) := bal
 have h0 := h.below A
 have o0 := h0.b.ints
 have d0 := h0.d
 have k0 := h0.k
 have g0 := h0.g
 clear h h0
 obtain ⟨P1, hP1⟩ : ∃ p : Nat, p = offD f1 dn := ⟨_, rfl⟩
 obtain ⟨P2, hP2⟩ : ∃ p : Nat, p = offQ f2 kn := ⟨_, rfl⟩
 obtain ⟨P3, hP3⟩ : ∃ p : Nat, p = offG f3 gn := ⟨_, rfl⟩
 rw [<- hP1, <- hP2, <- hP3] at hk ⊢
 rw [<- hP1] at k0 g0
 rw [<- hP2] at g0
 have HP1 : Hid (P1 = offD f1 dn) := hP1
 have HP2 : Hid (P2 = offQ f2 kn) := hP2
 have HP3 : Hid (P3 = offG f3 gn) := hP3
 clear hP1 hP2 hP3
 obtain ⟨c0, c1, c2, c3, c4, c5⟩ := x0.sixP
 have y1 : 0 <= 1 + (bn : Int) := by omega
 have y2 : 0 <= 1 + (bn : Int) + P1 := by omega
 have y3 : 0 <= 1 + (bn : Int) + P1 + P2 := by omega
 have y4 : 0 <= 1 + (bn : Int) + P1 + P2 + P3 := by omega
 go_enter Tryz.func36, Tryz.ntmps36
 go_wp2_with fail
 refine (held_any o0 zb (by omega) (by omega)).mono ?_
 rintro e w1 ⟨rfl, rfl⟩
 go_wp2_with fail
 refine (heldDL_any f1 b1 d0 zd (by omega) (by rw [<- HP1.out]; omega)).mono ?_
 rintro e w2 ⟨rfl, rfl⟩
 rw [<- HP1.out]
 go_wp2_with fail
 refine (heldQL_any f2 b2 k0 zk (by omega) (by rw [<- HP2.out]; omega)).mono ?_
 rintro e w3 ⟨rfl, rfl⟩
 rw [<- HP2.out]
 go_wp2_with fail
 refine (heldGL_any f3 b3 b4 g0 zg (by omega) (by rw [<- HP3.out]; omega)).mono ?_
 rintro e w4 ⟨rfl, rfl⟩
 rw [<- HP3.out]
 go_wp2
 go_ret
 exact ⟨rfl, A⟩
theorem offD_le {f : Nat -> DV} (h : DL W a G n f bs) : ∀ k, k <= n -> offD f k <= k * 1048578
 | 0, _ => by simp [offD]
 | k + 1, hk => by
  have h1 := offD_le h k (by omega)
  have h2 := (h.l k (by omega)).2.2
  simp only [offD]
  omega
theorem offQ_le {f : Nat -> QV} (h : QL W a G n f bs) : ∀ k, k <= n -> offQ f k <= k * 1048579
 | 0, _ => by simp [offQ]
 | k + 1, hk => by
  have h1 := offQ_le h k (by omega)
  have h2 := (h.l k (by omega)).2.2
  simp only [offQ]
  omega
theorem offG_le {f : Nat -> GV} {ds : Nat -> Nat} (h : GL W a G n f bs ds) : ∀ k, k <= n -> offG f k <= k * 2097153
 | 0, _ => by simp [offG]
 | k + 1, hk => by
  have h1 := offG_le h k (by omega)
  have h2 := (h.l k (by omega)).2.2
  have h3 := (h.u k (by omega)).2.2
  simp only [offG]
  omega
theorem CkL.marks {da : Option Addr} {G1 : Nat} {f1 : Nat -> DV} {b1 : Nat -> Nat} {ka : Option Addr} {G2 : Nat} {f2 : Nat -> QV} {b2 : Nat -> Nat} {ga : Option Addr} {G3 : Nat} {f3 : Nat -> GV} {b3 b4 : Nat -> Nat} {n0 n1 n2 n3 n4 : Nat} (h : CkL W ba B bn bx da G1 dn f1 b1 ka G2 kn f2 b2 ga G3 gn f3 b3 b4 n0 n1 n2 n3 n4) (zb : bn <= 1048576) (zd : dn <= 1048576) (zk : kn <= 1048576) (zg : gn <= 1048576) : (1 : Int) + bn + offD f1 dn + offQ f2 kn + offG f3 gn <= 100000000000000 := by
 have h1 := offD_le h.d dn (qC _)
 have h2 := offQ_le h.k kn (qC _)
 have h3 := offG_le h.g gn (qC _)
 omega
def WkI (W : World) (b n : Nat) : Prop := ∃ x : List Int, x.length = n /\ Blk W b x
structure Mkd (Bs : Nat -> Prop) (lo hi : Nat) (w w' : World) : Prop where
 i : ∀ b n, WkI w b n -> WkI w' b n
 c : ∀ b cs ty, w.heap[b]? = some (.cells cs ty (0, 0)) -> ty ≠ 3 -> ¬ Bs b -> w'.heap[b]? = w.heap[b]?
 t : Touch (fun x => lo <= x /\ x < hi) w w'
theorem Mkd.refl (Bs : Nat -> Prop) (lo hi : Nat) (w : World) : Mkd Bs lo hi w w := ⟨fun _ _ h => h, fun _ _ _ _ _ _ => rfl, Touch.refl _ _⟩
theorem Mkd.trans {w1 w2 : World} (h : Mkd Bs lo hi w w1) (h' : Mkd Bs lo hi w1 w2) : Mkd Bs lo hi w w2 :=
 ⟨fun b n x => h'.i b n (h.i b n x), fun b cs ty e n1 n2 => (h'.c b cs ty ((h.c b cs ty e n1 n2).trans e) n1 n2).trans (h.c b cs ty e n1 n2), h.t.trans h'.t⟩
theorem Mkd.mono {Bs' : Nat -> Prop} {lo' hi' : Nat} (h : Mkd Bs lo hi w w') (hB : ∀ b, Bs b -> Bs' b) (hl : lo' <= lo) (hh : hi <= hi') : Mkd Bs' lo' hi' w w' :=
 ⟨h.i, fun b cs ty e n1 n2 => h.c b cs ty e n1 (fun x => n2 (hB b x)), h.t.mono fun y hy => by have hy : lo <= y /\ y < hi := hy; exact ⟨by omega, by omega⟩⟩
theorem Mkd.cel (h : Mkd Bs lo hi w w') {b : Nat} {vs : List Value} {ty : TypeId} (hc : Cel w b vs ty) (h1 : ty ≠ 3) (h2 : ¬ Bs b) : Cel w' b vs ty := (h.c b _ ty hc h1 h2).trans hc
theorem Mkd.below (b : Below w.heap.size w w') : Mkd Bs lo hi w w' :=
 ⟨fun x n ⟨y, h1, h2⟩ => ⟨y, h1, h2.below b⟩, fun x cs ty e _ _ => by rw [b.block x (lt_of_block e)], Touch.of b⟩
theorem Mkd.list (hlo : lo <= B) (hhi : B < hi) (h : WkI w B n) (t : Touch (fun x => x = B /\ 0 < n) w w') (h' : WkI w' B n) : Mkd Bs lo hi w w' := by
 obtain ⟨y, ly, hy⟩ := h
 refine ⟨fun b m ⟨x, lx, hx⟩ => ?_, fun b cs ty e n1 _ => ?_, t.mono fun z hz => by have := hz.1; exact ⟨by omega, by omega⟩⟩
 ·by_cases e : b = B
  ·subst e
   have : m = n := by
    unfold Blk at hx hy
    rw [hx] at hy
    simp only [Option.some.injEq, Obj.cells.injEq, and_true] at hy
    have h1 := congrArg Array.size hy
    simp only [List.size_toArray, List.length_map] at h1
    omega
   rw [this]
   exact h'
  ·exact ⟨x, lx, by unfold Blk at hx ⊢; rw [t.block b (lt_of_block hx) (fun s => e s.1)]; exact hx⟩
 ·by_cases e2 : b = B
  ·subst e2
   unfold Blk at hy
   rw [hy] at e
   simp only [Option.some.injEq, Obj.cells.injEq] at e
   exact absurd e.2.1.symm n1
  ·rw [t.block b (lt_of_block e) (fun s => e2 s.1)]
theorem Mkd.cell {vs : List Value} {ty : TypeId} (hlo : lo <= B) (hhi : B < hi) (hB : Bs B) (hc : Cel w B vs ty) (hty : ty ≠ 3) (i : Nat) (v : Value) : Mkd Bs lo hi w (w.setCell ⟨B, i, none⟩ v) := by
 have t : Touch (fun x => x = B) w (w.setCell ⟨B, i, none⟩ v) := (Touch.refl (fun x => x = B) w).setCell rfl _
 refine ⟨fun b m ⟨x, lx, hx⟩ => ?_, fun b cs ty' e n1 n2 => ?_, t.mono fun z hz => by have hz : z = B := hz; exact ⟨by omega, by omega⟩⟩
 ·have e : b ≠ B := fun e => by
   subst e
   unfold Blk at hx
   unfold Cel at hc
   rw [hx] at hc
   simp only [Option.some.injEq, Obj.cells.injEq] at hc
   exact hty hc.2.1.symm
  exact ⟨x, lx, by unfold Blk at hx ⊢; rw [t.block b (lt_of_block hx) e]; exact hx⟩
 ·rw [t.block b (lt_of_block e) (fun s => n2 (by have s : b = B := s; rw [s]; exact hB))]
theorem markMD_any (lo hi : Nat) (gs : List DV) {k0 : Int} (w0 : World) {w : World} (h : MD w0 B N gs) (Bs : Nat -> Prop) (lo0 : Nat) (m0 : Mkd Bs lo0 hi w0 w) (hBs : ¬ Bs B) (hN : gs.length = N) (hN1 : N <= 1048576) (hlo : lo <= B) (hhi : w0.heap.size <= hi) (hk0 : 0 <= k0) (hk : k0 <= 3000000000000000000) :
  Calls Tryz.prog 94 #[.slice (some ⟨B, 0, none⟩) N cap, .int .i64 k0] w fun e w' => ∃ r, e = .returned (.int .i64 r) /\ 0 <= r /\ r <= k0 + N * 1048578 /\ Mkd (fun b => b = B) lo hi w w' := by
 have HN : Hid (gs.length = N) := hN
 have H : Hid (MD w0 B N gs) := h
 have H0 : Hid (Mkd Bs lo0 hi w0 w) := m0
 clear m0
 clear hN h
 have hBh : B < hi := by have := H.out.lt; omega
 go_enter Tryz.func94, Tryz.ntmps94
 go_wp2_with fail
 go_loopw [1, 5] (fun kv i wr => ∃ k : Nat, k <= N /\ i = .int .i64 k /\ ∃ x : Int, kv = .int .i64 x /\ 0 <= x /\ x <= k0 + k * 1048578 /\ Mkd (fun b => b = B) lo hi w wr /\ ∃ vs : List Value, Cel wr B vs 219 /\ Hid (vs.length = N * 3 /\ ∀ i, i < N -> vs[i * 3 + 2]? = some ((gs[i]?.getD noD).t.v))) (fun _ i _ => N - (intOf i).toNat)
 case atStart =>
  obtain ⟨vs, h1, h2, h3⟩ := H.out.c
  exact ⟨0, qD _, rfl, k0, rfl, hk0, by omega, Mkd.refl _ _ _ _, vs, H0.out.cel h1 (by decide) hBs, h2, fun i hi => by rw [h3 i (by rw [HN.out]; exact hi) 2 (by omega)]; rfl⟩
 case round =>
  obtain ⟨k, hk', rfl, x, rfl, hx0, hx1, m, vs, hc, HV⟩ := hrel
  by_cases hlt : k < N
  ·obtain ⟨⟨Bl, hBl, hlB, hblk, hlen, hle⟩, -⟩ := H.out.l k (by rw [HN.out]; exact hlt)
   have hv2 := HV.out.2 k hlt
   generalize HG : gs[k]?.getD noD = g at *
   clear HG
   obtain ⟨gq, gc, ⟨gta, gtn, gtc, gtx⟩⟩ := g
   obtain rfl : gta = some ⟨Bl, 0, none⟩ := hBl
   have hle : gtn <= 1048576 := hle
   have hBl2 : Bl < hi := by have := Blk.lt hblk; omega
   have hw0 : WkI w Bl gtn := H0.out.i _ _ ⟨gtx, hlen, hblk⟩
   have hlt' : (k : Int) < N := by omega
   have f0 := hc.free (k * 3)
   have f1 := hc.free (k * 3 + 1)
   have c0 := hc.cell (k * 3)
   have c1 := hc.cell (k * 3 + 1)
   have c2 := hc.cell (k * 3 + 2)
   rw [hv2] at c2
   obtain ⟨v0, e0⟩ : ∃ v, vs[k * 3]? = some v := ⟨vs[k * 3]'(by have := HV.out.1; omega), qA _⟩
   obtain ⟨v1, e1⟩ : ∃ v, vs[k * 3 + 1]? = some v := ⟨vs[k * 3 + 1]'(by have := HV.out.1; omega), qA _⟩
   rw [e0] at c0
   rw [e1] at c1
   have c2' : wr.cell? ⟨B, k * 3 + 2, none⟩ = some (.slice (some ⟨Bl, 0, none⟩) gtn gtc) := c2
   have h1 := hc.set (k * 3) (.int .i64 x)
   have m1 := m.trans (Mkd.cell (Bs := fun b => b = B) hlo hBh rfl hc (by decide) (k * 3) (.int .i64 x))
   have h2 := h1.set (k * 3 + 1) (.int .i64 (x + 1))
   have m2 := m1.trans (Mkd.cell (Bs := fun b => b = B) hlo hBh rfl h1 (by decide) (k * 3 + 1) (.int .i64 (x + 1)))
   obtain ⟨y, ly, hy⟩ := m2.i _ _ hw0
   have HY : Hid _ := ly
   have HM : Hid _ := m2
   have HC2 : Hid _ := h2
   clear m m1 m2 h1 h2 hc hblk hlen hw0 c2 e0 e1 hv2 ly
   go_wp2_with fail
   refine (mark_any Bl y (.inr ⟨rfl, hy⟩) HY.out hle (by omega) (by omega)).mono ?_
   rintro ee w2 ⟨rfl, t2, o2⟩
   have W2 : WkI w2 Bl gtn := by
    by_cases h0 : 0 < gtn
    ·rcases o2 with h | ⟨_, h⟩
     ·have := congrArg List.length h
      rw [ramp_len] at this
      simp at this
      omega
     ·exact ⟨_, ramp_len _ _, h⟩
    ·exact ⟨y, HY.out, by unfold Blk at hy ⊢; rw [t2.block Bl (lt_of_block hy) (fun s => h0 s.2)]; exact hy⟩
   have m3 := HM.out.trans (Mkd.list (lo := lo) (hi := hi) (Bs := fun b => b = B) (by omega) (by omega) ⟨y, HY.out, hy⟩ t2 W2)
   have h3 := Cel.touch HC2.out t2 (fun s => by have := s.1; omega)
   have HV2 : Hid (((vs.set (k * 3) (.int .i64 x)).set (k * 3 + 1) (.int .i64 (x + 1))).length = N * 3 /\ ∀ i, i < N -> ((vs.set (k * 3) (.int .i64 x)).set (k * 3 + 1) (.int .i64 (x + 1)))[i * 3 + 2]? = some ((gs[i]?.getD noD).t.v)) :=
    ⟨by rw [List.length_set, List.length_set]; exact HV.out.1, fun i hi => by rw [qB (by omega), qB (by omega)]; exact HV.out.2 i hi⟩
   clear t2 o2 W2 hy c0 c1 c2' f0 f1
   go_wp2
   go_roundw
   case rel => exact ⟨k + 1, by omega, by go_num, _, rfl, by omega, by omega, m3, _, h3, HV2⟩
   case measure => simp [intOf]; omega
  ·obtain rfl : k = N := by omega
   go_wp2
   go_ret
   exact ⟨x, rfl, hx0, hx1, m⟩
theorem markMQ_any (lo hi : Nat) (gs : List QV) {k0 : Int} (w0 : World) {w : World} (h : MQ w0 B N gs) (Bs : Nat -> Prop) (lo0 : Nat) (m0 : Mkd Bs lo0 hi w0 w) (hBs : ¬ Bs B) (hN : gs.length = N) (hN1 : N <= 1048576) (hlo : lo <= B) (hhi : w0.heap.size <= hi) (hk0 : 0 <= k0) (hk : k0 <= 3000000000000000000) :
  Calls Tryz.prog 95 #[.slice (some ⟨B, 0, none⟩) N cap, .int .i64 k0] w fun e w' => ∃ r, e = .returned (.int .i64 r) /\ 0 <= r /\ r <= k0 + N * 1048579 /\ Mkd (fun b => b = B) lo hi w w' := by
 have HN : Hid (gs.length = N) := hN
 have H : Hid (MQ w0 B N gs) := h
 have H0 : Hid (Mkd Bs lo0 hi w0 w) := m0
 clear m0
 clear hN h
 have hBh : B < hi := by have := H.out.lt; omega
 go_enter Tryz.func95, Tryz.ntmps95
 go_wp2_with fail
 go_loopw [1, 5] (fun kv i wr => ∃ k : Nat, k <= N /\ i = .int .i64 k /\ ∃ x : Int, kv = .int .i64 x /\ 0 <= x /\ x <= k0 + k * 1048579 /\ Mkd (fun b => b = B) lo hi w wr /\ ∃ vs : List Value, Cel wr B vs 106 /\ Hid (vs.length = N * 4 /\ ∀ i, i < N -> vs[i * 4 + 3]? = some ((gs[i]?.getD noQ).t.v))) (fun _ i _ => N - (intOf i).toNat)
 case atStart =>
  obtain ⟨vs, h1, h2, h3⟩ := H.out.c
  exact ⟨0, qD _, rfl, k0, rfl, hk0, by omega, Mkd.refl _ _ _ _, vs, H0.out.cel h1 (by decide) hBs, h2, fun i hi => by rw [h3 i (by rw [HN.out]; exact hi) 3 (by omega)]; rfl⟩
 case round =>
  obtain ⟨k, hk', rfl, x, rfl, hx0, hx1, m, vs, hc, HV⟩ := hrel
  by_cases hlt : k < N
  ·obtain ⟨⟨Bl, hBl, hlB, hblk, hlen, hle⟩, -⟩ := H.out.l k (by rw [HN.out]; exact hlt)
   have hv2 := HV.out.2 k hlt
   generalize HG : gs[k]?.getD noQ = g at *
   clear HG
   obtain ⟨gx, gq, gc, ⟨gta, gtn, gtc, gtx⟩⟩ := g
   obtain rfl : gta = some ⟨Bl, 0, none⟩ := hBl
   have hle : gtn <= 1048576 := hle
   have hBl2 : Bl < hi := by have := Blk.lt hblk; omega
   have hw0 : WkI w Bl gtn := H0.out.i _ _ ⟨gtx, hlen, hblk⟩
   have hlt' : (k : Int) < N := by omega
   have f0 := hc.free (k * 4)
   have f1 := hc.free (k * 4 + 1)
   have f2 := hc.free (k * 4 + 2)
   have c0 := hc.cell (k * 4)
   have c1 := hc.cell (k * 4 + 1)
   have c2 := hc.cell (k * 4 + 2)
   have c3 := hc.cell (k * 4 + 3)
   rw [hv2] at c3
   obtain ⟨v0, e0⟩ : ∃ v, vs[k * 4]? = some v := ⟨vs[k * 4]'(by have := HV.out.1; omega), qA _⟩
   obtain ⟨v1, e1⟩ : ∃ v, vs[k * 4 + 1]? = some v := ⟨vs[k * 4 + 1]'(by have := HV.out.1; omega), qA _⟩
   obtain ⟨v2, e2⟩ : ∃ v, vs[k * 4 + 2]? = some v := ⟨vs[k * 4 + 2]'(by have := HV.out.1; omega), qA _⟩
   rw [e0] at c0
   rw [e1] at c1
   rw [e2] at c2
   have c3' : wr.cell? ⟨B, k * 4 + 3, none⟩ = some (.slice (some ⟨Bl, 0, none⟩) gtn gtc) := c3
   have h1 := hc.set (k * 4) (.int .i64 x)
   have m1 := m.trans (Mkd.cell (Bs := fun b => b = B) hlo hBh rfl hc (by decide) (k * 4) (.int .i64 x))
   have h2 := h1.set (k * 4 + 1) (.int .i64 (x + 1))
   have m2 := m1.trans (Mkd.cell (Bs := fun b => b = B) hlo hBh rfl h1 (by decide) (k * 4 + 1) (.int .i64 (x + 1)))
   have h3' := h2.set (k * 4 + 2) (.int .i64 (x + 1 + 1))
   have m2' := m2.trans (Mkd.cell (Bs := fun b => b = B) hlo hBh rfl h2 (by decide) (k * 4 + 2) (.int .i64 (x + 1 + 1)))
   obtain ⟨y, ly, hy⟩ := m2'.i _ _ hw0
   have HY : Hid _ := ly
   have HM : Hid _ := m2'
   have HC2 : Hid _ := h3'
   clear m m1 m2 m2' h1 h2 h3' hc hblk hlen hw0 c3 e0 e1 e2 hv2 ly
   go_wp2_with fail
   refine (mark_any Bl y (.inr ⟨rfl, hy⟩) HY.out hle (by omega) (by omega)).mono ?_
   rintro ee w2 ⟨rfl, t2, o2⟩
   have W2 : WkI w2 Bl gtn := by
    by_cases h0 : 0 < gtn
    ·rcases o2 with h | ⟨_, h⟩
     ·have := congrArg List.length h
      rw [ramp_len] at this
      simp at this
      omega
     ·exact ⟨_, ramp_len _ _, h⟩
    ·exact ⟨y, HY.out, by unfold Blk at hy ⊢; rw [t2.block Bl (lt_of_block hy) (fun s => h0 s.2)]; exact hy⟩
   have m3 := HM.out.trans (Mkd.list (lo := lo) (hi := hi) (Bs := fun b => b = B) (by omega) (by omega) ⟨y, HY.out, hy⟩ t2 W2)
   have h3 := Cel.touch HC2.out t2 (fun s => by have := s.1; omega)
   have HV2 : Hid ((((vs.set (k * 4) (.int .i64 x)).set (k * 4 + 1) (.int .i64 (x + 1))).set (k * 4 + 2) (.int .i64 (x + 1 + 1))).length = N * 4 /\ ∀ i, i < N -> (((vs.set (k * 4) (.int .i64 x)).set (k * 4 + 1) (.int .i64 (x + 1))).set (k * 4 + 2) (.int .i64 (x + 1 + 1)))[i * 4 + 3]? = some ((gs[i]?.getD noQ).t.v)) :=
    ⟨by rw [List.length_set, List.length_set, List.length_set]; exact HV.out.1, fun i hi => by rw [qB (by omega), qB (by omega), qB (by omega)]; exact HV.out.2 i hi⟩
   clear t2 o2 W2 hy c0 c1 c2 c3' f0 f1 f2
   go_wp2
   go_roundw
   case rel => exact ⟨k + 1, by omega, by go_num, _, rfl, by omega, by omega, m3, _, h3, HV2⟩
   case measure => simp [intOf]; omega
  ·obtain rfl : k = N := by omega
   go_wp2
   go_ret
   exact ⟨x, rfl, hx0, hx1, m⟩
theorem markMG_any (lo hi : Nat) (gs : List GV) {k0 : Int} (w0 : World) {w : World} (h : MG w0 B N gs) (Bs : Nat -> Prop) (lo0 : Nat) (m0 : Mkd Bs lo0 hi w0 w) (hBs : ¬ Bs B) (hN : gs.length = N) (hN1 : N <= 1048576) (hlo : lo <= B) (hhi : w0.heap.size <= hi) (hk0 : 0 <= k0) (hk : k0 <= 3000000000000000000) :
  Calls Tryz.prog 96 #[.slice (some ⟨B, 0, none⟩) N cap, .int .i64 k0] w fun e w' => ∃ r, e = .returned (.int .i64 r) /\ 0 <= r /\ r <= k0 + N * 2097153 /\ Mkd (fun b => b = B) lo hi w w' := by
 have HN : Hid (gs.length = N) := hN
 have H : Hid (MG w0 B N gs) := h
 have H0 : Hid (Mkd Bs lo0 hi w0 w) := m0
 clear m0
 clear hN h
 have hBh : B < hi := by have := H.out.lt; omega
 go_enter Tryz.func96, Tryz.ntmps96
 go_wp2_with fail
 go_loopw [1, 5] (fun kv i wr => ∃ k : Nat, k <= N /\ i = .int .i64 k /\ ∃ x : Int, kv = .int .i64 x /\ 0 <= x /\ x <= k0 + k * 2097153 /\ Mkd (fun b => b = B) lo hi w wr /\ ∃ vs : List Value, Cel wr B vs 222 /\ Hid (vs.length = N * 3 /\ ∀ i, i < N -> vs[i * 3 + 1]? = some ((gs[i]?.getD noG).t.v) /\ vs[i * 3 + 2]? = some ((gs[i]?.getD noG).u.v))) (fun _ i _ => N - (intOf i).toNat)
 case atStart =>
  obtain ⟨vs, h1, h2, h3⟩ := H.out.c
  exact ⟨0, qD _, rfl, k0, rfl, hk0, by omega, Mkd.refl _ _ _ _, vs, H0.out.cel h1 (by decide) hBs, h2, fun i hi => ⟨by rw [h3 i (by rw [HN.out]; exact hi) 1 (by omega)]; rfl, by rw [h3 i (by rw [HN.out]; exact hi) 2 (by omega)]; rfl⟩⟩
 case round =>
  obtain ⟨k, hk', rfl, x, rfl, hx0, hx1, m, vs, hc, HV⟩ := hrel
  by_cases hlt : k < N
  ·obtain ⟨⟨Bl, hBl, hlB, hblk, hlen, hle⟩, ⟨Bm, hBm, hmB, hblm, hlem, hlf⟩, -⟩ := H.out.l k (by rw [HN.out]; exact hlt)
   obtain ⟨hv1, hv2⟩ := HV.out.2 k hlt
   generalize HG : gs[k]?.getD noG = g at *
   clear HG
   obtain ⟨gh, ⟨gta, gtn, gtc, gtx⟩, ⟨gua, gun, guc, gux⟩⟩ := g
   obtain rfl : gta = some ⟨Bl, 0, none⟩ := hBl
   obtain rfl : gua = some ⟨Bm, 0, none⟩ := hBm
   have hle : gtn <= 1048576 := hle
   have hBl2 : Bl < hi := by have := Blk.lt hblk; omega
   have hBm2 : Bm < hi := by have := Blk.lt hblm; omega
   have hlf : gun <= 1048576 := hlf
   have hu0 : WkI w Bm gun := H0.out.i _ _ ⟨gux, hlem, hblm⟩
   have hw0 : WkI w Bl gtn := H0.out.i _ _ ⟨gtx, hlen, hblk⟩
   have hlt' : (k : Int) < N := by omega
   have f0 := hc.free (k * 3)
   have c0 := hc.cell (k * 3)
   have c1 := hc.cell (k * 3 + 1)
   rw [hv1] at c1
   obtain ⟨v0, e0⟩ : ∃ v, vs[k * 3]? = some v := ⟨vs[k * 3]'(by have := HV.out.1; omega), qA _⟩
   rw [e0] at c0
   have c1' : wr.cell? ⟨B, k * 3 + 1, none⟩ = some (.slice (some ⟨Bl, 0, none⟩) gtn gtc) := c1
   obtain ⟨bb, hbb⟩ : ∃ bb, bb = (x % 3 == 0) := ⟨_, rfl⟩
   have h1 := hc.set (k * 3) (.bool bb)
   have m1 := m.trans (Mkd.cell (Bs := fun b => b = B) hlo hBh rfl hc (by decide) (k * 3) (.bool bb))
   obtain ⟨y, ly, hy⟩ := m1.i _ _ hw0
   have HY : Hid _ := ly
   have HM : Hid _ := m1
   have HC2 : Hid _ := h1
   have ht : (x % 3 == 0) = bb := hbb.symm
   clear m m1 h1 hc hblk hlen hblm hlem hw0 c1 e0 ly hbb
   go_wp2_with fail
   refine (mark_any Bl y (.inr ⟨rfl, hy⟩) HY.out hle (by omega) (by omega)).mono ?_
   rintro ee w2 ⟨rfl, t2, o2⟩
   have W2 : WkI w2 Bl gtn := by
    by_cases h0 : 0 < gtn
    ·rcases o2 with h | ⟨_, h⟩
     ·have := congrArg List.length h
      rw [ramp_len] at this
      simp at this
      omega
     ·exact ⟨_, ramp_len _ _, h⟩
    ·exact ⟨y, HY.out, by unfold Blk at hy ⊢; rw [t2.block Bl (lt_of_block hy) (fun s => h0 s.2)]; exact hy⟩
   have m3 := HM.out.trans (Mkd.list (lo := lo) (hi := hi) (Bs := fun b => b = B) (by omega) (by omega) ⟨y, HY.out, hy⟩ t2 W2)
   have h3 := Cel.touch HC2.out t2 (fun s => by have := s.1; omega)
   have c2 := h3.cell (k * 3 + 2)
   rw [qB (by omega), hv2] at c2
   have c2' : w2.cell? ⟨B, k * 3 + 2, none⟩ = some (.slice (some ⟨Bm, 0, none⟩) gun guc) := c2
   obtain ⟨y', ly', hy'⟩ := m3.i _ _ hu0
   have HY' : Hid _ := ly'
   have HM3 : Hid _ := m3
   have HC3 : Hid _ := h3
   clear t2 o2 W2 hy c0 c1' f0 m3 h3 c2 ly' HM HC2 HY
   go_wp2_with fail
   refine (mark_any Bm y' (.inr ⟨rfl, hy'⟩) HY'.out hlf (by omega) (by omega)).mono ?_
   rintro ee w3 ⟨rfl, t3, o3⟩
   have W3 : WkI w3 Bm gun := by
    by_cases h0 : 0 < gun
    ·rcases o3 with h | ⟨_, h⟩
     ·have := congrArg List.length h
      rw [ramp_len] at this
      simp at this
      omega
     ·exact ⟨_, ramp_len _ _, h⟩
    ·exact ⟨y', HY'.out, by unfold Blk at hy' ⊢; rw [t3.block Bm (lt_of_block hy') (fun s => h0 s.2)]; exact hy'⟩
   have m4 := HM3.out.trans (Mkd.list (lo := lo) (hi := hi) (Bs := fun b => b = B) (by omega) (by omega) ⟨y', HY'.out, hy'⟩ t3 W3)
   have h4 := Cel.touch HC3.out t3 (fun s => by have := s.1; omega)
   have HV2 : Hid ((vs.set (k * 3) (.bool bb)).length = N * 3 /\ ∀ i, i < N -> (vs.set (k * 3) (.bool bb))[i * 3 + 1]? = some ((gs[i]?.getD noG).t.v) /\ (vs.set (k * 3) (.bool bb))[i * 3 + 2]? = some ((gs[i]?.getD noG).u.v)) :=
    ⟨by rw [List.length_set]; exact HV.out.1, fun i hi => by rw [qB (by omega), qB (by omega)]; exact HV.out.2 i hi⟩
   clear t3 o3 W3 hy' c2' HM3 HC3
   go_wp2
   go_roundw
   case rel => exact ⟨k + 1, by omega, by go_num, _, rfl, by omega, by omega, m4, _, h4, HV2⟩
   case measure => simp [intOf]; omega
  ·obtain rfl : k = N := by omega
   go_wp2
   go_ret
   exact ⟨x, rfl, hx0, hx1, m⟩
theorem markCkM_any {Bb bc : Nat} (bx : List Int) {Bd dn dc : Nat} (dx : List DV) {Bk kn kc : Nat} (kx : List QV) {Bg gn gc : Nat} (gx : List GV) {k0 : Int} (v : World) {w : World} (hvw : Below v.heap.size v w) (hb : Blk v Bb bx) (lb : bx.length = bn) (zb : bn <= 1048576) (hd : MD v Bd dn dx) (ld : dx.length = dn) (zd : dn <= 1048576) (hk : MQ v Bk kn kx) (lk : kx.length = kn) (zk : kn <= 1048576) (hg : MG v Bg gn gx) (lg : gx.length = gn) (zg : gn <= 1048576) (h1 : Bb < Bd) (h2 : Bd < Bk) (h3 : Bk < Bg) (hk0 : 0 <= k0) (hk1 : k0 <= 2400000000000000000) :
  Calls Tryz.prog 35 #[ckV u r (some ⟨Bb, 0, none⟩) bn bc (some ⟨Bd, 0, none⟩) dn dc (some ⟨Bk, 0, none⟩) kn kc (some ⟨Bg, 0, none⟩) gn gc, .int .i64 k0] w fun e w' => ∃ r, e = .returned (.int .i64 r) /\ 0 <= r /\ Touch (fun x => Bb <= x /\ x < v.heap.size) w w' := by
 have x0 := Cel.new w [.bool u, .int .i64 r, .slice (some ⟨Bb, 0, none⟩) bn bc, .slice (some ⟨Bd, 0, none⟩) dn dc, .slice (some ⟨Bk, 0, none⟩) kn kc, .slice (some ⟨Bg, 0, none⟩) gn gc] 47
 have A : Below w.heap.size w (w.alloc (.cells #[.bool u, .int .i64 r, .slice (some ⟨Bb, 0, none⟩) bn bc, .slice (some ⟨Bd, 0, none⟩) dn dc, .slice (some ⟨Bk, 0, none⟩) kn kc, .slice (some ⟨Bg, 0, none⟩) gn gc] 47)) := bal
 have Lb : Hid _ := lb
 have Ld : Hid _ := ld
 have Lk : Hid _ := lk
 have Lg : Hid _ := lg
 have l4 := hg.lt
 have lb0 := hb.lt
 have lvw := hvw.size
 have hb0 := (hb.below hvw).below A
 have NA : Hid (Mkd (fun _ => False) Bb v.heap.size v (w.alloc (.cells #[.bool u, .int .i64 r, .slice (some ⟨Bb, 0, none⟩) bn bc, .slice (some ⟨Bd, 0, none⟩) dn dc, .slice (some ⟨Bk, 0, none⟩) kn kc, .slice (some ⟨Bg, 0, none⟩) gn gc] 47))) := (Mkd.below hvw).trans (Mkd.below A)
 have TA : Hid (Touch (fun x => Bb <= x /\ x < v.heap.size) w (w.alloc (.cells #[.bool u, .int .i64 r, .slice (some ⟨Bb, 0, none⟩) bn bc, .slice (some ⟨Bd, 0, none⟩) dn dc, .slice (some ⟨Bk, 0, none⟩) kn kc, .slice (some ⟨Bg, 0, none⟩) gn gc] 47))) := Touch.of A
 clear lb ld lk lg A
 obtain ⟨c0, c1, c2, c3, c4, c5⟩ := x0.sixP
 go_enter Tryz.func35, Tryz.ntmps35
 go_wp2_with fail
 refine (mark_any Bb bx (.inr ⟨rfl, hb0⟩) Lb.out zb (by omega) (by omega)).mono ?_
 rintro e w1 ⟨rfl, t1, o1⟩
 have W1 : WkI w1 Bb bn := by
  by_cases h0 : 0 < bn
  ·rcases o1 with h | ⟨_, h⟩
   ·have := congrArg List.length h
    rw [ramp_len] at this
    simp at this
    omega
   ·exact ⟨_, ramp_len _ _, h⟩
  ·exact ⟨bx, Lb.out, by unfold Blk at hb0 ⊢; rw [t1.block Bb (lt_of_block hb0) (fun s => h0 s.2)]; exact hb0⟩
 have n1 : Mkd (fun _ => False) Bb v.heap.size v w1 := NA.out.trans (Mkd.list (qC _) lb0 ⟨bx, Lb.out, hb0⟩ t1 W1)
 have T1 := TA.out.trans (t1.mono (T := fun x => Bb <= x /\ x < v.heap.size) fun z hz => by have := hz.1; exact ⟨by omega, by omega⟩)
 have x1 := x0.touch t1 (fun s => by have := s.1; omega)
 clear x0 t1 c0 c1 c2 c3 c4 c5 o1 W1 hb0 NA TA
 obtain ⟨c0, c1, c2, c3, c4, c5⟩ := x1.sixP
 go_wp2_with fail
 refine (markMD_any Bb v.heap.size dx v hd (fun _ => False) Bb n1 (fun h => h) Ld.out zd (by omega) (qC _) (by omega) (by omega)).mono ?_
 rintro e w2 ⟨r2, rfl, p2, q2, m2⟩
 have n2 := (n1.mono (Bs' := fun b => b = Bd) (fun _ h => h.elim) (qC _) (qC _)).trans m2
 have T2 := T1.trans m2.t
 have x2 := m2.cel x1 (by decide) (fun h => by omega)
 clear x1 c0 c1 c2 c3 c4 c5 n1 m2
 obtain ⟨c0, c1, c2, c3, c4, c5⟩ := x2.sixP
 go_wp2_with fail
 refine (markMQ_any Bb v.heap.size kx v hk (fun b => b = Bd) Bb n2 (fun h => by omega) Lk.out zk (by omega) (qC _) (by omega) (by omega)).mono ?_
 rintro e w3 ⟨r3, rfl, p3, q3, m3⟩
 have n3 := (n2.mono (Bs' := fun b => b = Bd \/ b = Bk) (fun _ h => Or.inl h) (qC _) (qC _)).trans (m3.mono (fun _ h => Or.inr h) (qC _) (qC _))
 have T3 := T2.trans m3.t
 have x3 := m3.cel x2 (by decide) (fun h => by omega)
 clear x2 c0 c1 c2 c3 c4 c5 n2 m3
 obtain ⟨c0, c1, c2, c3, c4, c5⟩ := x3.sixP
 go_wp2_with fail
 refine (markMG_any Bb v.heap.size gx v hg (fun b => b = Bd \/ b = Bk) Bb n3 (fun h => by omega) Lg.out zg (by omega) (qC _) (by omega) (by omega)).mono ?_
 rintro e w4 ⟨r4, rfl, p4, q4, m4⟩
 have T := T3.trans m4.t
 clear x3 c0 c1 c2 c3 c4 c5 n3 m4
 go_wp2
 go_ret
 exact ⟨_, rfl, p4, T⟩
structure MKL (W : World) (B N s k : Nat) (gs : List LV) (p q : Nat -> Nat) (wr : World) : Prop where
 c : ∃ cur : List Value, Cel wr B cur 257 /\ cur.length = N * 6 /\ ∀ i, i < N -> cur[i * 6 + 3]? = some (.slice (gs[i]?.getD noLV).f.a (gs[i]?.getD noLV).f.n (gs[i]?.getD noLV).f.cap) /\ cur[i * 6 + 4]? = some (.slice (gs[i]?.getD noLV).f.c (gs[i]?.getD noLV).f.m (gs[i]?.getD noLV).f.cap')
 o : ∀ i, k <= i -> i < N -> Blk wr (p i) (gs[i]?.getD noLV).f.C /\ Blk wr (q i) (gs[i]?.getD noLV).f.D
 t : Touch (fun x => B <= x /\ x < s) W wr
theorem markLS_any (B lo N cap s : Nat) (gs : List LV) (p q : Nat -> Nat) (k0 : Int) {W : World} (h : ML W B lo N gs p q) (hN : gs.length = N) (hN1 : N <= 1048576) (hk0 : 0 <= k0) (hk1 : k0 <= 3000000000000000000) (hBs : B < s) (hqs : ∀ i, i < N -> q i < s) :
  Calls Tryz.prog 176 #[.slice (some ⟨B, 0, none⟩) N cap, .int .i64 k0] W fun e w' => ∃ r, e = .returned (.int .i64 r) /\ 0 <= r /\ r <= k0 + N * 2097156 /\ Touch (fun x => B <= x /\ x < s) W w' := by
 have HQ : Hid _ := hqs
 clear hqs
 have HN : Hid (gs.length = N) := hN
 have hl := h.l
 rw [hN] at hl
 have HL : Hid _ := hl
 have hB := h.b
 have m0 : MKL W B N s 0 gs p q W := by
  obtain ⟨vs, v1, v2, v3⟩ := h.c
  refine ⟨⟨vs, v1, v2, fun i hi => ?_⟩, fun i _ hi => ?_, Touch.refl _ _⟩
  ·exact ⟨v3 i (by omega) 3 (by omega), v3 i (by omega) 4 (by omega)⟩
  ·obtain ⟨_, _, a4, a5, _⟩ := hl i hi
   exact ⟨a4, a5⟩
 clear hl h hN
 go_enter Tryz.func176, Tryz.ntmps176
 go_wp2_with fail
 go_loopw [1, 5] (fun kv i wr => ∃ k : Nat, k <= N /\ i = .int .i64 k /\ ∃ x : Int, kv = .int .i64 x /\ 0 <= x /\ x <= k0 + k * 2097156 /\ MKL W B N s k gs p q wr) (fun _ i _ => N - (intOf i).toNat)
 case atStart => exact ⟨0, qD _, rfl, k0, rfl, hk0, by omega, m0⟩
 case round =>
  clear m0
  obtain ⟨k, hk, rfl, x, rfl, hx0, hx1, mk⟩ := hrel
  by_cases hlt : k < N
  ·obtain ⟨ea, ec, -, -, lC, lD, n1, m1, hp, hpq, hq, hj⟩ := HL.out k hlt
   have hqk := HQ.out k hlt
   obtain ⟨bC, bD⟩ := mk.o k (qC _) hlt
   obtain ⟨cur, hcur, hsz, hcells⟩ := mk.c
   have hc := hcells k hlt
   have HCS : Hid _ := hcells
   clear hcells
   have HJ : Hid (∀ i, k + 1 <= i -> i < N -> q k < p i /\ p i < q i) := fun i hi hiN => by
    obtain ⟨_, _, _, _, _, _, _, _, _, h11, _, h13⟩ := HL.out i hiN
    exact ⟨h13 k (by omega), h11⟩
   generalize HG : gs[k]?.getD noLV = g at *
   clear HG
   obtain ⟨gk, gp, gz, ⟨ga, gn, gcap, gc, gm, gcap', gK, gC, gD⟩⟩ := g
   simp only at ea ec lC lD n1 m1 bC bD hc
   subst ea ec
   have hx : ∀ r, r < 6 -> ∃ x, wr.cell? ⟨B, k * 6 + r, none⟩ = some x := fun r hr => ⟨_, (hcur.cell (k * 6 + r)).trans (qA (by rw [hsz]; omega))⟩
   obtain ⟨x0, y0⟩ := hx 0 (by omega)
   obtain ⟨x1, y1⟩ := hx 1 (by omega)
   obtain ⟨x2, y2⟩ := hx 2 (by omega)
   simp only [Nat.add_zero] at y0
   have f0 := hcur.free (k * 6)
   have f1 := hcur.free (k * 6 + 1)
   have f2 := hcur.free (k * 6 + 2)
   have y3 : wr.cell? ⟨B, k * 6 + 3, none⟩ = some (.slice (some ⟨p k, 0, none⟩) gn gcap) := (hcur.cell _).trans hc.1
   have s1 := mk.t.size
   have hlt3 : (k : Int) < (N : Int) := by omega
   have c3 := ((hcur.set (k * 6) (.int .i64 x)).set (k * 6 + 1) (.int .i64 (x + 1))).set (k * 6 + 2) (.int .i64 (x + 1 + 1))
   have kP : p k ≠ B := by omega
   have kQ : q k ≠ B := by omega
   have bC3 := ((bC.setOther kP (k * 6) (.int .i64 x)).setOther kP (k * 6 + 1) (.int .i64 (x + 1))).setOther kP (k * 6 + 2) (.int .i64 (x + 1 + 1))
   have bD3 := ((bD.setOther kQ (k * 6) (.int .i64 x)).setOther kQ (k * 6 + 1) (.int .i64 (x + 1))).setOther kQ (k * 6 + 2) (.int .i64 (x + 1 + 1))
   have t3 : Touch (fun y => B <= y /\ y < s) W (((wr.setCell ⟨B, k * 6, none⟩ (.int .i64 x)).setCell ⟨B, k * 6 + 1, none⟩ (.int .i64 (x + 1))).setCell ⟨B, k * 6 + 2, none⟩ (.int .i64 (x + 1 + 1))) := ((mk.t.setCell (B := B) ⟨qC _, by omega⟩ _).setCell (B := B) ⟨qC _, by omega⟩ _).setCell (B := B) ⟨qC _, by omega⟩ _
   have o3 : ∀ i, k + 1 <= i -> i < N -> Blk (((wr.setCell ⟨B, k * 6, none⟩ (.int .i64 x)).setCell ⟨B, k * 6 + 1, none⟩ (.int .i64 (x + 1))).setCell ⟨B, k * 6 + 2, none⟩ (.int .i64 (x + 1 + 1))) (p i) (gs[i]?.getD noLV).f.C /\ Blk (((wr.setCell ⟨B, k * 6, none⟩ (.int .i64 x)).setCell ⟨B, k * 6 + 1, none⟩ (.int .i64 (x + 1))).setCell ⟨B, k * 6 + 2, none⟩ (.int .i64 (x + 1 + 1))) (q i) (gs[i]?.getD noLV).f.D := fun i hi hiN => by
    obtain ⟨o1, o2⟩ := mk.o i (by omega) hiN
    obtain ⟨j1, j2⟩ := HJ.out i hi hiN
    have n1 : p i ≠ B := by omega
    have n2 : q i ≠ B := by omega
    exact ⟨((o1.setOther n1 _ _).setOther n1 _ _).setOther n1 _ _, ((o2.setOther n2 _ _).setOther n2 _ _).setOther n2 _ _⟩
   have O3 : Hid _ := o3
   clear o3 bC bD mk hx
   go_wp2_with fail
   obtain ⟨w0, hw0⟩ : ∃ w0, w0 = (((wr.setCell ⟨B, k * 6, none⟩ (.int .i64 x)).setCell ⟨B, k * 6 + 1, none⟩ (.int .i64 (x + 1))).setCell ⟨B, k * 6 + 2, none⟩ (.int .i64 (x + 1 + 1))) := ⟨_, rfl⟩
   rw [<- hw0] at c3 bC3 bD3 t3 O3 ⊢
   clear hw0 y0 y1 y2 y3 f0 f1 f2 hcur
   refine (mark_any (p k) gC (.inr ⟨rfl, bC3⟩) lC n1 (by omega) (by omega)).mono ?_
   rintro ee w1 ⟨rfl, t1, -⟩
   have c4 := c3.touch t1 (by omega)
   have z3 : ((((cur.set (k * 6) (.int .i64 x)).set (k * 6 + 1) (.int .i64 (x + 1))).set (k * 6 + 2) (.int .i64 (x + 1 + 1)))).length = N * 6 := by simp [hsz]
   have H3 : Hid (∀ i, i < N -> ((((cur.set (k * 6) (.int .i64 x)).set (k * 6 + 1) (.int .i64 (x + 1))).set (k * 6 + 2) (.int .i64 (x + 1 + 1))))[i * 6 + 3]? = some (.slice (gs[i]?.getD noLV).f.a (gs[i]?.getD noLV).f.n (gs[i]?.getD noLV).f.cap) /\ ((((cur.set (k * 6) (.int .i64 x)).set (k * 6 + 1) (.int .i64 (x + 1))).set (k * 6 + 2) (.int .i64 (x + 1 + 1))))[i * 6 + 4]? = some (.slice (gs[i]?.getD noLV).f.c (gs[i]?.getD noLV).f.m (gs[i]?.getD noLV).f.cap')) := fun i hi => by
    rw [qB (by omega), qB (by omega), qB (by omega), qB (by omega), qB (by omega), qB (by omega)]
    exact HCS.out i hi
   have y4 : w1.cell? ⟨B, k * 6 + 4, none⟩ = some (.slice (some ⟨q k, 0, none⟩) gm gcap') := (c4.cell _).trans (by
    rw [qB (by omega), qB (by omega), qB (by omega)]; exact hc.2)
   have bD1 : OwnAt w1 (some ⟨q k, 0, none⟩) (q k) gD := OwnAt.touch (.inr ⟨rfl, bD3⟩) t1 (by omega)
   clear c3 hc HCS
   generalize ((cur.set (k * 6) (.int .i64 x)).set (k * 6 + 1) (.int .i64 (x + 1))).set (k * 6 + 2) (.int .i64 (x + 1 + 1)) = cu at *
   go_wp2_with fail
   refine (mark_any (q k) gD bD1 lD m1 (by omega) (by omega)).mono ?_
   rintro ee w2 ⟨rfl, t2, -⟩
   have c5 := c4.touch t2 (by omega)
   obtain ⟨v5, hv5⟩ : ∃ v, w2.cell? ⟨B, k * 6 + 5, none⟩ = some v := ⟨_, (c5.cell (k * 6 + 5)).trans (qA (by rw [z3]; omega))⟩
   have f5 := c5.free (k * 6 + 5)
   have M2 : MKL W B N s (k + 1) gs p q (w2.setCell ⟨B, k * 6 + 5, none⟩ (.int .i64 (x + 1 + 1 + 1 + gn + gm))) := by
    have T12 : Touch (fun y => B <= y /\ y < s) W w2 := (t3.trans (t1.mono fun y hy => by omega)).trans (t2.mono fun y hy => by omega)
    refine ⟨⟨_, c5.set (k * 6 + 5) _, by simp [z3], fun i hi => ?_⟩, fun i hi hiN => ?_, T12.setCell (B := B) ⟨qC _, by omega⟩ _⟩
    ·rw [qB (by omega), qB (by omega)]
     exact H3.out i hi
    ·obtain ⟨o1, o2⟩ := O3.out i hi hiN
     obtain ⟨j1, j2⟩ := HJ.out i hi hiN
     have e1 : Blk w2 (p i) (gs[i]?.getD noLV).f.C := by
      unfold Blk at *; rw [t2.block _ (Nat.lt_of_lt_of_le (lt_of_block o1) t1.size) (by omega), t1.block _ (lt_of_block o1) (by omega)]; exact o1
     have e2 : Blk w2 (q i) (gs[i]?.getD noLV).f.D := by
      unfold Blk at *; rw [t2.block _ (Nat.lt_of_lt_of_le (lt_of_block o2) t1.size) (by omega), t1.block _ (lt_of_block o2) (by omega)]; exact o2
     exact ⟨e1.so, e2.so⟩
   clear bC3 bD3 bD1 c4 c5 t1 t2 t3 y4 H3 O3
   go_wp2
   go_roundw
   case rel => exact ⟨k + 1, by omega, by go_num, _, rfl, by omega, by omega, M2⟩
   case measure => simp [intOf]; omega
  ·go_wp2
   go_ret
   obtain rfl : k = N := by omega
   exact ⟨x, rfl, hx0, hx1, mk.t⟩
theorem LK.from {lo' : Nat} {s : L2V} (h : LK w lo s) (hr : InR lo' hi s) : LK w lo' s := by
 obtain ⟨B, l, p, q, h1, h2, h3⟩ := h
 exact ⟨B, l, p, q, h1, (hr.1 B h1).1, h3⟩
theorem markL2_any (B N cap : Nat) (ts : List L2V) (c : Nat -> Nat) (k0 : Int) {W : World} (h : ML2 W B N ts) (hN : ts.length = N) (hN1 : N <= 1048576) (c0 : B < c 0) (hc : ∀ i, i < N -> c i <= c (i + 1) /\ InR (c i) (c (i + 1)) (ts[i]?.getD noL)) (hk0 : 0 <= k0) (hk1 : k0 <= 1000) :
  Calls Tryz.prog 93 #[.slice (some ⟨B, 0, none⟩) N cap, .int .i64 k0] W fun e w' => ∃ r, e = .returned (.int .i64 r) /\ 0 <= r /\ r <= k0 + N * 2199027449856 /\ Touch (fun x => B < x /\ x < c N) W w' := by
 have HC : Hid _ := hc
 have HN : Hid (ts.length = N) := hN
 have HM : Hid (ML2 W B N ts) := h
 have HL := h.lt
 clear hc hN h
 go_enter Tryz.func93, Tryz.ntmps93
 go_wp2_with fail
 go_loopw [1, 5] (fun kv i wr => ∃ k : Nat, k <= N /\ i = .int .i64 k /\ ∃ x : Int, kv = .int .i64 x /\ 0 <= x /\ x <= k0 + k * 2199027449856 /\ B < c k /\ Touch (fun x => B < x /\ x < c k) W wr) (fun _ i _ => N - (intOf i).toNat)
 case atStart => exact ⟨0, qD _, rfl, k0, rfl, hk0, by omega, c0, Touch.refl _ _⟩
 case round =>
  obtain ⟨k, hk, rfl, x, rfl, hx0, hx1, hck, t⟩ := hrel
  by_cases hlt : k < N
  ·obtain ⟨d1, d2⟩ := HC.out k hlt
   obtain ⟨vs, v1, v2, v3⟩ := HM.out.c
   have hK : LK wr (c k) (ts[k]?.getD noL) := ((HM.out.l k (by rw [HN.out]; exact hlt)).from d2).touch t (fun x hx => hx.2)
   have hv := (v1.touch t (fun hx => Nat.lt_irrefl _ hx.1)).cell k
   rw [v3 k (by rw [HN.out]; exact hlt)] at hv
   generalize HG : ts[k]?.getD noL = g at *
   clear HG v1 v3
   obtain ⟨ga, gn, gcap, gx⟩ := g
   obtain ⟨B', l', p', q', e1, e2, e3, e4, e5⟩ := hK
   simp only at e1 e3 e4 e5
   subst e1
   have hv' : wr.cell? ⟨B, k, none⟩ = some (.slice (some ⟨B', 0, none⟩) gn gcap) := hv
   have hq : ∀ i, i < gn -> q' i < c (k + 1) := fun i hi => by
    obtain ⟨_, a3, _⟩ := e3.l i (by omega)
    exact d2.2 i (by show i < gx.length; omega) _ a3
   have hB' := (d2.1 B' rfl).2
   have HQ : Hid _ := hq
   clear hq hv d2
   go_wp2_with fail
   refine (markLS_any B' l' gn gcap (c (k + 1)) gx p' q' x e3 e4 e5 hx0 (by omega) hB' HQ.out).mono ?_
   rintro ee w1 ⟨r, rfl, r0, r1, t1⟩
   have t2 : Touch (fun x => B < x /\ x < c (k + 1)) W w1 := (t.mono fun y hy => by omega).trans (t1.mono fun y hy => by omega)
   clear t t1 e3
   go_wp2
   go_roundw
   case rel => exact ⟨k + 1, by omega, by go_num, _, rfl, r0, by omega, by omega, t2⟩
   case measure => simp [intOf]; omega
  ·go_wp2
   go_ret
   obtain rfl : k = N := by omega
   exact ⟨x, rfl, hx0, hx1, t⟩
theorem markPb_any {cl : Int} {B1 B2 gc B3 sn sc : Nat} (ts : List L2V) (G S : List Int) (c : Nat -> Nat) {W : World} (h : ML2 W B1 N ts) (hN : ts.length = N) (hN1 : N <= 1048576) (c0 : B1 < c 0) (cN : c N <= B2) (hc : ∀ i, i < N -> c i <= c (i + 1) /\ InR (c i) (c (i + 1)) (ts[i]?.getD noL)) (hG : Blk W B2 G) (lG : G.length = gn) (zG : gn <= 1048576) (hS : Blk W B3 S) (lS : S.length = sn) (zS : sn <= 1048576) (h23 : B2 < B3) :
  Calls Tryz.prog 34 #[plV cl (some ⟨B1, 0, none⟩) N cap (some ⟨B2, 0, none⟩) gn gc (some ⟨B3, 0, none⟩) sn sc, .int .i64 1] W fun e w' => ∃ r, e = .returned (.int .i64 r) /\ 0 <= r /\ r <= 2400000000000000000 /\ Touch (fun x => B1 < x /\ x <= B3) W w' := by
 have HC : Hid _ := hc
 clear hc
 have l2 := hG.lt
 have l3 := hS.lt
 have n0 := Cel.new W [.int .i64 cl, .slice (some ⟨B1, 0, none⟩) N cap, .slice (some ⟨B2, 0, none⟩) gn gc, .slice (some ⟨B3, 0, none⟩) sn sc] 41
 have hcN : c 0 <= c N := by
  have : ∀ i, i <= N -> c 0 <= c i := fun i => by
   induction i with
   | zero => intro _; exact qC _
   | succ i ih => intro hi; exact Nat.le_trans (ih (by omega)) (HC.out i (by omega)).1
  exact this N (qC _)
 go_enter Tryz.func34, Tryz.ntmps34
 go_wp2_with fail
 refine (markL2_any B1 N cap ts c 1 (h.below (bal)) hN hN1 c0 HC.out (by omega) (by omega)).mono ?_
 rintro e w1 ⟨r, rfl, r0, r1, t1⟩
 have T1 : Touch (fun x => B1 < x /\ x <= B3) W w1 := (Touch.of (bal)).trans (t1.mono fun y hy => by omega)
 have n1 := n0.touch t1 (fun h => by have := h.2; omega)
 have g1 : OwnAt w1 (some ⟨B2, 0, none⟩) B2 G := OwnAt.touch (.inr ⟨rfl, hG.alloc _⟩) t1 (by omega)
 have s1 : OwnAt w1 (some ⟨B3, 0, none⟩) B3 S := OwnAt.touch (.inr ⟨rfl, hS.alloc _⟩) t1 (by omega)
 clear n0 t1 h
 obtain ⟨a0, a1, a2, a3⟩ := n1.quadP
 go_wp2_with fail
 refine (mark_any B2 G g1 lG zG r0 (by omega)).mono ?_
 rintro e w2 ⟨rfl, t2, -⟩
 have T2 := T1.trans (t2.mono (T := fun x => B1 < x /\ x <= B3) fun y hy => by omega)
 have n2 := n1.touch t2 (fun h => by have := h.1; omega)
 have s2 : OwnAt w2 (some ⟨B3, 0, none⟩) B3 S := s1.touch t2 (by omega)
 clear n1 t2 g1 s1 T1 a0 a1 a2 a3
 obtain ⟨a0, a1, a2, a3⟩ := n2.quadP
 go_wp2_with fail
 refine (mark_any B3 S s2 lS zS (by omega) (by omega)).mono ?_
 rintro e w3 ⟨rfl, t3, -⟩
 have T3 := T2.trans (t3.mono (T := fun x => B1 < x /\ x <= B3) fun y hy => by omega)
 clear t3 s2 T2 n2 a0 a1 a2 a3
 go_wp2
 go_ret
 exact ⟨_, rfl, by omega, by omega, T3⟩
theorem sameD_trans {h : DV} (p : sameD f g) (q : sameD g h) : sameD f h := by
 obtain ⟨a0, a1, a2, -⟩ := p
 obtain ⟨b0, b1, b2, -⟩ := q
 exact ⟨a0.trans b0, a1.trans b1, a2.trans b2, trivial⟩
theorem sameD_symm (p : sameD f g) : sameD g f := by
 obtain ⟨a0, a1, a2, -⟩ := p
 exact ⟨a0.symm, a1.symm, a2.symm, trivial⟩
theorem sameD_of (p : copiesD f g) : sameD f g := by
 obtain ⟨a0, a1, a2, -⟩ := p
 exact ⟨a0.symm, a1.symm, a2.2.symm, trivial⟩
theorem sameQ_trans {f g h : QV} (p : sameQ f g) (q : sameQ g h) : sameQ f h := by
 obtain ⟨a0, a1, a2, a3, -⟩ := p
 obtain ⟨b0, b1, b2, b3, -⟩ := q
 exact ⟨a0.trans b0, a1.trans b1, a2.trans b2, a3.trans b3, trivial⟩
theorem sameQ_symm {f g : QV} (p : sameQ f g) : sameQ g f := by
 obtain ⟨a0, a1, a2, a3, -⟩ := p
 exact ⟨a0.symm, a1.symm, a2.symm, a3.symm, trivial⟩
theorem sameQ_of {f g : QV} (p : copiesQ f g) : sameQ f g := by
 obtain ⟨a0, a1, a2, a3, -⟩ := p
 exact ⟨a0.symm, a1.symm, a2.symm, a3.2.symm, trivial⟩
theorem sameG_trans {f g h : GV} (p : sameG f g) (q : sameG g h) : sameG f h := by
 obtain ⟨a0, a1, a2, -⟩ := p
 obtain ⟨b0, b1, b2, -⟩ := q
 exact ⟨a0.trans b0, a1.trans b1, a2.trans b2, trivial⟩
theorem sameG_symm {f g : GV} (p : sameG f g) : sameG g f := by
 obtain ⟨a0, a1, a2, -⟩ := p
 exact ⟨a0.symm, a1.symm, a2.symm, trivial⟩
theorem sameG_of {f g : GV} (p : copiesG f g) : sameG f g := by
 obtain ⟨a0, a1, a2, -⟩ := p
 exact ⟨a0.symm, a1.2.symm, a2.2.symm, trivial⟩
theorem fallD {xs ys ts : List DV} (hl : ys.length = n) (c : copiesDS xs ys) (h : ∀ i, i < faN ok n -> sameD ((faL ok ys)[i]?.getD noD) (ts[i]?.getD noD)) : ∀ i, i < faN ok n -> sameD ((faL ok xs)[i]?.getD noD) (ts[i]?.getD noD) := fun i hi => by
 cases ok
 ·simp [faN] at hi
 ·have h1 := h i hi
  simp only [faN, faL, if_true] at hi h1 ⊢
  exact sameD_trans (sameD_of (c i (by omega))) h1
theorem fallQ {xs ys ts : List QV} (hl : ys.length = n) (c : copiesQS xs ys) (h : ∀ i, i < faN ok n -> sameQ ((faL ok ys)[i]?.getD noQ) (ts[i]?.getD noQ)) : ∀ i, i < faN ok n -> sameQ ((faL ok xs)[i]?.getD noQ) (ts[i]?.getD noQ) := fun i hi => by
 cases ok
 ·simp [faN] at hi
 ·have h1 := h i hi
  simp only [faN, faL, if_true] at hi h1 ⊢
  exact sameQ_trans (sameQ_of (c i (by omega))) h1
theorem fallG {sm : Bool} {xs ys ts : List GV} (hl : ys.length = n) (c : copiesGS xs ys) (h : ∀ i, i < faN ok n -> sameG ((faG ok sm n ys)[i]?.getD noG) (ts[i]?.getD noG)) : ∀ i, i < faN ok n -> sameG ((faG ok sm n xs)[i]?.getD noG) (ts[i]?.getD noG) := fun i hi => by
 cases ok
 ·simp [faN] at hi
 ·have h1 := h i hi
  cases sm
  ·exact h1
  ·simp only [faN, faG, if_true] at hi h1 ⊢
   exact sameG_trans (sameG_of (c i (by omega))) h1
structure Let (u : Bool) (r : Int) (bn : Nat) (bx : List Int) (dn : Nat) (dx : List DV) (kn : Nat) (kx : List QV) (en : Nat) (ex : List GV) (up ok : Bool) (U : Bool) (R : Int) (nb : Nat) (LB : List Int) (nd : Nat) (LD : List DV) (nk : Nat) (LK : List QV) (ne : Nat) (LG : List GV) : Prop where
 U : U = (ok && up)
 R : R = if ok then r else 0
 nb : nb = faN ok bn
 LB : LB = faL ok bx
 nd : nd = faN ok dn
 LD : LD = faL ok dx
 nk : nk = faN (ok && u == up) kn
 LK : LK = faL (ok && u == up) kx
 ne : ne = faN ok en
 LG : LG = faG ok (u == up) en ex
theorem Let.mk' (u : Bool) (r : Int) (bn : Nat) (bx : List Int) (dn : Nat) (dx : List DV) (kn : Nat) (kx : List QV) (en : Nat) (ex : List GV) (up ok : Bool) (zb : bn <= 1048576) (zd : dn <= 1048576) (zk : kn <= 1048576) (ze : en <= 1048576) : ∃ U R nb LB nd LD nk LK ne LG, Let u r bn bx dn dx kn kx en ex up ok U R nb LB nd LD nk LK ne LG /\ nb <= 1048576 /\ nd <= 1048576 /\ nk <= 1048576 /\ ne <= 1048576 := by
 have f : ∀ (b : Bool) (n : Nat), faN b n <= n := fun b n => by cases b <;> simp [faN]
 have h1 := f ok bn
 have h2 := f ok dn
 have h3 := f (ok && u == up) kn
 have h4 := f ok en
 exact ⟨_, _, _, _, _, _, _, _, _, _, ⟨rfl, rfl, rfl, rfl, rfl, rfl, rfl, rfl, rfl, rfl⟩, by omega, by omega, by omega, by omega⟩
theorem SFall.get {yd : List DV} {yk : List QV} {ye : List GV} {up U : Bool} {R : Int} {nb : Nat} {LB : List Int} {nd : Nat} {LD : List DV} {nk : Nat} {LK : List QV} {ne : Nat} {LG : List GV} {e : Ending} (L : Let u r bn bx dn dx kn kx en ex up ok U R nb LB nd LD nk LK ne LG) (h : SFall u r bn bx dn yd kn yk en ye up ok w e w') (hd : yd.length = dn) (cd : copiesDS dx yd) (hk : yk.length = kn) (ck : copiesQS kx yk) (he : ye.length = en) (ce : copiesGS ex ye) :
  ∃ (ba : Option Addr) (cb : Nat) (da : Option Addr) (cd : Nat) (ds : List DV) (ka : Option Addr) (ck : Nat) (ks : List QV) (ea : Option Addr) (cg : Nat) (gs : List GV), e = .returned (ckV U R ba nb cb da nd cd ka nk ck ea ne cg) /\ Below w.heap.size w w' /\ (∀ (S : Nat -> Prop) (W : World), Touch S w' W -> (∀ x, S x -> x < w.heap.size \/ w'.heap.size <= x) -> CkAt W ba nb LB da nd ds ka nk ks ea ne gs) /\ (∀ i, i < nd -> sameD (LD[i]?.getD noD) (ds[i]?.getD noD)) /\ (∀ i, i < nk -> sameQ (LK[i]?.getD noQ) (ks[i]?.getD noQ)) /\ ∀ i, i < ne -> sameG (LG[i]?.getD noG) (gs[i]?.getD noG) := by
 obtain ⟨e1, e2, e3, e4, e5, e6, e7, e8, e9, e10⟩ := L
 subst e1 e2 e3 e4 e5 e6 e7 e8 e9 e10
 obtain ⟨ba, cb, da, cd', ds, ka, ck', ks, ea, cg, gs, h1, h2, h3, h4, h5, h6⟩ := h
 exact ⟨ba, cb, da, cd', ds, ka, ck', ks, ea, cg, gs, h1, h2, h3, fallD hd cd h4, fallQ hk ck h5, fallG he ce h6⟩
theorem IFall.get {yd : List DV} {yk : List QV} {ye : List GV} {up U : Bool} {R : Int} {nb : Nat} {LB : List Int} {nd : Nat} {LD : List DV} {nk : Nat} {LK : List QV} {ne : Nat} {LG : List GV} {e : Ending} (L : Let u r bn bx dn dx kn kx en ex up ok U R nb LB nd LD nk LK ne LG) (h : IFall u r bn bx dn yd kn yk en ye up ok w e w') (hd : yd.length = dn) (cd : copiesDS dx yd) (hk : yk.length = kn) (ck : copiesQS kx yk) (he : ye.length = en) (ce : copiesGS ex ye) :
  ∃ (ba : Option Addr) (cb B : Nat) (da : Option Addr) (cd G1 : Nat) (ds : List DV) (b1 : Nat -> Nat) (ka : Option Addr) (ck G2 : Nat) (ks : List QV) (b2 : Nat -> Nat) (ea : Option Addr) (cg G3 : Nat) (gs : List GV) (b3 b4 : Nat -> Nat) (n1 n2 n3 n4 : Nat), e = .returned (ckV U R ba nb cb da nd cd ka nk ck ea ne cg) /\ Below w.heap.size w w' /\ n4 <= w'.heap.size /\ CkL w' ba B nb LB da G1 nd (fun i => ds[i]?.getD noD) b1 ka G2 nk (fun i => ks[i]?.getD noQ) b2 ea G3 ne (fun i => gs[i]?.getD noG) b3 b4 w.heap.size n1 n2 n3 n4 /\ ds.length = nd /\ (∀ i, i < nd -> sameD (LD[i]?.getD noD) (ds[i]?.getD noD)) /\ ks.length = nk /\ (∀ i, i < nk -> sameQ (LK[i]?.getD noQ) (ks[i]?.getD noQ)) /\ gs.length = ne /\ ∀ i, i < ne -> sameG (LG[i]?.getD noG) (gs[i]?.getD noG) := by
 obtain ⟨e1, e2, e3, e4, e5, e6, e7, e8, e9, e10⟩ := L
 subst e1 e2 e3 e4 e5 e6 e7 e8 e9 e10
 obtain ⟨ba, cb, B, da, cd', G1, ds, b1, ka, ck', G2, ks, b2, ea, cg, G3, gs, b3, b4, n1, n2, n3, n4, h1, h2, h3, h4, h5, h6, h7, h8, h9, h10⟩ := h
 exact ⟨ba, cb, B, da, cd', G1, ds, b1, ka, ck', G2, ks, b2, ea, cg, G3, gs, b3, b4, n1, n2, n3, n4, h1, h2, h3, h4, h5, fallD hd cd h6, h7, fallQ hk ck h8, h9, fallG he ce h10⟩
theorem Touch.cut {S : Nat -> Prop} {v : World} (t : Touch S v W) : ∃ v', v'.heap.size = v.heap.size /\ Touch S v v' /\ Below v'.heap.size v' W := by
 have hs := t.size
 have e : (W.heap.extract 0 v.heap.size).size = v.heap.size := by simp; omega
 have g : ∀ k, k < v.heap.size -> (W.heap.extract 0 v.heap.size)[k]? = W.heap[k]? := fun k hk => by
  rw [Array.getElem?_extract]
  simp
  omega
 refine ⟨{ W with heap := W.heap.extract 0 v.heap.size }, e, ⟨t.os, t.tape, t.output, by rw [e]; exact qC _, fun k hk hn => ?_⟩, ⟨rfl, rfl, rfl, by show (W.heap.extract 0 v.heap.size).size <= _; rw [e]; exact hs, fun k hk => ?_⟩⟩
 ·show (W.heap.extract 0 v.heap.size)[k]? = _
  rw [g k hk]
  exact t.block k hk hn
 ·have hk : k < (W.heap.extract 0 v.heap.size).size := hk
  rw [e] at hk
  exact (g k hk).symm
theorem Blk.touch {S : Nat -> Prop} {zs : List Int} (h : Blk w B zs) (t : Touch S w w') (hn : ¬ S B) : Blk w' B zs := by
 have hl := h.lt
 unfold Blk at *
 rw [t.block B hl hn]
 exact h
end Go.Proofs.YtacfoeekmcnpjaaGreatDoor
