/-
  All ways through an act from a line on (spec.l3Walk). No condition but that the act is ok.
-/
import Derived.Test.YtfmpcihghlnlnaaGreatDoorQO
namespace Go.Proofs.YtfmpcihghlnlnaaGreatDoor
open Go.RowKit Go.Deep
open Option.some renaming injEq → qA
open World renaming size_alloc → qB
open List renaming length_append → qE, length_cons → qF, length_nil → qG
set_option linter.unusedVariables false
set_option maxRecDepth 100000
set_option maxHeartbeats 25600000
variable {G cap n : Nat} {W w : World} {rs : List RowM} {xs : List Value}
theorem goW_stop {ls : List LV} {f i : Nat} {y : Way} {g : LV} (hi : i < ls.length) (hf : 0 < f) (hg : ls[i]?.getD noLV = g) (h1 : ¬ g.kind = 1) (h2 : ¬ g.kind = 2) (h3 : ¬ g.kind = 3) : goW ls f i y = [stopW y] := by
 obtain ⟨f, rfl⟩ : ∃ f', f = f' + 1 := ⟨f - 1, by omega⟩
 rw [goW, if_pos hi, hg, if_neg h1, if_neg h2, if_neg h3]
theorem FOff.noForms {S : Nat -> Prop} {a : Option Addr} : FOff W S a [] := fun W' t i hi => by simp at hi
theorem lineW {k p z : Int} {m : Nat} {C D : List Int} {K : Int} (h : lineB k p z n m C D K = true) (h4 : ¬ k = 4) : smallB n m C D K = true /\ (k = 1 \/ k = 2 \/ k = 3) /\ (k = 1 -> 1 <= z /\ z <= 6) /\ (k = 2 -> 0 <= p /\ p < 3) := by
 by_cases h1 : k = 1
 ·subst h1;simp [lineB] at h;have := inB_iff.1 h.1.2
  exact ⟨h.2, Or.inl rfl, fun _ => this, fun e => by omega⟩
 by_cases h2 : k = 2
 ·subst h2;simp [lineB] at h;have := inB_iff.1 h.1.1
  exact ⟨h.2, Or.inr (Or.inl rfl), fun e => by omega, fun _ => ⟨this.1, by omega⟩⟩
 by_cases h3 : k = 3
 ·subst h3;simp [lineB] at h
  exact ⟨h.2, Or.inr (Or.inr rfl), fun e => by omega, fun e => by omega⟩
 simp [lineB, h1, h2, h3, h4] at h
theorem TermsOk.ext {T T' : List Frm} (h : TermsOk W G xs T n) (e : ∀ j, j < n -> T'[j]?.getD ([], [], 0) = T[j]?.getD ([], [], 0)) : TermsOk W G xs T' n := fun j hj => by
 obtain ⟨a', c', ca, cc, e0, e1, e2, i1, i2, n1, n2⟩ := h j hj;rw [e j hj]
 exact ⟨a', c', ca, cc, e0, e1, e2, i1, i2, n1, n2⟩
theorem JF.snoc {W' : World} {fs : List Frm} {g cp B1 B2 ca cc : Nat} {C D : List Int} {K : Int} (j : JF w G cap n xs fs W) (hn : fs.length = n) (hown : W'.ownsRow w.heap.size 106 3 (.slice (some ⟨g, 0, none⟩) (n + 1) cp) (n + 1) (xs ++ [.slice (some ⟨B1, 0, none⟩) 3 ca, .slice (some ⟨B2, 0, none⟩) 2 cc, .int .i64 K])) (hgrow : W.grownBy W' (some G)) {H : Nat} (hat : some G = some g \/ g = H) (hH : W.heap.size = H)
  (k1 : Ints W (some ⟨B1, 0, none⟩) 3 C) (k2 : Ints W (some ⟨B2, 0, none⟩) 2 D) (n1 : B1 ≠ G) (n2 : B2 ≠ G) : Below w.heap.size w W' /\ FormsAt W' (some ⟨g, 0, none⟩) (fs ++ [(C, D, K)]) := by
 have hG := j.lt
 have hat' : g = G \/ W.heap.size <= g := by
  rcases hat with h | h
  ·simp only [qA] at h; exact Or.inl h.symm
  exact Or.inr (by omega)
 have t1 : TermsOk W G xs (fs ++ [(C, D, K)]) n := j.t.ext (fun i hi => by rw [List.getElem?_append_left (by omega)]);have t2 := t1.step j.o.1 hgrow hat' (ca := ca) (cc := cc) (K := K) k1 k2 n1 n2 (by rw [List.getElem?_append_right (by omega), hn, Nat.sub_self]; rfl)
 exact ⟨j.b.grown hgrow j.b.size (fun z hz => by simp only [qA] at hz; omega), t2.forms (by rw [qE, hn]; rfl) hown⟩
theorem JR.one {r : RowM} {ga aa ta : Option Addr} {gc ac tc : Nat} (hb : Below w.heap.size w W) (f0 : FOff W (fun k => k < w.heap.size) ga r.guards) (f1 : FOff W (fun k => k < w.heap.size) aa r.adds) (f2 : FOff W (fun k => k < w.heap.size) ta r.tells) (fo : RowOwn W (fun k => k < w.heap.size) ga gc aa ac ta tc r) :
  JR w W.heap.size 1 [.slice ga r.guards.length gc, .slice aa r.adds.length ac, .slice ta r.tells.length tc, .bool r.stop] [r] (W.alloc (.cells #[.slice ga r.guards.length gc, .slice aa r.adds.length ac, .slice ta r.tells.length tc, .bool r.stop] 113)) := by
 refine ⟨hb.alloc hb.size _, World.ownsRow_lit W #[.slice ga r.guards.length gc, .slice aa r.adds.length ac, .slice ta r.tells.length tc, .bool r.stop] 1 hb.size (by unfold maxLen; omega) rfl, fun j hj => ?_, fun j hj => ?_⟩
 ·simp only [qF, qG] at hj;obtain rfl : j = 0 := by omega
  exact ⟨ga, gc, aa, ac, ta, tc, rfl, rfl, rfl, rfl, f0.fresh _, f1.fresh _, f2.fresh _⟩
 simp only [qF, qG] at hj;obtain rfl : j = 0 := by omega
 exact ⟨ga, gc, aa, ac, ta, tc, rfl, rfl, rfl, rfl, fo.1.fresh _, fo.2.1.fresh _, fo.2.2.fresh _⟩
theorem JR.mono {w1 : World} (j : JR w1 G cap xs rs W) (h : Below w.heap.size w w1) : JR w G cap xs rs W := by
 refine ⟨btr h j.b, ⟨j.o.1, ?_⟩, j.r.map (fun _ _ f => f.mono (fun k hk => by have := h.size; omega)), j.u.map (fun _ _ _ _ f => f.mono (fun k hk => by
  have := h.size
  rcases hk with hk | hk
  ·exact Or.inl (by omega)
  exact Or.inr hk))⟩
 rcases j.o.2 with h2 | ⟨g, cp, cur, hv, hg, r⟩
 ·exact .inl h2
 exact .inr ⟨g, cp, cur, hv, Nat.le_trans h.size hg, r⟩
theorem JR.news (j : JR w G cap xs rs W) : ∀ i u, xs[i]? = some u -> W.cell? ((⟨G, 0, none⟩ : Addr).add i) = some u := fun i u hu => by
 have hl : i < xs.length := (List.getElem?_eq_some_iff.1 hu).1
 have hadd : (⟨G, 0, none⟩ : Addr).add i = ⟨G, i, none⟩ := by
  by_cases h0 : i = 0
  ·subst h0; simp [Addr.add]
  simp [Addr.add, h0]
 rw [hadd, own_cell j.o i (by have := j.o.1; omega), hu]
theorem JR.ones (j : JR w G cap xs rs W) : ∀ u ∈ xs, u.oneCell' = true := fun u hu => by
 obtain ⟨i, hx⟩ := List.mem_iff_getElem?.1 hu;have hi : i < xs.length := (List.getElem?_eq_some_iff.1 hx).1;have hlen := j.o.1;obtain ⟨ga, gc, aa, ac, ta, tc, e0, e1, e2, e3, _⟩ := j.r (i / 4) (by omega);have hm : i = i / 4 * 4 + i % 4 := by omega
 have h4 : i % 4 < 4 := Nat.mod_lt _ (by omega);rw [hm] at hx;generalize i % 4 = r at *;generalize i / 4 = d at *
 match r, h4 with
 | 0, _ => rw [Nat.add_zero, e0] at hx; simp only [qA] at hx; rw [<- hx]; rfl
 | 1, _ => rw [e1] at hx; simp only [qA] at hx; rw [<- hx]; rfl
 | 2, _ => rw [e2] at hx; simp only [qA] at hx; rw [<- hx]; rfl
 | 3, _ => rw [e3] at hx; simp only [qA] at hx; rw [<- hx]; rfl
theorem JF.frz {fs : List Frm} (j : JF w G cap n xs fs W) (i : Nat) : W.frozen? ⟨G, i, none⟩ = false := by
 rcases j.o.2 with ⟨h, _⟩ | ⟨g, cap', cur, h, hg, hh, _⟩
 ·cases h
 simp only [Value.slice.injEq, qA, Addr.mk.injEq, and_true, true_and] at h;obtain ⟨rfl, _⟩ := h;have : Cel W G cur.toList 106 := by unfold Cel; simpa using hh
 exact this.free i
theorem Tryz.infoRow : (Tryz.prog.info? 113).map (fun i => (i.zero, i.size, i.bytes)) = some (some (.agg #[.slice none 0 0, .slice none 0 0, .slice none 0 0, .bool false]), 4, 80) := by kernel_rfl
theorem swalk_any (ad : Option Addr) (N cap : Nat) (ls : List LV) (hN : ls.length = N) (h6 : N <= 6) (hall : ls.all LV.ok = true) (f : Nat) :
  ∀ (i0 : Nat) (y : Way) (pa : Option Addr) (cp : Nat) (ga : Option Addr) (ng gc : Nat) (ta : Option Addr) (nt tc : Nat) (w : World), f <= 7 -> N <= i0 + f -> i0 <= 12 -> WayOk i0 y -> y.guards.length = ng -> y.tells.length = nt -> LinesG w ad ls -> FormsAt w pa y.pots -> FormsAt w ga y.guards -> FormsAt w ta y.tells ->
  Calls Tryz.prog 95 #[.slice ad N cap, .int .i64 (i0 : Int), .slice pa 3 cp, .slice ga ng gc, .slice ta nt tc] w fun e w' => ∃ G cp' xs, e = .returned (.slice (some ⟨G, 0, none⟩) (goW ls f i0 y).length cp') /\ JR w G cp' xs (goW ls f i0 y) w' := by
 induction f using Nat.strongRecOn with
 | _ f ih =>
 intro i0 y pa cp ga ng gc ta nt tc w hf hfu hi0 hy hg ht hF hP hG hT;have IH : Hid _ := ih;have HN : Hid (ls.length = N) := hN;have HO : Hid (ls.all LV.ok = true) := hall;have HY : Hid (WayOk i0 y) := hy;have HGL : Hid (y.guards.length = ng) := hg;have HTL : Hid (y.tells.length = nt) := ht;clear ih hN hall hy hg ht;obtain ⟨zi, hi, hz0, hz1, hz2⟩ := info_parts Tryz.infoForm
 go_enter Tryz.func95, Tryz.ntmps95
 go_wp2_with fail
 go_loopw [2, 4, 11, 12, 13] (fun p t i _ _ wr => ∃ (k g : Nat) (z : Way) (pa : Option Addr) (cp : Nat) (ta : Option Addr) (nt tc : Nat), k <= 12 /\ i = .int .i64 k /\ p = .slice pa 3 cp /\ t = .slice ta nt tc /\ z.tells.length = nt /\ z.guards = y.guards /\ g <= f /\ N <= k + g /\ goW ls f i0 y = goW ls g k z /\ WayOk k z /\ Below w.heap.size w wr /\ FormsAt wr pa z.pots /\ FormsAt wr ta z.tells) (fun _ _ i _ _ _ => 13 - (intOf i).toNat)
 case atStart => exact ⟨i0, f, y, pa, cp, ta, nt, tc, by omega, rfl, rfl, rfl, HTL.out, rfl, Nat.le_refl _, hfu, rfl, HY.out, Below.refl _ _, hP, hT⟩
 case round =>
  obtain ⟨k, g, z, pa, cp, ta, nt, tc, hk, rfl, rfl, rfl, hzt, hzg, hgf, hkg, heq, hz, hb, hPz, hTz⟩ := hrel;have HZT : Hid (z.tells.length = nt) := hzt;have HZG : Hid (z.guards = y.guards) := hzg;have HEQ : Hid (goW ls f i0 y = goW ls g k z) := heq;have HZ : Hid (WayOk k z) := hz;have hGz := hG.keep hb;have tl12 : nt <= 12 := by have := hz.tl; omega
  have gl12 : ng <= 12 := by have := HY.out.gl; rw [HGL.out] at this; omega
  have HGF : Hid _ := HY.out.gf;clear hzt hzg heq hz
  by_cases hlt : k < N
  ·obtain ⟨b, off, rfl, hc, hAtL⟩ := (hF.below hb) k (by rw [HN.out]; exact hlt)
   have hok : (ls[k]?.getD noLV).ok = true := by
    have hl : k < ls.length := by rw [HN.out]; exact hlt
    rw [List.getElem?_eq_getElem hl]
    exact List.all_eq_true.1 HO.out _ (List.getElem_mem hl)
   have hkl : Hid (k < ls.length) := by show k < ls.length; rw [HN.out]; exact hlt
   generalize HG : ls[k]?.getD noLV = q at *;have HG' : Hid (ls[k]?.getD noLV = q) := HG;clear HG;obtain ⟨e0, e1, e2, e3, e4, e5⟩ := six_of hc;clear hc;obtain ⟨qk, qp, qz, ⟨qa, qn, qcap, qc, qm, qcap', qK, qC, qD⟩⟩ := q;simp only at e0 e1 e2 e3 e4 e5;have hok' : lineB qk qp qz qn qm qC qD qK = true := hok;clear hok;have B1 : Below w.heap.size w (wr.alloc (.cells #[.int .i64 qk, .int .i64 qp, .int .i64 qz, .slice qa qn qcap, .slice qc qm qcap', .int .i64 qK] 123)) := hb.alloc hb.size _;have bx := Cel.new wr [.int .i64 qk, .int .i64 qp, .int .i64 qz, .slice qa qn qcap, .slice qc qm qcap', .int .i64 qK] 123;have A1 : Below wr.heap.size wr (wr.alloc (.cells #[.int .i64 qk, .int .i64 qp, .int .i64 qz, .slice qa qn qcap, .slice qc qm qcap', .int .i64 qK] 123)) := bal;have P1 := hPz.keep A1;have G1 := hGz.keep A1;have T1 := hTz.keep A1;have F1 := hAtL.below A1;have z1 : w.heap.size <= wr.heap.size := hb.size;clear A1 hPz hGz hTz hAtL
   by_cases hk4 : qk = 4
   ·subst hk4;have hrow : Hid (goW ls g k z = [stopW z]) := goW_stop hkl.out (by have := hkl.out; rw [HN.out] at this; omega) HG'.out (show ¬ (4 : Int) = 1 by decide) (show ¬ (4 : Int) = 2 by decide) (show ¬ (4 : Int) = 3 by decide);have FG : Hid (∀ j, j < ng -> fitX 10000000 (y.guards[j]?.getD ([], [], 0))) := fun j hj => HY.out.gf j (by rw [HGL.out]; exact hj)
    go_wp2_with fail
    refine (scopy_any y.guards HGL.out G1 FG.out (by omega)).mono ?_;rintro e w3 ⟨G3, cp3, xs3, rfl, j3⟩;have hb3 := btr B1 j3.b;have f0 := j3.foff HGL.out;have o0 := j3.fown;have q0 := j3.lt;rw [qB] at f0 o0 q0
    have o1 : RowOwn w3 (fun k => k < w.heap.size) (some ⟨G3, 0, none⟩) cp3 none 0 none 0 (stopW y) := by
     refine ⟨?_, FOwn.none, FOwn.none⟩;rw [show (stopW y).guards.length = ng from HGL.out];refine o0.mono (fun k hk => ?_)
     rcases hk with hk | ⟨o, s, e⟩ | ⟨o, s, e⟩
     ·omega
     ·cases e
     cases e
    have J := JR.one (w := w) (r := stopW y) (gc := cp3) (aa := none) (ac := 0) (ta := none) (tc := 0) hb3 (f0.mono (fun k hk => by omega)) FOff.noForms FOff.noForms o1;rw [show (stopW y).guards.length = ng from HGL.out] at J;clear j3 f0 o0 o1 q0 e0 e1 e2 e3 e4 e5
    go_wp2
    go_ret
    rw [HEQ.out, hrow.out, show stopW z = stopW y by simp only [stopW, HZG.out]]
    exact ⟨_, _, _, rfl, J⟩
   obtain ⟨hsm, hkk, hz16, hp3⟩ := lineW hok' hk4;have hk4' : (qk == 4) = false := by simp [hk4]
   obtain ⟨⟨XC, XD, XK⟩, hFX⟩ : ∃ FX, FX = intoX ⟨qa, qn, qcap, qc, qm, qcap', qK, qC, qD⟩ z.pots := ⟨_, rfl⟩
   obtain ⟨fit1, fit2, fit3⟩ := HZ.out.into (by omega) (f := ⟨qa, qn, qcap, qc, qm, qcap', qK, qC, qD⟩) hsm F1.D.1;rw [<- hFX] at fit1 fit2 fit3;have HFX : Hid (intoX ⟨qa, qn, qcap, qc, qm, qcap', qK, qC, qD⟩ z.pots = (XC, XD, XK)) := hFX.symm;clear hFX;have lXC : XC.length = 3 := fit2.c;have lXD : XD.length = 2 := fit2.d;have hg0 : 0 < g := by omega
   go_wp2_with fail
   refine (sintoW_any HZ.out (by omega) ⟨qa, qn, qcap, qc, qm, qcap', qK, qC, qD⟩ hsm F1 P1).mono ?_;rintro e w3 ⟨D1, D2, d1, d2, rfl, b3, y1, y2, y3, u1, u2⟩;rw [qB] at y1 y3;rw [show (intoX ⟨qa, qn, qcap, qc, qm, qcap', qK, qC, qD⟩ z.pots).1 = XC by rw [HFX.out]] at u1;rw [show (intoX ⟨qa, qn, qcap, qc, qm, qcap', qK, qC, qD⟩ z.pots).2.1 = XD by rw [HFX.out]] at u2;rw [show (intoX ⟨qa, qn, qcap, qc, qm, qcap', qK, qC, qD⟩ z.pots).2.2 = XK by rw [HFX.out]];have bx3 := bx.below b3;have B3 := btr B1 b3;have P3 := P1.keep b3;have T3 := T1.keep b3;have G3 := G1.keep b3;have l1 := u1.lt;have l2 := u2.lt;have s3 := b3.size;rw [qB] at s3;clear b3 P1 T1 G1 bx F1 e0 e1 e2 e3 e4 e5 hok' hsm;have fb := Cel.new w3 [.slice (some ⟨D1, 0, none⟩) 3 d1, .slice (some ⟨D2, 0, none⟩) 2 d2, .int .i64 XK] 106;have A4 : Below w3.heap.size w3 (w3.alloc (.cells #[.slice (some ⟨D1, 0, none⟩) 3 d1, .slice (some ⟨D2, 0, none⟩) 2 d2, .int .i64 XK] 106)) := bal;have B4 := btr B3 A4;have P4 := P3.keep A4;have T4 := T3.keep A4;have G4 := G3.keep A4;have v1 := u1.below A4;have v2 := u2.below A4;have bx4 := bx3.below A4;clear A4 B3 P3 T3 G3 u1 u2 bx3;obtain ⟨m0, m1, m2, m3, m4, m5⟩ := bx4.six
   rcases hkk with rfl | rfl | rfl
   ·obtain ⟨hs1, hs6⟩ := hz16 rfl;obtain ⟨sk, rfl⟩ : ∃ sk : Nat, qz = sk := ⟨qz.toNat, by omega⟩
    have hgo : Hid (goW ls g k z = goW ls (g - 1) (k + 1) (z.guard (XC, XD, XK)) ++ goW ls (g - 1) (k + 1 + sk) (z.guard (minusX (XC, XD, XK)))) := by
     obtain ⟨g', rfl⟩ : ∃ g', g = g' + 1 := ⟨g - 1, by omega⟩
     show goW ls (g' + 1) k z = _
     rw [goW, if_pos hkl.out, HG'.out];simp only [HFX.out]
     rfl
    have HW1 : Hid (WayOk (k + 1) (z.guard (XC, XD, XK))) := HZ.out.guard (by omega) fit2;have HW2 : Hid (WayOk (k + 1 + sk) (z.guard (minusX (XC, XD, XK)))) := HZ.out.guard (by omega) fit3;have FP : Hid (∀ j, j < 3 -> fitX 10000000 (z.pots[j]?.getD ([], [], 0))) := fun j hj => (HZ.out.pf j hj).mono (by have := wb_six (n := min k 6) (by omega); omega);have FG : Hid (∀ j, j < ng -> fitX 10000000 (y.guards[j]?.getD ([], [], 0))) := fun j hj => HY.out.gf j (by rw [HGL.out]; exact hj);have FT : Hid (∀ j, j < nt -> fitX 10000000 (z.tells[j]?.getD ([], [], 0))) := fun j hj => HZ.out.tf j (by rw [HZT.out]; exact hj);have HL1 : Hid ((z.guard (XC, XD, XK)).guards.length = ng + 1) := by show (z.guards ++ [_]).length = _; rw [qE, HZG.out, HGL.out]; rfl
    have HL2 : Hid ((z.guard (minusX (XC, XD, XK))).guards.length = ng + 1) := by show (z.guards ++ [_]).length = _; rw [qE, HZG.out, HGL.out]; rfl
    have bXC : bnd 10000000 XC := fit2.bc;have bXD : bnd 10000000 XD := fit2.bd;have bX1 : -10000000 <= XK := fit2.k1;have bX2 : XK <= 10000000 := fit2.k2;obtain ⟨R1, hR1⟩ : ∃ R, R = goW ls (g - 1) (k + 1) (z.guard (XC, XD, XK)) := ⟨_, rfl⟩
    obtain ⟨R2, hR2⟩ : ∃ R, R = goW ls (g - 1) (k + 1 + sk) (z.guard (minusX (XC, XD, XK))) := ⟨_, rfl⟩
    have q1 : R1.length <= 128 := by rw [hR1]; exact goW_128 (by omega)
    have q2 : R2.length <= 128 := by rw [hR2]; exact goW_128 (by omega)
    have q3 : 0 < R2.length := by rw [hR2]; exact goW_ne _ _
    have HR1 : Hid _ := hR1;have HR2 : Hid _ := hR2;have HGO : Hid (goW ls f i0 y = R1 ++ R2) := by show _ = _; rw [HEQ.out, hgo.out, hR1, hR2]
    have C1 : Hid (∀ (pa' : Option Addr) (cp' : Nat) (ga' : Option Addr) (gc' : Nat) (ta' : Option Addr) (tc' : Nat) (W : World), LinesG W (some ⟨b, off, none⟩) ls -> FormsAt W pa' z.pots -> FormsAt W ga' (y.guards ++ [(XC, XD, XK)]) -> FormsAt W ta' z.tells -> Calls Tryz.prog 95 #[.slice (some ⟨b, off, none⟩) N cap, .int .i64 ((k : Int) + 1), .slice pa' 3 cp', .slice ga' (ng + 1) gc', .slice ta' nt tc'] W fun e w' => ∃ G cp' xs, e = .returned (.slice (some ⟨G, 0, none⟩) R1.length cp') /\ JR W G cp' xs R1 w') := fun pa' cp' ga' gc' ta' tc' W h1 h2 h3 h4 => by
     have := IH.out (g - 1) (by omega) (k + 1) (z.guard (XC, XD, XK)) pa' cp' ga' (ng + 1) gc' ta' nt tc' W (by omega) (by omega) (by omega) HW1.out HL1.out HZT.out h1 h2 (by show FormsAt W ga' (z.guards ++ [_]); rw [HZG.out]; exact h3) h4;rw [<- hR1, show ((k + 1 : Nat) : Int) = (k : Int) + 1 by omega] at this; exact this
    have C2 : Hid (∀ (pa' : Option Addr) (cp' : Nat) (ga' : Option Addr) (gc' : Nat) (ta' : Option Addr) (tc' : Nat) (W : World), LinesG W (some ⟨b, off, none⟩) ls -> FormsAt W pa' z.pots -> FormsAt W ga' (y.guards ++ [minusX (XC, XD, XK)]) -> FormsAt W ta' z.tells -> Calls Tryz.prog 95 #[.slice (some ⟨b, off, none⟩) N cap, .int .i64 ((k : Int) + 1 + sk), .slice pa' 3 cp', .slice ga' (ng + 1) gc', .slice ta' nt tc'] W fun e w' => ∃ G cp' xs, e = .returned (.slice (some ⟨G, 0, none⟩) R2.length cp') /\ JR W G cp' xs R2 w') := fun pa' cp' ga' gc' ta' tc' W h1 h2 h3 h4 => by
     have := IH.out (g - 1) (by omega) (k + 1 + sk) (z.guard (minusX (XC, XD, XK))) pa' cp' ga' (ng + 1) gc' ta' nt tc' W (by omega) (by omega) (by omega) HW2.out HL2.out HZT.out h1 h2 (by show FormsAt W ga' (z.guards ++ [_]); rw [HZG.out]; exact h3) h4;rw [<- hR2, show ((k + 1 + sk : Nat) : Int) = (k : Int) + 1 + sk by omega] at this; exact this
    clear hR1 hR2 IH fit1 fit2 fit3;have hw1 : IntKind.i64.wrap ((k : Int) + 1) = (k : Int) + 1 := wrap_id (by omega) (by omega);have hw2 : IntKind.i64.wrap ((k : Int) + 1 + sk) = (k : Int) + 1 + sk := wrap_id (by omega) (by omega)
    go_upto_region 11 with fail
    obtain ⟨W4, hW4⟩ : ∃ W4, W4 = w3.alloc (.cells #[.slice (some ⟨D1, 0, none⟩) 3 d1, .slice (some ⟨D2, 0, none⟩) 2 d2, .int .i64 XK] 106) := ⟨_, rfl⟩
    have z4 : W4.heap.size = w3.heap.size + 1 := by rw [hW4, qB]
    rw [<- hW4] at fb B4 P4 T4 G4 v1 v2 bx4 m0 m1 m2 m3 m4 m5 ⊢;clear hW4 m0 m1 m2 m3 m4 m5
    have KP : Hid (∀ W, Below W4.heap.size W4 W -> (W.cell? ⟨w3.heap.size, 0, none⟩ = some (.slice (some ⟨D1, 0, none⟩) 3 d1) /\ W.cell? ⟨w3.heap.size, 1, none⟩ = some (.slice (some ⟨D2, 0, none⟩) 2 d2) /\ W.cell? ⟨w3.heap.size, 2, none⟩ = some (.int .i64 XK))) := fun W hW => by
     obtain ⟨n0, n1, n2, _, _, _⟩ := (fb.below hW).trio
     exact ⟨n0, n1, n2⟩
    have KQ : Hid (∀ W, Below W4.heap.size W4 W -> (W.cell? ⟨wr.heap.size, 2, none⟩ = some (.int .i64 (sk : Int)) /\ W.cell? ⟨w3.heap.size, 0, none⟩ = some (.slice (some ⟨D1, 0, none⟩) 3 d1) /\ W.cell? ⟨w3.heap.size, 1, none⟩ = some (.slice (some ⟨D2, 0, none⟩) 2 d2) /\ W.cell? ⟨w3.heap.size, 2, none⟩ = some (.int .i64 XK))) := fun W hW => by
     obtain ⟨n0, n1, n2, _, _, _⟩ := (fb.below hW).trio;obtain ⟨_, _, o2, _, _, _⟩ := (bx4.below hW).six
     exact ⟨o2, n0, n1, n2⟩
    have z4a : w3.heap.size + 1 <= W4.heap.size := by omega
    clear z4 bx4 fb
    go_cut [14] from 17 to 94 (fun yv wx => ∃ G cp' xs, yv = .slice (some ⟨G, 0, none⟩) R1.length cp' /\ JR w G cp' xs R1 wx /\ Below W4.heap.size W4 wx)
    case first =>
     have c0 : Below W4.heap.size W4 W4.drew := (Below.refl _ _).drew;have hSS : (W4.drew.cell? ⟨w3.heap.size, 0, none⟩ = some (.slice (some ⟨D1, 0, none⟩) 3 d1) /\ W4.drew.cell? ⟨w3.heap.size, 1, none⟩ = some (.slice (some ⟨D2, 0, none⟩) 2 d2) /\ W4.drew.cell? ⟨w3.heap.size, 2, none⟩ = some (.int .i64 XK)) /\ True := ⟨KP.out _ c0, trivial⟩
     refine wp_region_ends (fun w' => w'.cell? ⟨w3.heap.size, 0, none⟩ = some (.slice (some ⟨D1, 0, none⟩) 3 d1) /\ w'.cell? ⟨w3.heap.size, 1, none⟩ = some (.slice (some ⟨D2, 0, none⟩) 2 d2) /\ w'.cell? ⟨w3.heap.size, 2, none⟩ = some (.int .i64 XK)) (fun _ => True) 13 (by kernel_rfl) ?_;refine tkl 0 rfl hSS ?_;refine tkl 1 rfl hSS ?_;refine tkl 2 rfl hSS ?_;refine tkl 3 rfl hSS ?_;refine tkl 5 rfl hSS ?_;refine tkl 7 rfl hSS ?_;refine tkl 10 rfl hSS ?_;clear hSS;generalize W4.drew = Wd at *;have zc := c0.size;refine wo2 4 8 rfl rfl (fun K hK => ?_) fun K hK => ?_
     ·go_simp;refine (scopy_any z.pots HZ.out.pl (P4.keep c0) FP.out (by omega)).mono ?_;rintro ee x1 ⟨Gp, cpP, xsP, rfl, jP⟩;have fP := jP.at HZ.out.pl;have e1 := jP.b;have c1 := btr c0 e1;clear jP;have sz1 := e1.size;(try dsimp only);refine kk0 hK (KP.out _ c1) ?_;refine wo2 6 8 rfl rfl (fun K hK => ?_) fun K hK => ?_
      ·have fPB := fP;go_simp;refine (scopy_any y.guards HGL.out (G4.keep c1) FG.out (by omega)).mono ?_;rintro ee x2 ⟨Gg, cpG, xsG, rfl, jG⟩;have e2 := jG.b;have lG := jG.lt;have c2 := btr c1 e2;have fP := fP.keep e2;have sz2 := e2.size;have gB := jG.b.size;(try dsimp only);refine kk0 hK (KP.out _ c2) ?_;refine wo1 8 rfl fun K hK => ?_;go_simp;obtain ⟨x3, hx3⟩ : ∃ W, W = x2.alloc (.cells #[Value.slice (some ⟨D1, 0, none⟩) 3 d1, Value.slice (some ⟨D2, 0, none⟩) 2 d2, Value.int .i64 XK] 106) := ⟨_, rfl⟩
       have nb := Cel.new x2 [Value.slice (some ⟨D1, 0, none⟩) 3 d1, Value.slice (some ⟨D2, 0, none⟩) 2 d2, Value.int .i64 XK] 106;have e3 : Below x2.heap.size x2 x3 := by rw [hx3]; exact bal
       rw [<- hx3] at nb ⊢;clear hx3;have c3 := btr c2 e3;have fP := fP.keep e3;have jG := jG.below e3;have sz3 := e3.size;(try dsimp only);refine kk0 hK (KP.out _ c3) ?_;refine wo1 9 rfl fun K hK => ?_;rw [if_pos (by rfl)];refine wp_append_lies _ (.tmp 53) (.tmp 55) 111 rfl _ 106 zi _ 3 56 Tryz.underlying111 hi hz0 hz1 hz2 rfl (by omega) (.slice (some ⟨Gg, 0, none⟩) ng cpG) ng xsG (by rfl) jG.o ⟨x2.heap.size, 0, none⟩ 1 1 [Value.slice (some ⟨D1, 0, none⟩) 3 d1, Value.slice (some ⟨D2, 0, none⟩) 2 d2, Value.int .i64 XK] (by rfl) (by rfl) (World.news_of_block (cs := #[Value.slice (some ⟨D1, 0, none⟩) 3 d1, Value.slice (some ⟨D2, 0, none⟩) 2 d2, Value.int .i64 XK]) (t := 106) (fr := (0, 0)) nb) (by simp [Value.oneCell']) (by omega) (by unfold maxLen; omega) (by omega) jG.b.size _ rfl ?_;intro gg cpg x7 hown hgrow hatg hltg;obtain ⟨b7, fG⟩ := jG.snoc HGL.out hown hgrow hatg rfl ((v1.below c3).ints' lXC) ((v2.below c3).ints' lXD) (by have := lG.1; omega) (by have := lG.1; omega);have c7 := btr c1 b7;have fP := fPB.keep b7;clear hown hgrow hatg nb jG;(try dsimp only);refine kk0 hK (KP.out _ c7) ?_;refine wo1 11 rfl fun K hK => ?_;go_simp;refine (scopy_any z.tells HZT.out (T4.keep c7) FT.out (by omega)).mono ?_;rintro ee x8 ⟨Gt, cpT, xsT, rfl, jT⟩;have fT := jT.at HZT.out;have e8 := jT.b;have c8 := btr c7 e8;clear jT;have fP := fP.keep e8;have fG := fG.keep e8;(try dsimp only);refine kk0 hK (KP.out _ c8) ?_;refine wo1 12 rfl fun K hK => ?_;go_simp
       refine (C1.out _ _ _ _ _ _ _ (hF.below (btr B4 c8)) fP fG fT).mono ?_;rintro ee x9 ⟨Gy, cpy, xsy, rfl, jY⟩;have e9 := jY.b;have c9 := btr c8 e9;have jY' := jY.mono (btr B4 c8);clear jY;(try dsimp only);refine kk0 hK (KP.out _ c9) ?_;refine wo1 13 rfl fun K hK => ?_;go_simp;(try dsimp only);refine kk0 hK (KP.out _ c9) ?_;refine wod ?_ _;clear fP fG fT fPB
       go_wp2_with fail
       go_meet
       case rel => exact ⟨Gy, cpy, xsy, rfl, jY', c9⟩
      go_simp;obtain ⟨x2, hx2⟩ : ∃ W, W = x1.alloc (.cells #[Value.slice (some ⟨D1, 0, none⟩) 3 d1, Value.slice (some ⟨D2, 0, none⟩) 2 d2, Value.int .i64 XK] 106) := ⟨_, rfl⟩
      have nb := Cel.new x1 [Value.slice (some ⟨D1, 0, none⟩) 3 d1, Value.slice (some ⟨D2, 0, none⟩) 2 d2, Value.int .i64 XK] 106;have e2 : Below x1.heap.size x1 x2 := by rw [hx2]; exact bal
      rw [<- hx2] at nb ⊢;clear hx2;have c2 := btr c1 e2;have fP := fP.keep e2;have sz2 := e2.size;(try dsimp only);refine kk0 hK (KP.out _ c2) ?_;refine wo1 6 rfl fun K hK => ?_;have fPB := fP;go_simp;refine (scopy_any y.guards HGL.out (G4.keep c2) FG.out (by omega)).mono ?_;rintro ee x3 ⟨Gg, cpG, xsG, rfl, jG⟩;have e3 := jG.b;have lG := jG.lt;have c3 := btr c2 e3;have fP := fP.keep e3;have nb := nb.below e3;have sz3 := e3.size;have gB := jG.b.size;(try dsimp only);refine kk0 hK (KP.out _ c3) ?_;refine wo1 9 rfl fun K hK => ?_;rw [if_pos (by rfl)];refine wp_append_lies _ (.tmp 53) (.tmp 55) 111 rfl _ 106 zi _ 3 56 Tryz.underlying111 hi hz0 hz1 hz2 rfl (by omega) (.slice (some ⟨Gg, 0, none⟩) ng cpG) ng xsG (by rfl) jG.o ⟨x1.heap.size, 0, none⟩ 1 1 [Value.slice (some ⟨D1, 0, none⟩) 3 d1, Value.slice (some ⟨D2, 0, none⟩) 2 d2, Value.int .i64 XK] (by rfl) (by rfl) (World.news_of_block (cs := #[Value.slice (some ⟨D1, 0, none⟩) 3 d1, Value.slice (some ⟨D2, 0, none⟩) 2 d2, Value.int .i64 XK]) (t := 106) (fr := (0, 0)) nb) (by simp [Value.oneCell']) (by omega) (by unfold maxLen; omega) (by omega) jG.b.size _ rfl ?_;intro gg cpg x7 hown hgrow hatg hltg;obtain ⟨b7, fG⟩ := jG.snoc HGL.out hown hgrow hatg rfl ((v1.below c3).ints' lXC) ((v2.below c3).ints' lXD) (by have := lG.1; omega) (by have := lG.1; omega);have c7 := btr c2 b7;have fP := fPB.keep b7;clear hown hgrow hatg nb jG;(try dsimp only);refine kk0 hK (KP.out _ c7) ?_;refine wo1 11 rfl fun K hK => ?_;go_simp
      refine (scopy_any z.tells HZT.out (T4.keep c7) FT.out (by omega)).mono ?_;rintro ee x8 ⟨Gt, cpT, xsT, rfl, jT⟩;have fT := jT.at HZT.out;have e8 := jT.b;have c8 := btr c7 e8;clear jT;have fP := fP.keep e8;have fG := fG.keep e8;(try dsimp only);refine kk0 hK (KP.out _ c8) ?_;refine wo1 12 rfl fun K hK => ?_;go_simp;refine (C1.out _ _ _ _ _ _ _ (hF.below (btr B4 c8)) fP fG fT).mono ?_;rintro ee x9 ⟨Gy, cpy, xsy, rfl, jY⟩;have e9 := jY.b;have c9 := btr c8 e9;have jY' := jY.mono (btr B4 c8);clear jY;(try dsimp only);refine kk0 hK (KP.out _ c9) ?_;refine wo1 13 rfl fun K hK => ?_;go_simp;(try dsimp only);refine kk0 hK (KP.out _ c9) ?_;refine wod ?_ _;clear fP fG fT fPB
      go_wp2_with fail
      go_meet
      case rel => exact ⟨Gy, cpy, xsy, rfl, jY', c9⟩
     go_simp;obtain ⟨x1, hx1⟩ : ∃ W, W = Wd.alloc (.cells #[Value.slice (some ⟨D1, 0, none⟩) 3 d1, Value.slice (some ⟨D2, 0, none⟩) 2 d2, Value.int .i64 XK] 106) := ⟨_, rfl⟩
     have nb := Cel.new Wd [Value.slice (some ⟨D1, 0, none⟩) 3 d1, Value.slice (some ⟨D2, 0, none⟩) 2 d2, Value.int .i64 XK] 106;have e1 : Below Wd.heap.size Wd x1 := by rw [hx1]; exact bal
     rw [<- hx1] at nb ⊢;clear hx1;have c1 := btr c0 e1;have sz1 := e1.size;(try dsimp only);refine kk0 hK (KP.out _ c1) ?_;refine wo1 4 rfl fun K hK => ?_;go_simp;refine (scopy_any z.pots HZ.out.pl (P4.keep c1) FP.out (by omega)).mono ?_;rintro ee x2 ⟨Gp, cpP, xsP, rfl, jP⟩;have fP := jP.at HZ.out.pl;have e2 := jP.b;have c2 := btr c1 e2;clear jP;have nb := nb.below e2;have sz2 := e2.size;(try dsimp only);refine kk0 hK (KP.out _ c2) ?_;refine wo1 6 rfl fun K hK => ?_;have fPB := fP;go_simp;refine (scopy_any y.guards HGL.out (G4.keep c2) FG.out (by omega)).mono ?_;rintro ee x3 ⟨Gg, cpG, xsG, rfl, jG⟩;have e3 := jG.b;have lG := jG.lt;have c3 := btr c2 e3;have fP := fP.keep e3;have nb := nb.below e3;have sz3 := e3.size;have gB := jG.b.size;(try dsimp only);refine kk0 hK (KP.out _ c3) ?_;refine wo1 9 rfl fun K hK => ?_;rw [if_pos (by rfl)];refine wp_append_lies _ (.tmp 53) (.tmp 55) 111 rfl _ 106 zi _ 3 56 Tryz.underlying111 hi hz0 hz1 hz2 rfl (by omega) (.slice (some ⟨Gg, 0, none⟩) ng cpG) ng xsG (by rfl) jG.o ⟨Wd.heap.size, 0, none⟩ 1 1 [Value.slice (some ⟨D1, 0, none⟩) 3 d1, Value.slice (some ⟨D2, 0, none⟩) 2 d2, Value.int .i64 XK] (by rfl) (by rfl) (World.news_of_block (cs := #[Value.slice (some ⟨D1, 0, none⟩) 3 d1, Value.slice (some ⟨D2, 0, none⟩) 2 d2, Value.int .i64 XK]) (t := 106) (fr := (0, 0)) nb) (by simp [Value.oneCell']) (by omega) (by unfold maxLen; omega) (by omega) jG.b.size _ rfl ?_;intro gg cpg x7 hown hgrow hatg hltg
     obtain ⟨b7, fG⟩ := jG.snoc HGL.out hown hgrow hatg rfl ((v1.below c3).ints' lXC) ((v2.below c3).ints' lXD) (by have := lG.1; omega) (by have := lG.1; omega);have c7 := btr c2 b7;have fP := fPB.keep b7;clear hown hgrow hatg nb jG;(try dsimp only);refine kk0 hK (KP.out _ c7) ?_;refine wo1 11 rfl fun K hK => ?_;go_simp;refine (scopy_any z.tells HZT.out (T4.keep c7) FT.out (by omega)).mono ?_;rintro ee x8 ⟨Gt, cpT, xsT, rfl, jT⟩;have fT := jT.at HZT.out;have e8 := jT.b;have c8 := btr c7 e8;clear jT;have fP := fP.keep e8;have fG := fG.keep e8;(try dsimp only);refine kk0 hK (KP.out _ c8) ?_;refine wo1 12 rfl fun K hK => ?_;go_simp;refine (C1.out _ _ _ _ _ _ _ (hF.below (btr B4 c8)) fP fG fT).mono ?_;rintro ee x9 ⟨Gy, cpy, xsy, rfl, jY⟩;have e9 := jY.b;have c9 := btr c8 e9;have jY' := jY.mono (btr B4 c8);clear jY;(try dsimp only);refine kk0 hK (KP.out _ c9) ?_;refine wo1 13 rfl fun K hK => ?_;go_simp;(try dsimp only);refine kk0 hK (KP.out _ c9) ?_;refine wod ?_ _;clear fP fG fT fPB
     go_wp2_with fail
     go_meet
     case rel => exact ⟨Gy, cpy, xsy, rfl, jY', c9⟩
    case rest =>
     obtain ⟨Gy, cpy, xsy, rfl, jY, cc⟩ := hcut
     go_upto_region 12 with fail
     have c0 : Below W4.heap.size W4 wc.drew := cc.drew;have hSS : (wc.drew.cell? ⟨wr.heap.size, 2, none⟩ = some (.int .i64 (sk : Int)) /\ wc.drew.cell? ⟨w3.heap.size, 0, none⟩ = some (.slice (some ⟨D1, 0, none⟩) 3 d1) /\ wc.drew.cell? ⟨w3.heap.size, 1, none⟩ = some (.slice (some ⟨D2, 0, none⟩) 2 d2) /\ wc.drew.cell? ⟨w3.heap.size, 2, none⟩ = some (.int .i64 XK)) /\ True := ⟨KQ.out _ c0, trivial⟩
     refine wp_region_ends (fun w' => w'.cell? ⟨wr.heap.size, 2, none⟩ = some (.int .i64 (sk : Int)) /\ w'.cell? ⟨w3.heap.size, 0, none⟩ = some (.slice (some ⟨D1, 0, none⟩) 3 d1) /\ w'.cell? ⟨w3.heap.size, 1, none⟩ = some (.slice (some ⟨D2, 0, none⟩) 2 d2) /\ w'.cell? ⟨w3.heap.size, 2, none⟩ = some (.int .i64 XK)) (fun _ => True) 17 (by kernel_rfl) ?_;refine tkl 0 rfl hSS ?_;refine tkl 1 rfl hSS ?_;refine tkl 2 rfl hSS ?_;refine tkl 3 rfl hSS ?_;refine tkl 4 rfl hSS ?_;refine tkl 5 rfl hSS ?_;refine tkl 6 rfl hSS ?_;refine tkl 8 rfl hSS ?_;refine tkl 10 rfl hSS ?_;refine tkl 14 rfl hSS ?_;clear hSS;have jY := jY.below (Below.refl _ _).drew;generalize wc.drew = Wd at *;have lY := jY.lt;refine wo1 7 rfl fun K hK => ?_;go_simp;refine (scopy_any z.pots HZ.out.pl (P4.keep c0) FP.out (by omega)).mono ?_;rintro ee x1 ⟨Gp, cpP, xsP, rfl, jP⟩;have fP := jP.at HZ.out.pl;have e1 := jP.b;have c1 := btr c0 e1;clear jP;have jY := jY.below e1;have sz1 := e1.size;(try dsimp only);refine kk0 hK (KQ.out _ c1) ?_;refine wo1 9 rfl fun K hK => ?_;have fPB := fP;have jYB := jY;go_simp;refine (scopy_any y.guards HGL.out (G4.keep c1) FG.out (by omega)).mono ?_;rintro ee x2 ⟨Gg, cpG, xsG, rfl, jG⟩;have e2 := jG.b;have lG := jG.lt;have c2 := btr c1 e2;have jY := jY.below e2;have sz2 := e2.size;have gB := jG.b.size;(try dsimp only);refine kk0 hK (KQ.out _ c2) ?_;refine wo1 11 rfl fun K hK => ?_;go_simp;refine (sminus_any XC XD ((v1.below c2).ints' lXC) ((v2.below c2).ints' lXD) bXC bXD bX1 bX2).mono ?_
     rintro ee x3 ⟨M1, M2, rfl, e3, y1', y2', y3', n1, n2⟩;have c3 := btr c2 e3;have jG := jG.below e3;have jY := jY.below e3;have sz3 := e3.size;have ln1 := n1.lt;have ln2 := n2.lt;(try dsimp only);refine kk0 hK (KQ.out _ c3) ?_;refine wo1 12 rfl fun K hK => ?_;go_simp;obtain ⟨x4, hx4⟩ : ∃ W, W = x3.alloc (.cells #[Value.slice (some ⟨M1, 0, none⟩) 3 3, Value.slice (some ⟨M2, 0, none⟩) 2 2, Value.int .i64 (-XK - 1)] 106) := ⟨_, rfl⟩
     have nb := Cel.new x3 [Value.slice (some ⟨M1, 0, none⟩) 3 3, Value.slice (some ⟨M2, 0, none⟩) 2 2, Value.int .i64 (-XK - 1)] 106;have e4 : Below x3.heap.size x3 x4 := by rw [hx4]; exact bal
     rw [<- hx4] at nb ⊢;clear hx4;have c4 := btr c3 e4;have jG := jG.below e4;have jY := jY.below e4;have n1 := n1.below e4;have n2 := n2.below e4;have sz4 := e4.size;(try dsimp only);refine kk0 hK (KQ.out _ c4) ?_;refine wo1 13 rfl fun K hK => ?_;rw [if_pos (by rfl)];refine wp_append_lies _ (.tmp 69) (.tmp 72) 111 rfl _ 106 zi _ 3 56 Tryz.underlying111 hi hz0 hz1 hz2 rfl (by omega) (.slice (some ⟨Gg, 0, none⟩) ng cpG) ng xsG (by rfl) jG.o ⟨x3.heap.size, 0, none⟩ 1 1 [Value.slice (some ⟨M1, 0, none⟩) 3 3, Value.slice (some ⟨M2, 0, none⟩) 2 2, Value.int .i64 (-XK - 1)] (by rfl) (by rfl) (World.news_of_block (cs := #[Value.slice (some ⟨M1, 0, none⟩) 3 3, Value.slice (some ⟨M2, 0, none⟩) 2 2, Value.int .i64 (-XK - 1)]) (t := 106) (fr := (0, 0)) nb) (by simp [Value.oneCell']) (by omega) (by unfold maxLen; omega) (by omega) jG.b.size _ rfl ?_;intro gg cpg x7 hown hgrow hatg hltg;obtain ⟨b7, fG'⟩ := jG.snoc HGL.out hown hgrow hatg rfl (n1.ints' (by simp [mulL, lXC])) (n2.ints' (by simp [mulL, lXD])) (by have := lG.2; omega) (by have := lG.2; omega)
     have fG : FormsAt x7 (some ⟨gg, 0, none⟩) (y.guards ++ [minusX (XC, XD, XK)]) := by
      have hm : minusX (XC, XD, XK) = (mulL (-1) XC, mulL (-1) XD, -XK - 1) := by simp only [minusX]; rw [show -1 * XK - 1 = -XK - 1 by omega]
      rw [hm]; exact fG'
     have c7 := btr c1 b7;have fP := fPB.keep b7;have jY := jYB.below b7;have sz7 := b7.size;clear hown hgrow hatg nb jG fG';(try dsimp only);refine kk0 hK (KQ.out _ c7) ?_;refine wo1 15 rfl fun K hK => ?_;go_simp;refine (scopy_any z.tells HZT.out (T4.keep c7) FT.out (by omega)).mono ?_;rintro ee x8 ⟨Gt, cpT, xsT, rfl, jT⟩;have fT := jT.at HZT.out;have e8 := jT.b;have c8 := btr c7 e8;clear jT;have fP := fP.keep e8;have fG := fG.keep e8;have jY := jY.below e8;have sz8 := e8.size;(try dsimp only);refine kk0 hK (KQ.out _ c8) ?_;refine wo1 16 rfl fun K hK => ?_;go_simp;refine (C2.out _ _ _ _ _ _ _ (hF.below (btr B4 c8)) fP fG fT).mono ?_;rintro ee x9 ⟨Gn, cpn, xsn, rfl, jN⟩;have e9 := jN.b;have c9 := btr c8 e9;have jY := jY.below e9;(try dsimp only);refine kk0 hK (KQ.out _ c9) ?_;refine wo1 17 rfl fun K hK => ?_;go_simp;(try dsimp only);refine kk0 hK (KQ.out _ c9) ?_;refine wod ?_ _;clear fP fG fT fPB P4 T4 G4 KP KQ C1 C2;obtain ⟨zr, hir, hr0, hr1, hr2⟩ := info_parts Tryz.infoRow;have sY := jY.o.1;have sN := jN.o.1;have hB9 := (btr B4 c9).size;have lYx : Gy < x8.heap.size := by omega
     obtain ⟨HNW⟩ : Nonempty (∀ j u, xsn[j]? = some u -> x9.cell? ((⟨Gn, 0, none⟩ : Addr).add j) = some u) := ⟨jN.news⟩
     have HNW' : Hid _ := HNW;clear HNW;have HON : Hid (∀ u ∈ xsn, u.oneCell' = true) := jN.ones
     go_wp2_with (at_builtin; go_must (refine wpList_append_lies _ rfl (.tmp 77) (.tmp 78) 108 rfl w.heap.size 113 zr _ 4 80 Tryz.underlying108 hir hr0 hr1 hr2 rfl (by decide) (.slice (some ⟨Gy, 0, none⟩) R1.length cpy) R1.length xsy rfl jY.o ⟨Gn, 0, none⟩ R2.length cpn xsn rfl sN HNW'.out HON.out q3 (by unfold maxLen; omega) (by omega) hB9 _ rfl ?_); intro gj cpj x10 hown hgrow hatj hltj)
     have JJ := jY.join jN (by omega) lYx rfl rfl hown hgrow hatj rfl;clear jY jN hown hgrow
     go_wp2
     go_ret
     rw [HGO.out, qE]
     exact ⟨_, _, _, rfl, JJ⟩
   ·obtain ⟨hp0, hp1⟩ := hp3 rfl;obtain ⟨p, rfl⟩ : ∃ p : Nat, qp = p := ⟨qp.toNat, by omega⟩
    have hp : p < 3 := by omega
    have hgo : Hid (goW ls g k z = goW ls (g - 1) (k + 1) (z.add p (XC, XD, XK))) := by
     obtain ⟨g', rfl⟩ : ∃ g', g = g' + 1 := ⟨g - 1, by omega⟩
     show goW ls (g' + 1) k z = _
     rw [goW, if_pos hkl.out, HG'.out];simp only [HFX.out]
     rfl
    have HW2 : Hid (WayOk (k + 1) (z.add p (XC, XD, XK))) := HZ.out.add (by omega) hp fit1;have FP : Hid (∀ j, j < 3 -> fitX 10000000 (z.pots[j]?.getD ([], [], 0))) := fun j hj => (HZ.out.pf j hj).mono (by have := wb_six (n := min k 6) (by omega); omega)
    go_wp2_with fail
    refine (scopy_any z.pots HZ.out.pl P4 FP.out (by omega)).mono ?_;rintro e w5 ⟨G5, cp5, xs5, rfl, j5⟩;have lG5 := j5.lt;have T4x := T4;rw [qB] at lG5;have fb5 := fb.below j5.b;have bx5 := bx4.below j5.b;have T5 := T4.keep j5.b;have B5 := btr B4 j5.b;have v15 := v1.below j5.b;have v25 := v2.below j5.b;obtain ⟨b0, off0, eb, pa', pc', pca, pcc, c0, c1, c2, iC, iD⟩ := j5.at HZ.out.pl p (by rw [HZ.out.pl]; exact hp);simp only [qA, Addr.mk.injEq, and_true] at eb;obtain ⟨rfl, rfl⟩ := eb;rw [Nat.zero_add] at c0 c1 c2;have hfp := FP.out p hp;have HPP : Hid (plusX (z.pots[p]?.getD ([], [], 0)) (XC, XD, XK) = plusX (z.pots[p]?.getD noX) (XC, XD, XK)) := rfl;generalize HGP : z.pots[p]?.getD ([], [], 0) = PX at *;have HGP' : Hid _ := HGP;clear HGP;obtain ⟨PC, PD, PK⟩ := PX;have lPC : PC.length = 3 := hfp.c;have lPD : PD.length = 2 := hfp.d;have bPC : bnd 10000000 PC := hfp.bc;have bPD : bnd 10000000 PD := hfp.bd;have bK1 : -10000000 <= PK := hfp.k1;have bK2 : PK <= 10000000 := hfp.k2;have bXC : bnd 10000000 XC := fit2.bc;have bXD : bnd 10000000 XD := fit2.bd;have bX1 : -10000000 <= XK := fit2.k1;have bX2 : XK <= 10000000 := fit2.k2;have hc0 : w5.cell? ⟨G5, p * 3, none⟩ = some (.slice pa' 3 pca) := c0;have hc1 : w5.cell? ⟨G5, p * 3 + 1, none⟩ = some (.slice pc' 2 pcc) := c1;have hc2 : w5.cell? ⟨G5, p * 3 + 2, none⟩ = some (.int .i64 PK) := c2;clear c0 c1 c2 P4 T4 G4 B4 bx4 fb v1 v2 m0 m1 m2 m3 m4 m5;obtain ⟨m0, m1, m2, m3, m4, m5⟩ := bx5.six
    obtain ⟨f0, f1, f2, f3, f4, f5⟩ := fb5.trio;have hpI : (p : Int) < 3 := by omega
    go_upto_region 16 with fail
    have hSS : (w5.drew.cell? ⟨wr.heap.size, 1, none⟩ = some (.int .i64 (p : Int)) /\ w5.drew.cell? ⟨w3.heap.size, 0, none⟩ = some (.slice (some ⟨D1, 0, none⟩) 3 d1) /\ w5.drew.cell? ⟨w3.heap.size, 1, none⟩ = some (.slice (some ⟨D2, 0, none⟩) 2 d2) /\ w5.drew.cell? ⟨w3.heap.size, 2, none⟩ = some (.int .i64 XK)) /\ (w5.drew.cell? ⟨G5, p * 3, none⟩ = some (.slice pa' 3 pca) /\ w5.drew.cell? ⟨G5, p * 3 + 1, none⟩ = some (.slice pc' 2 pcc) /\ w5.drew.cell? ⟨G5, p * 3 + 2, none⟩ = some (.int .i64 PK)) := ⟨⟨m1, f0, f1, f2⟩, hc0, hc1, hc2⟩
    refine wp_region_ends (fun w' => w'.cell? ⟨wr.heap.size, 1, none⟩ = some (.int .i64 (p : Int)) /\ w'.cell? ⟨w3.heap.size, 0, none⟩ = some (.slice (some ⟨D1, 0, none⟩) 3 d1) /\ w'.cell? ⟨w3.heap.size, 1, none⟩ = some (.slice (some ⟨D2, 0, none⟩) 2 d2) /\ w'.cell? ⟨w3.heap.size, 2, none⟩ = some (.int .i64 XK)) (fun w' => w'.cell? ⟨G5, p * 3, none⟩ = some (.slice pa' 3 pca) /\ w'.cell? ⟨G5, p * 3 + 1, none⟩ = some (.slice pc' 2 pcc) /\ w'.cell? ⟨G5, p * 3 + 2, none⟩ = some (.int .i64 PK)) 10 (by kernel_rfl) ?_;refine tkl 0 rfl hSS ?_;refine tkl 1 rfl hSS ?_;refine tkl 2 rfl hSS ?_;refine tkl 3 rfl hSS ?_;refine tkl 4 rfl hSS ?_;refine tkl 5 rfl hSS ?_;refine tkl 6 rfl hSS ?_;refine wpAnyE_take1 (i := 7) (v := ?cv7) rfl rfl (by kernel_rfl) (by kernel_rfl) (by kernel_rfl) (by decide) (by rfl) (by simp [Region.binds]) (fun _ _ _ h => h) (Or.inl ⟨by rfl, ?chy7⟩) hSS ?_
    case chy7 => (intro wz hSw; (try dsimp only at hSw); go_simp; try (with_reducible rfl))
    refine tkl 8 rfl hSS ?_;refine wo1 9 rfl fun K hK => ?_;go_simp;refine (l1sum_any PC PD XC XD (iC.below (Below.refl _ _).drew) (iD.below (Below.refl _ _).drew) ((v15.below (Below.refl _ _).drew).ints' lXC) ((v25.below (Below.refl _ _).drew).ints' lXD) (fun i => by have := bPC i; omega) (fun i => by have := bPD i; omega) (by omega) (fun i => by have := bXC i; omega) (fun i => by have := bXD i; omega) (by omega)).mono ?_;rintro ee w6 ⟨E1, E2, rfl, bd6, y1', y2', y3', u1, u2⟩;rw [show PK + 1 * XK = PK + XK by omega];have b6 := below_of_drew bd6;have j6 := j5.below b6;have s6 := b6.size;have lu1 := u1.lt;have lu2 := u2.lt;have bx6 := bx5.below b6;have fb6 := fb5.below b6;obtain ⟨n0, n1, n2, n3, n4, n5⟩ := bx6.six;obtain ⟨x0, x1, x2, x3, x4, x5⟩ := fb6.trio
    have hS6 : (w6.cell? ⟨wr.heap.size, 1, none⟩ = some (.int .i64 (p : Int)) /\ w6.cell? ⟨w3.heap.size, 0, none⟩ = some (.slice (some ⟨D1, 0, none⟩) 3 d1) /\ w6.cell? ⟨w3.heap.size, 1, none⟩ = some (.slice (some ⟨D2, 0, none⟩) 2 d2) /\ w6.cell? ⟨w3.heap.size, 2, none⟩ = some (.int .i64 XK)) /\ (w6.cell? ⟨G5, p * 3, none⟩ = some (.slice pa' 3 pca) /\ w6.cell? ⟨G5, p * 3 + 1, none⟩ = some (.slice pc' 2 pcc) /\ w6.cell? ⟨G5, p * 3 + 2, none⟩ = some (.int .i64 PK)) :=
     ⟨⟨n1, x0, x1, x2⟩, (b6.cell (p := ⟨G5, p * 3, none⟩) lG5.2).trans hc0, (b6.cell (p := ⟨G5, p * 3 + 1, none⟩) lG5.2).trans hc1, (b6.cell (p := ⟨G5, p * 3 + 2, none⟩) lG5.2).trans hc2⟩
    dsimp only;refine hK.out _ _ ⟨hS6.1, fun _ => hS6.2⟩ ?_;clear hK K hSS;refine wo1 10 rfl fun K hK => ?_;go_simp;refine hK.out _ _ ⟨hS6.1, fun h => absurd (show true = false from h) (by decide)⟩ ?_;have y1x : w5.heap.size <= E1 := y1';have y3x : w5.heap.size <= E2 := y3';have FPN := j6.put HZ.out.pl hp (ca := 3) (cc := 2) (K := PK + XK) u1 (lin_len lPC lXC) u2 (lin_len lPD lXD) (by omega) (by omega);have f60 := j6.frz (p * 3);have f61 := j6.frz (p * 3 + 1);have f62 := j6.frz (p * 3 + 2);obtain ⟨h0', h1', h2'⟩ := hS6.2;have TT : Touch (fun q => q = G5) w6 (((w6.setCell ⟨G5, p * 3, none⟩ (.slice (some ⟨E1, 0, none⟩) 3 3)).setCell ⟨G5, p * 3 + 1, none⟩ (.slice (some ⟨E2, 0, none⟩) 2 2)).setCell ⟨G5, p * 3 + 2, none⟩ (.int .i64 (PK + XK))) := (((Touch.refl (fun q => q = G5) w6).setCell rfl _).setCell rfl _).setCell rfl _;have bx7 := bx6.touch TT (fun h => by have := h; omega);have fb7 := fb6.touch TT (fun h => by have := h; omega);have B7 := (btr B5 b6).trans (TT.below (by have := B5.size; omega) (fun q hq => by omega));have T7 := T4x.keep ((j5.b.trans (b6.mono j5.b.size)).trans (TT.below (by rw [qB]; omega) (fun q hq => by rw [qB]; omega)));obtain ⟨n0, n1, n2, n3, n4, n5⟩ := bx7.six;obtain ⟨x0, x1, x2, x3, x4, x5⟩ := fb7.trio;refine wo1 11 rfl fun K hK => ?_;go_simp;refine hK.out _ _ ⟨⟨n1, x0, x1, x2⟩, fun h => absurd (show true = false from h) (by decide)⟩ ?_;refine wod ?_ _
    have eAdd : (z.add p (XC, XD, XK)).pots = z.pots.set p (lin PC XC 1, lin PD XD 1, PK + XK) := by
     show z.pots.set p (plusX (z.pots[p]?.getD noX) (XC, XD, XK)) = _
     rw [show z.pots[p]?.getD noX = (PC, PD, PK) from HGP'.out]; show z.pots.set p (lin PC XC 1, lin PD XD 1, PK + 1 * XK) = _; rw [show PK + 1 * XK = PK + XK by omega]
    rw [<- eAdd] at FPN;have FPN' := FPN;clear eAdd;clear hS6 h0' h1' h2' f60 f61 f62 TT bx7 fb7 bx6 fb6 j6 j5 B5 b6 T4x FPN
    go_wp2
    go_roundw
    case rel => exact ⟨k + 1, g - 1, z.add p (XC, XD, XK), some ⟨G5, 0, none⟩, cp5, ta, nt, tc, by omega, by go_num, rfl, rfl, HZT.out, HZG.out, by omega, by omega, HEQ.out.trans hgo.out, HW2.out, B7, FPN', T7⟩
    case measure => simp [intOf]; omega
   have hgo : Hid (goW ls g k z = goW ls (g - 1) (k + 1) (z.tell (XC, XD, XK))) := by
    obtain ⟨g', rfl⟩ : ∃ g', g = g' + 1 := ⟨g - 1, by omega⟩
    show goW ls (g' + 1) k z = _
    rw [goW, if_pos hkl.out, HG'.out];simp only [HFX.out]
    rfl
   have FT : Hid (∀ j, j < nt -> fitX 10000000 (z.tells[j]?.getD ([], [], 0))) := fun j hj => HZ.out.tf j (by rw [HZT.out]; exact hj);have HW2 : Hid (WayOk (k + 1) (z.tell (XC, XD, XK))) := HZ.out.tell (by omega) fit2
   go_upto_region 9 with fail
   obtain ⟨W4, hW4⟩ : ∃ W4, W4 = w3.alloc (.cells #[.slice (some ⟨D1, 0, none⟩) 3 d1, .slice (some ⟨D2, 0, none⟩) 2 d2, .int .i64 XK] 106) := ⟨_, rfl⟩
   have z4 : W4.heap.size = w3.heap.size + 1 := by rw [hW4, qB]
   rw [<- hW4] at fb B4 P4 T4 G4 v1 v2 bx4 m0 m1 m2 m3 m4 m5 ⊢;clear hW4;obtain ⟨n0, n1, n2, n3, n4, n5⟩ := fb.trio;have hSS : (W4.drew.cell? ⟨w3.heap.size, 0, none⟩ = some (.slice (some ⟨D1, 0, none⟩) 3 d1) /\ W4.drew.cell? ⟨w3.heap.size, 1, none⟩ = some (.slice (some ⟨D2, 0, none⟩) 2 d2) /\ W4.drew.cell? ⟨w3.heap.size, 2, none⟩ = some (.int .i64 XK)) /\ True := ⟨⟨n0, n1, n2⟩, trivial⟩
   have KP : Hid (∀ W, Below W4.heap.size W4 W -> (W.cell? ⟨w3.heap.size, 0, none⟩ = some (.slice (some ⟨D1, 0, none⟩) 3 d1) /\ W.cell? ⟨w3.heap.size, 1, none⟩ = some (.slice (some ⟨D2, 0, none⟩) 2 d2) /\ W.cell? ⟨w3.heap.size, 2, none⟩ = some (.int .i64 XK))) := fun W hW => by
    obtain ⟨n0, n1, n2, _, _, _⟩ := (fb.below hW).trio
    exact ⟨n0, n1, n2⟩
   refine wp_region_ends (fun w' => w'.cell? ⟨w3.heap.size, 0, none⟩ = some (.slice (some ⟨D1, 0, none⟩) 3 d1) /\ w'.cell? ⟨w3.heap.size, 1, none⟩ = some (.slice (some ⟨D2, 0, none⟩) 2 d2) /\ w'.cell? ⟨w3.heap.size, 2, none⟩ = some (.int .i64 XK)) (fun _ => True) 5 (by kernel_rfl) ?_;refine tkl 0 rfl hSS ?_;refine tkl 2 rfl hSS ?_;refine wo2 1 3 rfl rfl (fun K hK => ?_) fun K hK => ?_
   ·go_simp;refine (scopy_any z.tells HZT.out (T4.keep (Below.refl _ _).drew) FT.out (by omega)).mono ?_;rintro ee w5 ⟨G5, cp5, xs5, rfl, j5⟩;have b5 : Below W4.heap.size W4 w5 := below_of_drew j5.b;dsimp only;refine kk0 hK (KP.out _ b5) ?_;clear hK K hSS;refine wo1 3 rfl fun K hK => ?_;go_simp;have A6 : Below w5.heap.size w5 (w5.alloc (.cells #[Value.slice (some ⟨D1, 0, none⟩) 3 d1, Value.slice (some ⟨D2, 0, none⟩) 2 d2, Value.int .i64 XK] 106)) := bal;have nb6 := Cel.new w5 [Value.slice (some ⟨D1, 0, none⟩) 3 d1, Value.slice (some ⟨D2, 0, none⟩) 2 d2, Value.int .i64 XK] 106;have lG5 := j5.lt;have j6 := j5.below A6;have v16 := (v1.below b5).below A6;have v26 := (v2.below b5).below A6;have b6 := btr b5 A6;have lG5' : W4.heap.size <= G5 := lG5.1;refine kk0 hK (KP.out _ b6) ?_;clear hK K A6 j5;refine wo1 4 rfl fun K hK => ?_;rw [if_pos (by rfl)];refine wp_append_lies _ (.tmp 41) (.tmp 43) 111 rfl _ 106 zi _ 3 56 Tryz.underlying111 hi hz0 hz1 hz2 rfl (by omega) (.slice (some ⟨G5, 0, none⟩) nt cp5) nt xs5 (by rfl) j6.o ⟨w5.heap.size, 0, none⟩ 1 1 [Value.slice (some ⟨D1, 0, none⟩) 3 d1, Value.slice (some ⟨D2, 0, none⟩) 2 d2, Value.int .i64 XK] (by rfl) (by rfl) (World.news_of_block (cs := #[Value.slice (some ⟨D1, 0, none⟩) 3 d1, Value.slice (some ⟨D2, 0, none⟩) 2 d2, Value.int .i64 XK]) (t := 106) (fr := (0, 0)) nb6) (by simp [Value.oneCell']) (by omega) (by unfold maxLen; omega) (by omega) j6.b.size _ rfl ?_;intro gg cpg w7 hown hgrow hatg hltg
    obtain ⟨b7, F7⟩ := j6.snoc HZT.out hown hgrow hatg rfl (v16.ints' lXC) (v26.ints' lXD) (by omega) (by omega);have b47 : Below W4.heap.size W4 w7 := below_of_drew b7;refine kk0 hK (KP.out _ b47) ?_;clear hK K hown hgrow hatg nb6 v16 v26 j6;refine wo1 5 rfl fun K hK => ?_;go_simp;refine kk0 hK (KP.out _ b47) ?_;refine wod ?_ _;have P7 := P4.keep b47;have B7 := btr B4 b47;clear b47 b7 P4 T4 G4 B4
    go_wp2
    go_roundw
    case rel => exact ⟨k + 1, g - 1, z.tell (XC, XD, XK), pa, cp, some ⟨gg, 0, none⟩, nt + 1, cpg, by omega, by go_num, rfl, rfl, by simp only [Way.tell, qE, qF, qG, HZT.out], HZG.out, by omega, by omega, HEQ.out.trans hgo.out, HW2.out, B7, P7, F7⟩
    case measure => simp [intOf]; omega
   go_simp;obtain ⟨Wb, hWb⟩ : ∃ Wb, Wb = (W4.alloc (.cells #[Value.slice (some ⟨D1, 0, none⟩) 3 d1, Value.slice (some ⟨D2, 0, none⟩) 2 d2, Value.int .i64 XK] 106)).drew := ⟨_, rfl⟩
   have A5 : Below W4.heap.size W4 Wb := by rw [hWb]; exact (bal).drew
   have nb5 : Cel Wb W4.heap.size [Value.slice (some ⟨D1, 0, none⟩) 3 d1, Value.slice (some ⟨D2, 0, none⟩) 2 d2, Value.int .i64 XK] 106 := by rw [hWb]; exact Cel.new W4 [Value.slice (some ⟨D1, 0, none⟩) 3 d1, Value.slice (some ⟨D2, 0, none⟩) 2 d2, Value.int .i64 XK] 106
   have zb : W4.heap.size + 1 = Wb.heap.size := by rw [hWb]; show _ = (W4.alloc _).heap.size; rw [qB]
   rw [<- hWb];clear hWb;refine kk0 hK (KP.out _ A5) ?_;clear hK K hSS;refine wo1 1 rfl fun K hK => ?_;go_simp;refine (scopy_any z.tells HZT.out (T4.keep A5) FT.out (by omega)).mono ?_;rintro ee w5 ⟨G5, cp5, xs5, rfl, j6⟩;have b5 := btr A5 j6.b;have nb6 := nb5.below j6.b;rw [z4] at nb6;have v16 := v1.below b5;have v26 := v2.below b5;have lG5' := j6.lt.1;dsimp only;refine kk0 hK (KP.out _ b5) ?_;clear hK K nb5;refine wo1 4 rfl fun K hK => ?_;rw [if_pos (by rfl)];refine wp_append_lies _ (.tmp 41) (.tmp 43) 111 rfl _ 106 zi _ 3 56 Tryz.underlying111 hi hz0 hz1 hz2 rfl (by omega) (.slice (some ⟨G5, 0, none⟩) nt cp5) nt xs5 (by rfl) j6.o ⟨w3.heap.size + 1, 0, none⟩ 1 1 [Value.slice (some ⟨D1, 0, none⟩) 3 d1, Value.slice (some ⟨D2, 0, none⟩) 2 d2, Value.int .i64 XK] (by rfl) (by rfl) (World.news_of_block (cs := #[Value.slice (some ⟨D1, 0, none⟩) 3 d1, Value.slice (some ⟨D2, 0, none⟩) 2 d2, Value.int .i64 XK]) (t := 106) (fr := (0, 0)) nb6) (by simp [Value.oneCell']) (by omega) (by unfold maxLen; omega) (by omega) j6.b.size _ rfl ?_;intro gg cpg w7 hown hgrow hatg hltg;obtain ⟨b7, F7⟩ := j6.snoc HZT.out hown hgrow hatg rfl (v16.ints' lXC) (v26.ints' lXD) (by omega) (by omega);have b47 : Below W4.heap.size W4 w7 := btr A5 b7;refine kk0 hK (KP.out _ b47) ?_;clear hK K hown hgrow hatg nb6 v16 v26 j6;refine wo1 5 rfl fun K hK => ?_;go_simp;refine kk0 hK (KP.out _ b47) ?_;refine wod ?_ _;have P7 := P4.keep b47;have B7 := btr B4 b47;clear b47 b7 P4 T4 G4 B4
   go_wp2
   go_roundw
   case rel => exact ⟨k + 1, g - 1, z.tell (XC, XD, XK), pa, cp, some ⟨gg, 0, none⟩, nt + 1, cpg, by omega, by go_num, rfl, rfl, by simp only [Way.tell, qE, qF, qG, HZT.out], HZG.out, by omega, by omega, HEQ.out.trans hgo.out, HW2.out, B7, P7, F7⟩
   case measure => simp [intOf]; omega
  have hrow : Hid (goW ls g k z = [endW z]) := goW_end (by rw [HN.out]; omega);have HPF : Hid (∀ j, j < 3 -> fitX 10000000 (z.pots[j]?.getD noX)) := fun j hj => (HZ.out.pf j hj).mono (by have := wb_six (n := min k 6) (by omega); omega);have HGL2 : Hid (z.guards.length = ng) := by show z.guards.length = ng; rw [HZG.out]; exact HGL.out
  have hGz2 : FormsAt wr ga z.guards := by rw [HZG.out]; exact hGz
  have FG : Hid (∀ j, j < ng -> fitX 10000000 (z.guards[j]?.getD ([], [], 0))) := fun j hj => HZ.out.gf j (by rw [HGL2.out]; exact hj);have FT : Hid (∀ j, j < nt -> fitX 10000000 (z.tells[j]?.getD ([], [], 0))) := fun j hj => HZ.out.tf j (by rw [HZT.out]; exact hj)
  go_wp2_with fail
  refine (srowend_any z HZ.out.pl HGL2.out HZT.out hPz hGz2 hTz HPF.out FG.out FT.out (by omega) (by omega)).mono ?_;rintro e w3 ⟨v, rfl, b3, hX⟩;obtain ⟨xa, xc, ya, yc, za, zc, rfl, f0, f1, f2, fo⟩ := hX;have hb3 := btr hb b3;have zb := hb.size
  have J := JR.one (w := w) (gc := xc) (ac := yc) (tc := zc) hb3 (f0.mono (fun k hk => by omega)) (f1.mono (fun k hk => by omega)) (f2.mono (fun k hk => by omega))
   (have h : ∀ {T : Nat -> Prop} k, (k < w.heap.size \/ T k) -> (k < wr.heap.size \/ T k) := fun k hk => by
     rcases hk with hk | hk
     ·exact Or.inl (by omega)
     exact Or.inr hk
   ⟨fo.1.mono h, fo.2.1.mono h, fo.2.2.mono h⟩)
  clear b3 f0 f1 f2 fo
  go_wp2
  go_ret
  rw [HEQ.out, hrow.out]
  exact ⟨_, _, _, rfl, J⟩
end Go.Proofs.YtfmpcihghlnlnaaGreatDoor
