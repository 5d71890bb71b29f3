/-
  Lemmas that the claim's last text rests on: Walk, RowsS, Reads, Grow, Own0, Own, WayI, WayC, WayA, CatRS, WayR, WayD, WayG, WayK, WayT, MarkP2, KeyI, RowsY.
-/
import Derived.Test.YtjggppnffkcmbaaPut
import Derived.Deep.AppendLies
import Derived.Test.YtjggppnffkcmbaaMarks
import Derived.Lib.SliceRun
import Derived.Test.YtjggppnffkcmbaaAdd
import Derived.Test.YtjggppnffkcmbaaIntoW
import Derived.Deep.AppendSrc
import Derived.Deep.Upon
import Derived.Test.YtjggppnffkcmbaaKeyed
import Derived.OrdersIn
import Derived.OrdersHeld
import Derived.RangeFuncNested
import Derived.RangeFuncBound
import Derived.RangeFuncCalls
import Derived.RangeFuncLeaves
namespace Go.Proofs.Ytjggppnffkcmbaa
open Go.RowKit Go.Deep
set_option linter.unusedVariables false
set_option maxRecDepth 100000

theorem goW_stop {ls : List LV} {f i : Nat} {y : Way} {g : LV} (hi : i < ls.length) (hf : 0 < f) (hg : ls[i]?.getD noLV = g) (h1 : ¬ g.kind = 1) (h2 : ¬ g.kind = 2) (h3 : ¬ g.kind = 3) : goW ls f i y = [stopW y] := by
  obtain ⟨f, rfl⟩ : ∃ f', f = f' + 1 := ⟨f - 1, by omega⟩
  rw [goW, if_pos hi, hg, if_neg h1, if_neg h2, if_neg h3]
theorem FOff.noForms {W : World} {S : Nat → Prop} {a : Option Addr} : FOff W S a [] := fun W' t i hi => by simp at hi
theorem lineW {k p z : Int} {n m : Nat} {C D : List Int} {K : Int} (h : lineB k p z n m C D K = true) (h4 : ¬ k = 4) : smallB n m C D K = true ∧ (k = 1 ∨ k = 2 ∨ k = 3) ∧ (k = 1 → 1 ≤ z ∧ z ≤ 6) ∧ (k = 2 → 0 ≤ p ∧ p < 3) := by
  by_cases h1 : k = 1
  · subst h1
    simp [lineB] at h
    have := inB_iff.1 h.1.2
    exact ⟨h.2, Or.inl rfl, fun _ => this, fun e => by omega⟩
  by_cases h2 : k = 2
  · subst h2
    simp [lineB] at h
    have := inB_iff.1 h.1.1
    exact ⟨h.2, Or.inr (Or.inl rfl), fun e => by omega, fun _ => ⟨this.1, by omega⟩⟩
  by_cases h3 : k = 3
  · subst h3
    simp [lineB] at h
    exact ⟨h.2, Or.inr (Or.inr rfl), fun e => by omega, fun e => by omega⟩
  simp [lineB, h1, h2, h3, h4] at h
theorem TermsOk.ext {W : World} {G : Nat} {xs : List Value} {T T' : List Frm} {n : Nat} (h : TermsOk W G xs T n) (e : ∀ j, j < n → T'[j]?.getD ([], [], 0) = T[j]?.getD ([], [], 0)) : TermsOk W G xs T' n := fun j hj => by
  obtain ⟨a', c', ca, cc, e0, e1, e2, i1, i2, n1, n2⟩ := h j hj
  rw [e j hj]
  exact ⟨a', c', ca, cc, e0, e1, e2, i1, i2, n1, n2⟩
/-- One form more, at the end of a copy. -/
theorem JF.snoc {w W W' : World} {G cap n : Nat} {xs : List Value} {fs : List Frm} {g cp B1 B2 ca cc : Nat} {C D : List Int} {K : Int} (j : JF w G cap n xs fs W) (hn : fs.length = n) (hown : W'.ownsRow w.heap.size 34 3 (.slice (some ⟨g, 0, none⟩) (n + 1) cp) (n + 1) (xs ++ [.slice (some ⟨B1, 0, none⟩) 3 ca, .slice (some ⟨B2, 0, none⟩) 2 cc, .int .i64 K])) (hgrow : W.grownBy W' (some G)) {H : Nat} (hat : some G = some g ∨ g = H) (hH : W.heap.size = H)
    (k1 : Ints W (some ⟨B1, 0, none⟩) 3 C) (k2 : Ints W (some ⟨B2, 0, none⟩) 2 D) (n1 : B1 ≠ G) (n2 : B2 ≠ G) : Below w.heap.size w W' ∧ FormsAt W' (some ⟨g, 0, none⟩) (fs ++ [(C, D, K)]) := by
  have hG := j.lt
  have hat' : g = G ∨ W.heap.size ≤ g := by
    rcases hat with h | h
    · simp only [Option.some.injEq] at h; exact Or.inl h.symm
    · exact Or.inr (by omega)
  have t1 : TermsOk W G xs (fs ++ [(C, D, K)]) n := j.t.ext (fun i hi => by rw [List.getElem?_append_left (by omega)])
  have t2 := t1.step j.o.1 hgrow hat' (ca := ca) (cc := cc) (K := K) k1 k2 n1 n2 (by rw [List.getElem?_append_right (by omega), hn, Nat.sub_self]; rfl)
  exact ⟨j.b.grown hgrow j.b.size (fun z hz => by simp only [Option.some.injEq] at hz; omega), t2.forms (by rw [List.length_append, hn]; rfl) hown⟩
/-- One row alone. -/
theorem JR.one {w W : World} {r : RowM} {ga aa ta : Option Addr} {gc ac tc : Nat} (hb : Below w.heap.size w W) (f0 : FOff W (fun k => k < w.heap.size) ga r.guards) (f1 : FOff W (fun k => k < w.heap.size) aa r.adds) (f2 : FOff W (fun k => k < w.heap.size) ta r.tells) :
    JR w W.heap.size 1 [.slice ga r.guards.length gc, .slice aa r.adds.length ac, .slice ta r.tells.length tc, .bool r.stop] [r] (W.alloc (.cells #[.slice ga r.guards.length gc, .slice aa r.adds.length ac, .slice ta r.tells.length tc, .bool r.stop] 25)) := by
  refine ⟨hb.alloc hb.size _, World.ownsRow_lit W #[.slice ga r.guards.length gc, .slice aa r.adds.length ac, .slice ta r.tells.length tc, .bool r.stop] 1 hb.size (by unfold maxLen; omega) rfl, fun j hj => ?_⟩
  simp only [List.length_cons, List.length_nil] at hj
  obtain rfl : j = 0 := by omega
  exact ⟨ga, gc, aa, ac, ta, tc, rfl, rfl, rfl, rfl, f0.fresh _, f1.fresh _, f2.fresh _⟩

theorem JR.mono {w w1 W : World} {G cap : Nat} {xs : List Value} {rs : List RowM} (j : JR w1 G cap xs rs W) (h : Below w.heap.size w w1) : JR w G cap xs rs W := by
  refine ⟨h.trans (j.b.mono h.size), ⟨j.o.1, ?_⟩, j.r.map (fun _ _ f => f.mono (fun k hk => by have := h.size; omega))⟩
  rcases j.o.2 with h2 | ⟨g, cp, cur, hv, hg, r⟩
  · exact .inl h2
  · exact .inr ⟨g, cp, cur, hv, Nat.le_trans h.size hg, r⟩
theorem JR.news {w W : World} {G cap : Nat} {xs : List Value} {rs : List RowM} (j : JR w G cap xs rs W) : ∀ i u, xs[i]? = some u → W.cell? ((⟨G, 0, none⟩ : Addr).add i) = some u := fun i u hu => by
  have hl : i < xs.length := (List.getElem?_eq_some_iff.1 hu).1
  have hadd : (⟨G, 0, none⟩ : Addr).add i = ⟨G, i, none⟩ := by
    by_cases h0 : i = 0
    · subst h0; simp [Addr.add]
    · simp [Addr.add, h0]
  rw [hadd, own_cell j.o i (by have := j.o.1; omega), hu]
theorem JR.ones {w W : World} {G cap : Nat} {xs : List Value} {rs : List RowM} (j : JR w G cap xs rs W) : ∀ u ∈ xs, u.oneCell' = true := fun u hu => by
  obtain ⟨i, hx⟩ := List.mem_iff_getElem?.1 hu
  have hi : i < xs.length := (List.getElem?_eq_some_iff.1 hx).1
  have hlen := j.o.1
  obtain ⟨ga, gc, aa, ac, ta, tc, e0, e1, e2, e3, _⟩ := j.r (i / 4) (by omega)
  have hm : i = i / 4 * 4 + i % 4 := by omega
  have h4 : i % 4 < 4 := Nat.mod_lt _ (by omega)
  rw [hm] at hx
  generalize i % 4 = r at *
  generalize i / 4 = d at *
  match r, h4 with
  | 0, _ => rw [Nat.add_zero, e0] at hx; simp only [Option.some.injEq] at hx; rw [← hx]; rfl
  | 1, _ => rw [e1] at hx; simp only [Option.some.injEq] at hx; rw [← hx]; rfl
  | 2, _ => rw [e2] at hx; simp only [Option.some.injEq] at hx; rw [← hx]; rfl
  | 3, _ => rw [e3] at hx; simp only [Option.some.injEq] at hx; rw [← hx]; rfl
theorem JF.frz {w W : World} {G cap n : Nat} {xs : List Value} {fs : List Frm} (j : JF w G cap n xs fs W) (i : Nat) : W.frozen? ⟨G, i, none⟩ = false := by
  rcases j.o.2 with ⟨h, _⟩ | ⟨g, cap', cur, h, hg, hh, _⟩
  · cases h
  · simp only [Value.slice.injEq, Option.some.injEq, Addr.mk.injEq, and_true, true_and] at h
    obtain ⟨rfl, _⟩ := h
    have : Cel W G cur.toList 34 := by unfold Cel; simpa using hh
    exact this.free i
theorem Try.infoRow : (Try.prog.info? 25).map (fun i => (i.zero, i.size, i.bytes)) = some (some (.agg #[.slice none 0 0, .slice none 0 0, .slice none 0 0, .bool false]), 4, 80) := by kernel_rfl
set_option maxHeartbeats 25600000 in
theorem swalk_any (ad : Option Addr) (N cap : Nat) (ls : List LV) (hN : ls.length = N) (h6 : N ≤ 6) (hall : ls.all LV.ok = true) (f : Nat) :
    ∀ (i0 : Nat) (y : Way) (pa : Option Addr) (cp : Nat) (ga : Option Addr) (ng gc : Nat) (ta : Option Addr) (nt tc : Nat) (w : World), f ≤ 7 → N ≤ i0 + f → i0 ≤ 12 → WayOk i0 y → y.guards.length = ng → y.tells.length = nt → LinesG w ad ls → FormsAt w pa y.pots → FormsAt w ga y.guards → FormsAt w ta y.tells →
    Calls Try.prog 87 #[.slice ad N cap, .int .i64 (i0 : Int), .slice pa 3 cp, .slice ga ng gc, .slice ta nt tc] w fun e w' => ∃ G cp' xs, e = .returned (.slice (some ⟨G, 0, none⟩) (goW ls f i0 y).length cp') ∧ JR w G cp' xs (goW ls f i0 y) w' := by
  induction f using Nat.strongRecOn with
  | _ f ih =>
  intro i0 y pa cp ga ng gc ta nt tc w hf hfu hi0 hy hg ht hF hP hG hT
  have IH : Hid _ := ih
  have HN : Hid (ls.length = N) := hN
  have HO : Hid (ls.all LV.ok = true) := hall
  have HY : Hid (WayOk i0 y) := hy
  have HGL : Hid (y.guards.length = ng) := hg
  have HTL : Hid (y.tells.length = nt) := ht
  clear ih hN hall hy hg ht
  obtain ⟨zi, hi, hz0, hz1, hz2⟩ := info_parts Try.infoForm
  go_enter Try.func87, Try.ntmps87
  go_wp2_with fail
  go_loopw [2, 4, 11, 12, 13] (fun p t i _ _ wr => ∃ (k g : Nat) (z : Way) (pa : Option Addr) (cp : Nat) (ta : Option Addr) (nt tc : Nat), k ≤ 12 ∧ i = .int .i64 k ∧ p = .slice pa 3 cp ∧ t = .slice ta nt tc ∧ z.tells.length = nt ∧ z.guards = y.guards ∧ g ≤ f ∧ N ≤ k + g ∧ goW ls f i0 y = goW ls g k z ∧ WayOk k z ∧ Below w.heap.size w wr ∧ FormsAt wr pa z.pots ∧ FormsAt wr ta z.tells) (fun _ _ i _ _ _ => 13 - (intOf i).toNat)
  case atStart => exact ⟨i0, f, y, pa, cp, ta, nt, tc, by omega, rfl, rfl, rfl, HTL.out, rfl, Nat.le_refl _, hfu, rfl, HY.out, Below.refl _ _, hP, hT⟩
  case round =>
    obtain ⟨k, g, z, pa, cp, ta, nt, tc, hk, rfl, rfl, rfl, hzt, hzg, hgf, hkg, heq, hz, hb, hPz, hTz⟩ := hrel
    have HZT : Hid (z.tells.length = nt) := hzt
    have HZG : Hid (z.guards = y.guards) := hzg
    have HEQ : Hid (goW ls f i0 y = goW ls g k z) := heq
    have HZ : Hid (WayOk k z) := hz
    have hGz := hG.keep hb
    have tl12 : nt ≤ 12 := by have := hz.tl; omega
    have gl12 : ng ≤ 12 := by have := HY.out.gl; rw [HGL.out] at this; omega
    have HGF : Hid _ := HY.out.gf
    clear hzt hzg heq hz
    by_cases hlt : k < N
    · obtain ⟨b, off, rfl, hc, hAtL⟩ := (hF.below hb) k (by rw [HN.out]; exact hlt)
      have hok : (ls[k]?.getD noLV).ok = true := by
        have hl : k < ls.length := by rw [HN.out]; exact hlt
        rw [List.getElem?_eq_getElem hl]
        exact List.all_eq_true.1 HO.out _ (List.getElem_mem hl)
      have hkl : Hid (k < ls.length) := by show k < ls.length; rw [HN.out]; exact hlt
      generalize HG : ls[k]?.getD noLV = q at *
      have HG' : Hid (ls[k]?.getD noLV = q) := HG
      clear HG
      obtain ⟨e0, e1, e2, e3, e4, e5⟩ := six_of hc
      clear hc
      obtain ⟨qk, qp, qz, ⟨qa, qn, qcap, qc, qm, qcap', qK, qC, qD⟩⟩ := q
      simp only at e0 e1 e2 e3 e4 e5
      have hok' : lineB qk qp qz qn qm qC qD qK = true := hok
      clear hok
      have B1 : Below w.heap.size w (wr.alloc (.cells #[.int .i64 qk, .int .i64 qp, .int .i64 qz, .slice qa qn qcap, .slice qc qm qcap', .int .i64 qK] 59)) := hb.alloc hb.size _
      have bx := Cel.new wr [.int .i64 qk, .int .i64 qp, .int .i64 qz, .slice qa qn qcap, .slice qc qm qcap', .int .i64 qK] 59
      have A1 : Below wr.heap.size wr (wr.alloc (.cells #[.int .i64 qk, .int .i64 qp, .int .i64 qz, .slice qa qn qcap, .slice qc qm qcap', .int .i64 qK] 59)) := (Below.refl _ _).alloc (Nat.le_refl _) _
      have P1 := hPz.keep A1
      have G1 := hGz.keep A1
      have T1 := hTz.keep A1
      have F1 := hAtL.below A1
      have z1 : w.heap.size ≤ wr.heap.size := hb.size
      clear A1 hPz hGz hTz hAtL
      by_cases hk4 : qk = 4
      · subst hk4
        have hrow : Hid (goW ls g k z = [stopW z]) := goW_stop hkl.out (by have := hkl.out; rw [HN.out] at this; omega) HG'.out (show ¬ (4 : Int) = 1 by decide) (show ¬ (4 : Int) = 2 by decide) (show ¬ (4 : Int) = 3 by decide)
        have FG : Hid (∀ j, j < ng → fitX 10000000 (y.guards[j]?.getD ([], [], 0))) := fun j hj => HY.out.gf j (by rw [HGL.out]; exact hj)
        go_wp2_with fail
        refine (scopy_any _ _ _ y.guards _ HGL.out G1 FG.out (by omega)).mono ?_
        rintro e w3 ⟨G3, cp3, xs3, rfl, j3⟩
        have hb3 := B1.trans (j3.b.mono B1.size)
        have f0 := j3.foff HGL.out
        rw [World.size_alloc] at f0
        have J := JR.one (w := w) (r := stopW y) (gc := cp3) (aa := none) (ac := 0) (ta := none) (tc := 0) hb3 (f0.mono (fun k hk => by omega)) FOff.noForms FOff.noForms
        rw [show (stopW y).guards.length = ng from HGL.out] at J
        clear j3 f0 e0 e1 e2 e3 e4 e5
        go_wp2
        go_ret
        rw [HEQ.out, hrow.out, show stopW z = stopW y by simp only [stopW, HZG.out]]
        exact ⟨_, _, _, rfl, J⟩
      · obtain ⟨hsm, hkk, hz16, hp3⟩ := lineW hok' hk4
        have hk4' : (qk == 4) = false := by simp [hk4]
        obtain ⟨⟨XC, XD, XK⟩, hFX⟩ : ∃ FX, FX = intoX ⟨qa, qn, qcap, qc, qm, qcap', qK, qC, qD⟩ z.pots := ⟨_, rfl⟩
        obtain ⟨fit1, fit2, fit3⟩ := HZ.out.into (by omega) (f := ⟨qa, qn, qcap, qc, qm, qcap', qK, qC, qD⟩) hsm F1.D.1
        rw [← hFX] at fit1 fit2 fit3
        have HFX : Hid (intoX ⟨qa, qn, qcap, qc, qm, qcap', qK, qC, qD⟩ z.pots = (XC, XD, XK)) := hFX.symm
        clear hFX
        have lXC : XC.length = 3 := fit2.c
        have lXD : XD.length = 2 := fit2.d
        have hg0 : 0 < g := by omega
        go_wp2_with fail
        refine (sintoW_any HZ.out (by omega) ⟨qa, qn, qcap, qc, qm, qcap', qK, qC, qD⟩ hsm _ F1 _ _ P1).mono ?_
        rintro e w3 ⟨D1, D2, d1, d2, rfl, b3, y1, y2, y3, u1, u2⟩
        rw [World.size_alloc] at y1 y3
        rw [show (intoX ⟨qa, qn, qcap, qc, qm, qcap', qK, qC, qD⟩ z.pots).1 = XC by rw [HFX.out]] at u1
        rw [show (intoX ⟨qa, qn, qcap, qc, qm, qcap', qK, qC, qD⟩ z.pots).2.1 = XD by rw [HFX.out]] at u2
        rw [show (intoX ⟨qa, qn, qcap, qc, qm, qcap', qK, qC, qD⟩ z.pots).2.2 = XK by rw [HFX.out]]
        have bx3 := bx.below b3
        have B3 := B1.trans (b3.mono B1.size)
        have P3 := P1.keep b3
        have T3 := T1.keep b3
        have G3 := G1.keep b3
        have l1 := u1.lt
        have l2 := u2.lt
        have s3 := b3.size
        rw [World.size_alloc] at s3
        clear b3 P1 T1 G1 bx F1 e0 e1 e2 e3 e4 e5 hok' hsm
        have fb := Cel.new w3 [.slice (some ⟨D1, 0, none⟩) 3 d1, .slice (some ⟨D2, 0, none⟩) 2 d2, .int .i64 XK] 34
        have A4 : Below w3.heap.size w3 (w3.alloc (.cells #[.slice (some ⟨D1, 0, none⟩) 3 d1, .slice (some ⟨D2, 0, none⟩) 2 d2, .int .i64 XK] 34)) := (Below.refl _ _).alloc (Nat.le_refl _) _
        have B4 := B3.trans (A4.mono B3.size)
        have P4 := P3.keep A4
        have T4 := T3.keep A4
        have G4 := G3.keep A4
        have v1 := u1.below A4
        have v2 := u2.below A4
        have bx4 := bx3.below A4
        clear A4 B3 P3 T3 G3 u1 u2 bx3
        obtain ⟨m0, m1, m2, m3, m4, m5⟩ := bx4.six
        rcases hkk with rfl | rfl | rfl
        · obtain ⟨hs1, hs6⟩ := hz16 rfl
          obtain ⟨sk, rfl⟩ : ∃ sk : Nat, qz = sk := ⟨qz.toNat, by omega⟩
          have hgo : Hid (goW ls g k z = goW ls (g - 1) (k + 1) (z.guard (XC, XD, XK)) ++ goW ls (g - 1) (k + 1 + sk) (z.guard (minusX (XC, XD, XK)))) := by
            obtain ⟨g', rfl⟩ : ∃ g', g = g' + 1 := ⟨g - 1, by omega⟩
            show goW ls (g' + 1) k z = _
            rw [goW, if_pos hkl.out, HG'.out]
            simp only [HFX.out]
            rfl
          have HW1 : Hid (WayOk (k + 1) (z.guard (XC, XD, XK))) := HZ.out.guard (by omega) fit2
          have HW2 : Hid (WayOk (k + 1 + sk) (z.guard (minusX (XC, XD, XK)))) := HZ.out.guard (by omega) fit3
          have FP : Hid (∀ j, j < 3 → fitX 10000000 (z.pots[j]?.getD ([], [], 0))) := fun j hj => (HZ.out.pf j hj).mono (by have := wb_six (n := min k 6) (by omega); omega)
          have FG : Hid (∀ j, j < ng → fitX 10000000 (y.guards[j]?.getD ([], [], 0))) := fun j hj => HY.out.gf j (by rw [HGL.out]; exact hj)
          have FT : Hid (∀ j, j < nt → fitX 10000000 (z.tells[j]?.getD ([], [], 0))) := fun j hj => HZ.out.tf j (by rw [HZT.out]; exact hj)
          have HL1 : Hid ((z.guard (XC, XD, XK)).guards.length = ng + 1) := by show (z.guards ++ [_]).length = _; rw [List.length_append, HZG.out, HGL.out]; rfl
          have HL2 : Hid ((z.guard (minusX (XC, XD, XK))).guards.length = ng + 1) := by show (z.guards ++ [_]).length = _; rw [List.length_append, HZG.out, HGL.out]; rfl
          have bXC : bnd 10000000 XC := fit2.bc
          have bXD : bnd 10000000 XD := fit2.bd
          have bX1 : -10000000 ≤ XK := fit2.k1
          have bX2 : XK ≤ 10000000 := fit2.k2
          obtain ⟨R1, hR1⟩ : ∃ R, R = goW ls (g - 1) (k + 1) (z.guard (XC, XD, XK)) := ⟨_, rfl⟩
          obtain ⟨R2, hR2⟩ : ∃ R, R = goW ls (g - 1) (k + 1 + sk) (z.guard (minusX (XC, XD, XK))) := ⟨_, rfl⟩
          have q1 : R1.length ≤ 128 := by rw [hR1]; exact goW_128 (by omega)
          have q2 : R2.length ≤ 128 := by rw [hR2]; exact goW_128 (by omega)
          have q3 : 0 < R2.length := by rw [hR2]; exact goW_ne _ _ _
          have HR1 : Hid _ := hR1
          have HR2 : Hid _ := hR2
          have HGO : Hid (goW ls f i0 y = R1 ++ R2) := by show _ = _; rw [HEQ.out, hgo.out, hR1, hR2]
          have C1 : Hid (∀ (pa' : Option Addr) (cp' : Nat) (ga' : Option Addr) (gc' : Nat) (ta' : Option Addr) (tc' : Nat) (W : World), LinesG W (some ⟨b, off, none⟩) ls → FormsAt W pa' z.pots → FormsAt W ga' (y.guards ++ [(XC, XD, XK)]) → FormsAt W ta' z.tells → Calls Try.prog 87 #[.slice (some ⟨b, off, none⟩) N cap, .int .i64 ((k : Int) + 1), .slice pa' 3 cp', .slice ga' (ng + 1) gc', .slice ta' nt tc'] W fun e w' => ∃ G cp' xs, e = .returned (.slice (some ⟨G, 0, none⟩) R1.length cp') ∧ JR W G cp' xs R1 w') := fun pa' cp' ga' gc' ta' tc' W h1 h2 h3 h4 => by
            have := IH.out (g - 1) (by omega) (k + 1) (z.guard (XC, XD, XK)) pa' cp' ga' (ng + 1) gc' ta' nt tc' W (by omega) (by omega) (by omega) HW1.out HL1.out HZT.out h1 h2 (by show FormsAt W ga' (z.guards ++ [_]); rw [HZG.out]; exact h3) h4
            rw [← hR1, show ((k + 1 : Nat) : Int) = (k : Int) + 1 by omega] at this; exact this
          have C2 : Hid (∀ (pa' : Option Addr) (cp' : Nat) (ga' : Option Addr) (gc' : Nat) (ta' : Option Addr) (tc' : Nat) (W : World), LinesG W (some ⟨b, off, none⟩) ls → FormsAt W pa' z.pots → FormsAt W ga' (y.guards ++ [minusX (XC, XD, XK)]) → FormsAt W ta' z.tells → Calls Try.prog 87 #[.slice (some ⟨b, off, none⟩) N cap, .int .i64 ((k : Int) + 1 + sk), .slice pa' 3 cp', .slice ga' (ng + 1) gc', .slice ta' nt tc'] W fun e w' => ∃ G cp' xs, e = .returned (.slice (some ⟨G, 0, none⟩) R2.length cp') ∧ JR W G cp' xs R2 w') := fun pa' cp' ga' gc' ta' tc' W h1 h2 h3 h4 => by
            have := IH.out (g - 1) (by omega) (k + 1 + sk) (z.guard (minusX (XC, XD, XK))) pa' cp' ga' (ng + 1) gc' ta' nt tc' W (by omega) (by omega) (by omega) HW2.out HL2.out HZT.out h1 h2 (by show FormsAt W ga' (z.guards ++ [_]); rw [HZG.out]; exact h3) h4
            rw [← hR2, show ((k + 1 + sk : Nat) : Int) = (k : Int) + 1 + sk by omega] at this; exact this
          clear hR1 hR2 IH fit1 fit2 fit3
          have hw1 : IntKind.i64.wrap ((k : Int) + 1) = (k : Int) + 1 := wrap_id (by omega) (by omega)
          have hw2 : IntKind.i64.wrap ((k : Int) + 1 + sk) = (k : Int) + 1 + sk := wrap_id (by omega) (by omega)
          go_upto_region 11 with fail
          obtain ⟨W4, hW4⟩ : ∃ W4, W4 = w3.alloc (.cells #[.slice (some ⟨D1, 0, none⟩) 3 d1, .slice (some ⟨D2, 0, none⟩) 2 d2, .int .i64 XK] 34) := ⟨_, rfl⟩
          have z4 : W4.heap.size = w3.heap.size + 1 := by rw [hW4, World.size_alloc]
          rw [← hW4] at fb B4 P4 T4 G4 v1 v2 bx4 m0 m1 m2 m3 m4 m5 ⊢
          clear hW4 m0 m1 m2 m3 m4 m5
          have KP : Hid (∀ W, Below W4.heap.size W4 W → (W.cell? ⟨w3.heap.size, 0, none⟩ = some (.slice (some ⟨D1, 0, none⟩) 3 d1) ∧ W.cell? ⟨w3.heap.size, 1, none⟩ = some (.slice (some ⟨D2, 0, none⟩) 2 d2) ∧ W.cell? ⟨w3.heap.size, 2, none⟩ = some (.int .i64 XK))) := fun W hW => by
            obtain ⟨n0, n1, n2, _, _, _⟩ := (fb.below hW).trio
            exact ⟨n0, n1, n2⟩
          have KQ : Hid (∀ W, Below W4.heap.size W4 W → (W.cell? ⟨wr.heap.size, 2, none⟩ = some (.int .i64 (sk : Int)) ∧ W.cell? ⟨w3.heap.size, 0, none⟩ = some (.slice (some ⟨D1, 0, none⟩) 3 d1) ∧ W.cell? ⟨w3.heap.size, 1, none⟩ = some (.slice (some ⟨D2, 0, none⟩) 2 d2) ∧ W.cell? ⟨w3.heap.size, 2, none⟩ = some (.int .i64 XK))) := fun W hW => by
            obtain ⟨n0, n1, n2, _, _, _⟩ := (fb.below hW).trio
            obtain ⟨_, _, o2, _, _, _⟩ := (bx4.below hW).six
            exact ⟨o2, n0, n1, n2⟩
          have z4a : w3.heap.size + 1 ≤ W4.heap.size := by omega
          clear z4 bx4 fb
          go_cut [14] from 17 to 94 (fun yv wx => ∃ G cp' xs, yv = .slice (some ⟨G, 0, none⟩) R1.length cp' ∧ JR w G cp' xs R1 wx ∧ Below W4.heap.size W4 wx)
          case first =>
            have c0 : Below W4.heap.size W4 W4.drew := (Below.refl _ _).drew
            have hSS : (W4.drew.cell? ⟨w3.heap.size, 0, none⟩ = some (.slice (some ⟨D1, 0, none⟩) 3 d1) ∧ W4.drew.cell? ⟨w3.heap.size, 1, none⟩ = some (.slice (some ⟨D2, 0, none⟩) 2 d2) ∧ W4.drew.cell? ⟨w3.heap.size, 2, none⟩ = some (.int .i64 XK)) ∧ True := ⟨KP.out _ c0, trivial⟩
            refine wp_region_ends (fun w' => w'.cell? ⟨w3.heap.size, 0, none⟩ = some (.slice (some ⟨D1, 0, none⟩) 3 d1) ∧ w'.cell? ⟨w3.heap.size, 1, none⟩ = some (.slice (some ⟨D2, 0, none⟩) 2 d2) ∧ w'.cell? ⟨w3.heap.size, 2, none⟩ = some (.int .i64 XK)) (fun _ => True) 13 (by kernel_rfl) ?_
            refine wpAnyE_take0 (i := 0) (v := ?av0) rfl (by kernel_rfl) (by kernel_rfl) (by kernel_rfl) (by decide) (fun _ _ _ h => h) (Or.inl ⟨by rfl, ?ay0⟩) hSS ?_
            case ay0 => (intro wz hSw; (try dsimp only at hSw); go_simp; try (with_reducible rfl))
            refine wpAnyE_take0 (i := 1) (v := ?av1) rfl (by kernel_rfl) (by kernel_rfl) (by kernel_rfl) (by decide) (fun _ _ _ h => h) (Or.inl ⟨by rfl, ?ay1⟩) hSS ?_
            case ay1 => (intro wz hSw; (try dsimp only at hSw); go_simp; try (with_reducible rfl))
            refine wpAnyE_take0 (i := 2) (v := ?av2) rfl (by kernel_rfl) (by kernel_rfl) (by kernel_rfl) (by decide) (fun _ _ _ h => h) (Or.inl ⟨by rfl, ?ay2⟩) hSS ?_
            case ay2 => (intro wz hSw; (try dsimp only at hSw); go_simp; try (with_reducible rfl))
            refine wpAnyE_take0 (i := 3) (v := ?av3) rfl (by kernel_rfl) (by kernel_rfl) (by kernel_rfl) (by decide) (fun _ _ _ h => h) (Or.inl ⟨by rfl, ?ay3⟩) hSS ?_
            case ay3 => (intro wz hSw; (try dsimp only at hSw); go_simp; try (with_reducible rfl))
            refine wpAnyE_take0 (i := 5) (v := ?av5) rfl (by kernel_rfl) (by kernel_rfl) (by kernel_rfl) (by decide) (fun _ _ _ h => h) (Or.inl ⟨by rfl, ?ay5⟩) hSS ?_
            case ay5 => (intro wz hSw; (try dsimp only at hSw); go_simp; try (with_reducible rfl))
            refine wpAnyE_take0 (i := 7) (v := ?av7) rfl (by kernel_rfl) (by kernel_rfl) (by kernel_rfl) (by decide) (fun _ _ _ h => h) (Or.inl ⟨by rfl, ?ay7⟩) hSS ?_
            case ay7 => (intro wz hSw; (try dsimp only at hSw); go_simp; try (with_reducible rfl))
            refine wpAnyE_take0 (i := 10) (v := ?av10) rfl (by kernel_rfl) (by kernel_rfl) (by kernel_rfl) (by decide) (fun _ _ _ h => h) (Or.inl ⟨by rfl, ?ay10⟩) hSS ?_
            case ay10 => (intro wz hSw; (try dsimp only at hSw); go_simp; try (with_reducible rfl))
            clear hSS
            generalize W4.drew = Wd at *
            have zc := c0.size
            refine wpAnyE_two (i := 4) (j := 8) (by kernel_rfl) rfl rfl (fun K hK => ?_) (fun K hK => ?_)
            · go_simp
              refine (scopy_any _ _ _ z.pots _ HZ.out.pl (P4.keep c0) FP.out (by omega)).mono ?_
              rintro ee x1 ⟨Gp, cpP, xsP, rfl, jP⟩
              have fP := jP.at HZ.out.pl
              have e1 := jP.b
              have c1 := c0.trans (e1.mono c0.size)
              clear jP
              have sz1 := e1.size
              (try dsimp only)
              refine hK.out _ _ ⟨KP.out _ c1, fun _ => trivial⟩ ?_
              clear hK K
              refine wpAnyE_two (i := 6) (j := 8) (by kernel_rfl) rfl rfl (fun K hK => ?_) (fun K hK => ?_)
              · have fPB := fP
                go_simp
                refine (scopy_any _ _ _ y.guards _ HGL.out (G4.keep c1) FG.out (by omega)).mono ?_
                rintro ee x2 ⟨Gg, cpG, xsG, rfl, jG⟩
                have e2 := jG.b
                have lG := jG.lt
                have c2 := c1.trans (e2.mono c1.size)
                have fP := fP.keep e2
                have sz2 := e2.size
                have gB := jG.b.size
                (try dsimp only)
                refine hK.out _ _ ⟨KP.out _ c2, fun _ => trivial⟩ ?_
                clear hK K
                refine wpAnyE_one (i := 8) (by kernel_rfl) rfl (fun K hK => ?_)
                go_simp
                obtain ⟨x3, hx3⟩ : ∃ W, W = x2.alloc (.cells #[Value.slice (some ⟨D1, 0, none⟩) 3 d1, Value.slice (some ⟨D2, 0, none⟩) 2 d2, Value.int .i64 XK] 34) := ⟨_, rfl⟩
                have nb := Cel.new x2 [Value.slice (some ⟨D1, 0, none⟩) 3 d1, Value.slice (some ⟨D2, 0, none⟩) 2 d2, Value.int .i64 XK] 34
                have e3 : Below x2.heap.size x2 x3 := by rw [hx3]; exact (Below.refl _ _).alloc (Nat.le_refl _) _
                rw [← hx3] at nb ⊢
                clear hx3
                have c3 := c2.trans (e3.mono c2.size)
                have fP := fP.keep e3
                have jG := jG.below e3
                have sz3 := e3.size
                (try dsimp only)
                refine hK.out _ _ ⟨KP.out _ c3, fun _ => trivial⟩ ?_
                clear hK K
                refine wpAnyE_one (i := 9) (by kernel_rfl) rfl (fun K hK => ?_)
                rw [if_pos (by rfl)]
                refine wp_append_lies _ (.tmp 53) (.tmp 55) 23 rfl _ 34 zi _ 3 56 Try.underlying23 hi hz0 hz1 hz2 rfl (by omega) (.slice (some ⟨Gg, 0, none⟩) ng cpG) ng xsG (by rfl) jG.o ⟨x2.heap.size, 0, none⟩ 1 1 [Value.slice (some ⟨D1, 0, none⟩) 3 d1, Value.slice (some ⟨D2, 0, none⟩) 2 d2, Value.int .i64 XK] (by rfl) (by rfl) (World.news_of_block (cs := #[Value.slice (some ⟨D1, 0, none⟩) 3 d1, Value.slice (some ⟨D2, 0, none⟩) 2 d2, Value.int .i64 XK]) (t := 34) (fr := (0, 0)) nb) (by simp [Value.oneCell']) (by omega) (by unfold maxLen; omega) (by omega) jG.b.size _ rfl ?_
                intro gg cpg x7 hown hgrow hatg hltg
                obtain ⟨b7, fG⟩ := jG.snoc HGL.out hown hgrow hatg rfl ((v1.below c3).ints' lXC) ((v2.below c3).ints' lXD) (by have := lG.1; omega) (by have := lG.1; omega)
                have c7 := c1.trans (b7.mono c1.size)
                have fP := fPB.keep b7
                clear hown hgrow hatg nb jG
                (try dsimp only)
                refine hK.out _ _ ⟨KP.out _ c7, fun _ => trivial⟩ ?_
                clear hK K
                refine wpAnyE_one (i := 11) (by kernel_rfl) rfl (fun K hK => ?_)
                go_simp
                refine (scopy_any _ _ _ z.tells _ HZT.out (T4.keep c7) FT.out (by omega)).mono ?_
                rintro ee x8 ⟨Gt, cpT, xsT, rfl, jT⟩
                have fT := jT.at HZT.out
                have e8 := jT.b
                have c8 := c7.trans (e8.mono c7.size)
                clear jT
                have fP := fP.keep e8
                have fG := fG.keep e8
                (try dsimp only)
                refine hK.out _ _ ⟨KP.out _ c8, fun _ => trivial⟩ ?_
                clear hK K
                refine wpAnyE_one (i := 12) (by kernel_rfl) rfl (fun K hK => ?_)
                go_simp
                refine (C1.out _ _ _ _ _ _ _ (hF.below (B4.trans (c8.mono B4.size))) fP fG fT).mono ?_
                rintro ee x9 ⟨Gy, cpy, xsy, rfl, jY⟩
                have e9 := jY.b
                have c9 := c8.trans (e9.mono c8.size)
                have jY' := jY.mono (B4.trans (c8.mono B4.size))
                clear jY
                (try dsimp only)
                refine hK.out _ _ ⟨KP.out _ c9, fun _ => trivial⟩ ?_
                clear hK K
                refine wpAnyE_one (i := 13) (by kernel_rfl) rfl (fun K hK => ?_)
                go_simp
                (try dsimp only)
                refine hK.out _ _ ⟨KP.out _ c9, fun _ => trivial⟩ ?_
                clear hK K
                refine wpAnyE_done (by kernel_rfl) ?_ _
                clear fP fG fT fPB
                go_wp2_with fail
                go_meet
                case rel => exact ⟨Gy, cpy, xsy, rfl, jY', c9⟩
              · go_simp
                obtain ⟨x2, hx2⟩ : ∃ W, W = x1.alloc (.cells #[Value.slice (some ⟨D1, 0, none⟩) 3 d1, Value.slice (some ⟨D2, 0, none⟩) 2 d2, Value.int .i64 XK] 34) := ⟨_, rfl⟩
                have nb := Cel.new x1 [Value.slice (some ⟨D1, 0, none⟩) 3 d1, Value.slice (some ⟨D2, 0, none⟩) 2 d2, Value.int .i64 XK] 34
                have e2 : Below x1.heap.size x1 x2 := by rw [hx2]; exact (Below.refl _ _).alloc (Nat.le_refl _) _
                rw [← hx2] at nb ⊢
                clear hx2
                have c2 := c1.trans (e2.mono c1.size)
                have fP := fP.keep e2
                have sz2 := e2.size
                (try dsimp only)
                refine hK.out _ _ ⟨KP.out _ c2, fun _ => trivial⟩ ?_
                clear hK K
                refine wpAnyE_one (i := 6) (by kernel_rfl) rfl (fun K hK => ?_)
                have fPB := fP
                go_simp
                refine (scopy_any _ _ _ y.guards _ HGL.out (G4.keep c2) FG.out (by omega)).mono ?_
                rintro ee x3 ⟨Gg, cpG, xsG, rfl, jG⟩
                have e3 := jG.b
                have lG := jG.lt
                have c3 := c2.trans (e3.mono c2.size)
                have fP := fP.keep e3
                have nb := nb.below e3
                have sz3 := e3.size
                have gB := jG.b.size
                (try dsimp only)
                refine hK.out _ _ ⟨KP.out _ c3, fun _ => trivial⟩ ?_
                clear hK K
                refine wpAnyE_one (i := 9) (by kernel_rfl) rfl (fun K hK => ?_)
                rw [if_pos (by rfl)]
                refine wp_append_lies _ (.tmp 53) (.tmp 55) 23 rfl _ 34 zi _ 3 56 Try.underlying23 hi hz0 hz1 hz2 rfl (by omega) (.slice (some ⟨Gg, 0, none⟩) ng cpG) ng xsG (by rfl) jG.o ⟨x1.heap.size, 0, none⟩ 1 1 [Value.slice (some ⟨D1, 0, none⟩) 3 d1, Value.slice (some ⟨D2, 0, none⟩) 2 d2, Value.int .i64 XK] (by rfl) (by rfl) (World.news_of_block (cs := #[Value.slice (some ⟨D1, 0, none⟩) 3 d1, Value.slice (some ⟨D2, 0, none⟩) 2 d2, Value.int .i64 XK]) (t := 34) (fr := (0, 0)) nb) (by simp [Value.oneCell']) (by omega) (by unfold maxLen; omega) (by omega) jG.b.size _ rfl ?_
                intro gg cpg x7 hown hgrow hatg hltg
                obtain ⟨b7, fG⟩ := jG.snoc HGL.out hown hgrow hatg rfl ((v1.below c3).ints' lXC) ((v2.below c3).ints' lXD) (by have := lG.1; omega) (by have := lG.1; omega)
                have c7 := c2.trans (b7.mono c2.size)
                have fP := fPB.keep b7
                clear hown hgrow hatg nb jG
                (try dsimp only)
                refine hK.out _ _ ⟨KP.out _ c7, fun _ => trivial⟩ ?_
                clear hK K
                refine wpAnyE_one (i := 11) (by kernel_rfl) rfl (fun K hK => ?_)
                go_simp
                refine (scopy_any _ _ _ z.tells _ HZT.out (T4.keep c7) FT.out (by omega)).mono ?_
                rintro ee x8 ⟨Gt, cpT, xsT, rfl, jT⟩
                have fT := jT.at HZT.out
                have e8 := jT.b
                have c8 := c7.trans (e8.mono c7.size)
                clear jT
                have fP := fP.keep e8
                have fG := fG.keep e8
                (try dsimp only)
                refine hK.out _ _ ⟨KP.out _ c8, fun _ => trivial⟩ ?_
                clear hK K
                refine wpAnyE_one (i := 12) (by kernel_rfl) rfl (fun K hK => ?_)
                go_simp
                refine (C1.out _ _ _ _ _ _ _ (hF.below (B4.trans (c8.mono B4.size))) fP fG fT).mono ?_
                rintro ee x9 ⟨Gy, cpy, xsy, rfl, jY⟩
                have e9 := jY.b
                have c9 := c8.trans (e9.mono c8.size)
                have jY' := jY.mono (B4.trans (c8.mono B4.size))
                clear jY
                (try dsimp only)
                refine hK.out _ _ ⟨KP.out _ c9, fun _ => trivial⟩ ?_
                clear hK K
                refine wpAnyE_one (i := 13) (by kernel_rfl) rfl (fun K hK => ?_)
                go_simp
                (try dsimp only)
                refine hK.out _ _ ⟨KP.out _ c9, fun _ => trivial⟩ ?_
                clear hK K
                refine wpAnyE_done (by kernel_rfl) ?_ _
                clear fP fG fT fPB
                go_wp2_with fail
                go_meet
                case rel => exact ⟨Gy, cpy, xsy, rfl, jY', c9⟩
            · go_simp
              obtain ⟨x1, hx1⟩ : ∃ W, W = Wd.alloc (.cells #[Value.slice (some ⟨D1, 0, none⟩) 3 d1, Value.slice (some ⟨D2, 0, none⟩) 2 d2, Value.int .i64 XK] 34) := ⟨_, rfl⟩
              have nb := Cel.new Wd [Value.slice (some ⟨D1, 0, none⟩) 3 d1, Value.slice (some ⟨D2, 0, none⟩) 2 d2, Value.int .i64 XK] 34
              have e1 : Below Wd.heap.size Wd x1 := by rw [hx1]; exact (Below.refl _ _).alloc (Nat.le_refl _) _
              rw [← hx1] at nb ⊢
              clear hx1
              have c1 := c0.trans (e1.mono c0.size)
              have sz1 := e1.size
              (try dsimp only)
              refine hK.out _ _ ⟨KP.out _ c1, fun _ => trivial⟩ ?_
              clear hK K
              refine wpAnyE_one (i := 4) (by kernel_rfl) rfl (fun K hK => ?_)
              go_simp
              refine (scopy_any _ _ _ z.pots _ HZ.out.pl (P4.keep c1) FP.out (by omega)).mono ?_
              rintro ee x2 ⟨Gp, cpP, xsP, rfl, jP⟩
              have fP := jP.at HZ.out.pl
              have e2 := jP.b
              have c2 := c1.trans (e2.mono c1.size)
              clear jP
              have nb := nb.below e2
              have sz2 := e2.size
              (try dsimp only)
              refine hK.out _ _ ⟨KP.out _ c2, fun _ => trivial⟩ ?_
              clear hK K
              refine wpAnyE_one (i := 6) (by kernel_rfl) rfl (fun K hK => ?_)
              have fPB := fP
              go_simp
              refine (scopy_any _ _ _ y.guards _ HGL.out (G4.keep c2) FG.out (by omega)).mono ?_
              rintro ee x3 ⟨Gg, cpG, xsG, rfl, jG⟩
              have e3 := jG.b
              have lG := jG.lt
              have c3 := c2.trans (e3.mono c2.size)
              have fP := fP.keep e3
              have nb := nb.below e3
              have sz3 := e3.size
              have gB := jG.b.size
              (try dsimp only)
              refine hK.out _ _ ⟨KP.out _ c3, fun _ => trivial⟩ ?_
              clear hK K
              refine wpAnyE_one (i := 9) (by kernel_rfl) rfl (fun K hK => ?_)
              rw [if_pos (by rfl)]
              refine wp_append_lies _ (.tmp 53) (.tmp 55) 23 rfl _ 34 zi _ 3 56 Try.underlying23 hi hz0 hz1 hz2 rfl (by omega) (.slice (some ⟨Gg, 0, none⟩) ng cpG) ng xsG (by rfl) jG.o ⟨Wd.heap.size, 0, none⟩ 1 1 [Value.slice (some ⟨D1, 0, none⟩) 3 d1, Value.slice (some ⟨D2, 0, none⟩) 2 d2, Value.int .i64 XK] (by rfl) (by rfl) (World.news_of_block (cs := #[Value.slice (some ⟨D1, 0, none⟩) 3 d1, Value.slice (some ⟨D2, 0, none⟩) 2 d2, Value.int .i64 XK]) (t := 34) (fr := (0, 0)) nb) (by simp [Value.oneCell']) (by omega) (by unfold maxLen; omega) (by omega) jG.b.size _ rfl ?_
              intro gg cpg x7 hown hgrow hatg hltg
              obtain ⟨b7, fG⟩ := jG.snoc HGL.out hown hgrow hatg rfl ((v1.below c3).ints' lXC) ((v2.below c3).ints' lXD) (by have := lG.1; omega) (by have := lG.1; omega)
              have c7 := c2.trans (b7.mono c2.size)
              have fP := fPB.keep b7
              clear hown hgrow hatg nb jG
              (try dsimp only)
              refine hK.out _ _ ⟨KP.out _ c7, fun _ => trivial⟩ ?_
              clear hK K
              refine wpAnyE_one (i := 11) (by kernel_rfl) rfl (fun K hK => ?_)
              go_simp
              refine (scopy_any _ _ _ z.tells _ HZT.out (T4.keep c7) FT.out (by omega)).mono ?_
              rintro ee x8 ⟨Gt, cpT, xsT, rfl, jT⟩
              have fT := jT.at HZT.out
              have e8 := jT.b
              have c8 := c7.trans (e8.mono c7.size)
              clear jT
              have fP := fP.keep e8
              have fG := fG.keep e8
              (try dsimp only)
              refine hK.out _ _ ⟨KP.out _ c8, fun _ => trivial⟩ ?_
              clear hK K
              refine wpAnyE_one (i := 12) (by kernel_rfl) rfl (fun K hK => ?_)
              go_simp
              refine (C1.out _ _ _ _ _ _ _ (hF.below (B4.trans (c8.mono B4.size))) fP fG fT).mono ?_
              rintro ee x9 ⟨Gy, cpy, xsy, rfl, jY⟩
              have e9 := jY.b
              have c9 := c8.trans (e9.mono c8.size)
              have jY' := jY.mono (B4.trans (c8.mono B4.size))
              clear jY
              (try dsimp only)
              refine hK.out _ _ ⟨KP.out _ c9, fun _ => trivial⟩ ?_
              clear hK K
              refine wpAnyE_one (i := 13) (by kernel_rfl) rfl (fun K hK => ?_)
              go_simp
              (try dsimp only)
              refine hK.out _ _ ⟨KP.out _ c9, fun _ => trivial⟩ ?_
              clear hK K
              refine wpAnyE_done (by kernel_rfl) ?_ _
              clear fP fG fT fPB
              go_wp2_with fail
              go_meet
              case rel => exact ⟨Gy, cpy, xsy, rfl, jY', c9⟩
          case rest =>
            obtain ⟨Gy, cpy, xsy, rfl, jY, cc⟩ := hcut
            go_upto_region 12 with fail
            have c0 : Below W4.heap.size W4 wc.drew := cc.drew
            have hSS : (wc.drew.cell? ⟨wr.heap.size, 2, none⟩ = some (.int .i64 (sk : Int)) ∧ wc.drew.cell? ⟨w3.heap.size, 0, none⟩ = some (.slice (some ⟨D1, 0, none⟩) 3 d1) ∧ wc.drew.cell? ⟨w3.heap.size, 1, none⟩ = some (.slice (some ⟨D2, 0, none⟩) 2 d2) ∧ wc.drew.cell? ⟨w3.heap.size, 2, none⟩ = some (.int .i64 XK)) ∧ True := ⟨KQ.out _ c0, trivial⟩
            refine wp_region_ends (fun w' => w'.cell? ⟨wr.heap.size, 2, none⟩ = some (.int .i64 (sk : Int)) ∧ w'.cell? ⟨w3.heap.size, 0, none⟩ = some (.slice (some ⟨D1, 0, none⟩) 3 d1) ∧ w'.cell? ⟨w3.heap.size, 1, none⟩ = some (.slice (some ⟨D2, 0, none⟩) 2 d2) ∧ w'.cell? ⟨w3.heap.size, 2, none⟩ = some (.int .i64 XK)) (fun _ => True) 17 (by kernel_rfl) ?_
            refine wpAnyE_take0 (i := 0) (v := ?bv0) rfl (by kernel_rfl) (by kernel_rfl) (by kernel_rfl) (by decide) (fun _ _ _ h => h) (Or.inl ⟨by rfl, ?by0⟩) hSS ?_
            case by0 => (intro wz hSw; (try dsimp only at hSw); go_simp; try (with_reducible rfl))
            refine wpAnyE_take0 (i := 1) (v := ?bv1) rfl (by kernel_rfl) (by kernel_rfl) (by kernel_rfl) (by decide) (fun _ _ _ h => h) (Or.inl ⟨by rfl, ?by1⟩) hSS ?_
            case by1 => (intro wz hSw; (try dsimp only at hSw); go_simp; try (with_reducible rfl))
            refine wpAnyE_take0 (i := 2) (v := ?bv2) rfl (by kernel_rfl) (by kernel_rfl) (by kernel_rfl) (by decide) (fun _ _ _ h => h) (Or.inl ⟨by rfl, ?by2⟩) hSS ?_
            case by2 => (intro wz hSw; (try dsimp only at hSw); go_simp; try (with_reducible rfl))
            refine wpAnyE_take0 (i := 3) (v := ?bv3) rfl (by kernel_rfl) (by kernel_rfl) (by kernel_rfl) (by decide) (fun _ _ _ h => h) (Or.inl ⟨by rfl, ?by3⟩) hSS ?_
            case by3 => (intro wz hSw; (try dsimp only at hSw); go_simp; try (with_reducible rfl))
            refine wpAnyE_take0 (i := 4) (v := ?bv4) rfl (by kernel_rfl) (by kernel_rfl) (by kernel_rfl) (by decide) (fun _ _ _ h => h) (Or.inl ⟨by rfl, ?by4⟩) hSS ?_
            case by4 => (intro wz hSw; (try dsimp only at hSw); go_simp; try (with_reducible rfl))
            refine wpAnyE_take0 (i := 5) (v := ?bv5) rfl (by kernel_rfl) (by kernel_rfl) (by kernel_rfl) (by decide) (fun _ _ _ h => h) (Or.inl ⟨by rfl, ?by5⟩) hSS ?_
            case by5 => (intro wz hSw; (try dsimp only at hSw); go_simp; try (with_reducible rfl))
            refine wpAnyE_take0 (i := 6) (v := ?bv6) rfl (by kernel_rfl) (by kernel_rfl) (by kernel_rfl) (by decide) (fun _ _ _ h => h) (Or.inl ⟨by rfl, ?by6⟩) hSS ?_
            case by6 => (intro wz hSw; (try dsimp only at hSw); go_simp; try (with_reducible rfl))
            refine wpAnyE_take0 (i := 8) (v := ?bv8) rfl (by kernel_rfl) (by kernel_rfl) (by kernel_rfl) (by decide) (fun _ _ _ h => h) (Or.inl ⟨by rfl, ?by8⟩) hSS ?_
            case by8 => (intro wz hSw; (try dsimp only at hSw); go_simp; try (with_reducible rfl))
            refine wpAnyE_take0 (i := 10) (v := ?bv10) rfl (by kernel_rfl) (by kernel_rfl) (by kernel_rfl) (by decide) (fun _ _ _ h => h) (Or.inl ⟨by rfl, ?by10⟩) hSS ?_
            case by10 => (intro wz hSw; (try dsimp only at hSw); go_simp; try (with_reducible rfl))
            refine wpAnyE_take0 (i := 14) (v := ?bv14) rfl (by kernel_rfl) (by kernel_rfl) (by kernel_rfl) (by decide) (fun _ _ _ h => h) (Or.inl ⟨by rfl, ?by14⟩) hSS ?_
            case by14 => (intro wz hSw; (try dsimp only at hSw); go_simp; try (with_reducible rfl))
            clear hSS
            have jY := jY.below (Below.refl _ _).drew
            generalize wc.drew = Wd at *
            have lY := jY.lt
            refine wpAnyE_one (i := 7) (by kernel_rfl) rfl (fun K hK => ?_)
            go_simp
            refine (scopy_any _ _ _ z.pots _ HZ.out.pl (P4.keep c0) FP.out (by omega)).mono ?_
            rintro ee x1 ⟨Gp, cpP, xsP, rfl, jP⟩
            have fP := jP.at HZ.out.pl
            have e1 := jP.b
            have c1 := c0.trans (e1.mono c0.size)
            clear jP
            have jY := jY.below e1
            have sz1 := e1.size
            (try dsimp only)
            refine hK.out _ _ ⟨KQ.out _ c1, fun _ => trivial⟩ ?_
            clear hK K
            refine wpAnyE_one (i := 9) (by kernel_rfl) rfl (fun K hK => ?_)
            have fPB := fP
            have jYB := jY
            go_simp
            refine (scopy_any _ _ _ y.guards _ HGL.out (G4.keep c1) FG.out (by omega)).mono ?_
            rintro ee x2 ⟨Gg, cpG, xsG, rfl, jG⟩
            have e2 := jG.b
            have lG := jG.lt
            have c2 := c1.trans (e2.mono c1.size)
            have jY := jY.below e2
            have sz2 := e2.size
            have gB := jG.b.size
            (try dsimp only)
            refine hK.out _ _ ⟨KQ.out _ c2, fun _ => trivial⟩ ?_
            clear hK K
            refine wpAnyE_one (i := 11) (by kernel_rfl) rfl (fun K hK => ?_)
            go_simp
            refine (sminus_any _ _ _ _ _ XC XD _ ((v1.below c2).ints' lXC) ((v2.below c2).ints' lXD) bXC bXD bX1 bX2).mono ?_
            rintro ee x3 ⟨M1, M2, rfl, e3, y1', y2', y3', n1, n2⟩
            have c3 := c2.trans (e3.mono c2.size)
            have jG := jG.below e3
            have jY := jY.below e3
            have sz3 := e3.size
            have ln1 := n1.lt
            have ln2 := n2.lt
            (try dsimp only)
            refine hK.out _ _ ⟨KQ.out _ c3, fun _ => trivial⟩ ?_
            clear hK K
            refine wpAnyE_one (i := 12) (by kernel_rfl) rfl (fun K hK => ?_)
            go_simp
            obtain ⟨x4, hx4⟩ : ∃ W, W = x3.alloc (.cells #[Value.slice (some ⟨M1, 0, none⟩) 3 3, Value.slice (some ⟨M2, 0, none⟩) 2 2, Value.int .i64 (-XK - 1)] 34) := ⟨_, rfl⟩
            have nb := Cel.new x3 [Value.slice (some ⟨M1, 0, none⟩) 3 3, Value.slice (some ⟨M2, 0, none⟩) 2 2, Value.int .i64 (-XK - 1)] 34
            have e4 : Below x3.heap.size x3 x4 := by rw [hx4]; exact (Below.refl _ _).alloc (Nat.le_refl _) _
            rw [← hx4] at nb ⊢
            clear hx4
            have c4 := c3.trans (e4.mono c3.size)
            have jG := jG.below e4
            have jY := jY.below e4
            have n1 := n1.below e4
            have n2 := n2.below e4
            have sz4 := e4.size
            (try dsimp only)
            refine hK.out _ _ ⟨KQ.out _ c4, fun _ => trivial⟩ ?_
            clear hK K
            refine wpAnyE_one (i := 13) (by kernel_rfl) rfl (fun K hK => ?_)
            rw [if_pos (by rfl)]
            refine wp_append_lies _ (.tmp 69) (.tmp 72) 23 rfl _ 34 zi _ 3 56 Try.underlying23 hi hz0 hz1 hz2 rfl (by omega) (.slice (some ⟨Gg, 0, none⟩) ng cpG) ng xsG (by rfl) jG.o ⟨x3.heap.size, 0, none⟩ 1 1 [Value.slice (some ⟨M1, 0, none⟩) 3 3, Value.slice (some ⟨M2, 0, none⟩) 2 2, Value.int .i64 (-XK - 1)] (by rfl) (by rfl) (World.news_of_block (cs := #[Value.slice (some ⟨M1, 0, none⟩) 3 3, Value.slice (some ⟨M2, 0, none⟩) 2 2, Value.int .i64 (-XK - 1)]) (t := 34) (fr := (0, 0)) nb) (by simp [Value.oneCell']) (by omega) (by unfold maxLen; omega) (by omega) jG.b.size _ rfl ?_
            intro gg cpg x7 hown hgrow hatg hltg
            obtain ⟨b7, fG'⟩ := jG.snoc HGL.out hown hgrow hatg rfl (n1.ints' (by simp [mulL, lXC])) (n2.ints' (by simp [mulL, lXD])) (by have := lG.2; omega) (by have := lG.2; omega)
            have fG : FormsAt x7 (some ⟨gg, 0, none⟩) (y.guards ++ [minusX (XC, XD, XK)]) := by
              have hm : minusX (XC, XD, XK) = (mulL (-1) XC, mulL (-1) XD, -XK - 1) := by simp only [minusX]; rw [show -1 * XK - 1 = -XK - 1 by omega]
              rw [hm]; exact fG'
            have c7 := c1.trans (b7.mono c1.size)
            have fP := fPB.keep b7
            have jY := jYB.below b7
            have sz7 := b7.size
            clear hown hgrow hatg nb jG fG'
            (try dsimp only)
            refine hK.out _ _ ⟨KQ.out _ c7, fun _ => trivial⟩ ?_
            clear hK K
            refine wpAnyE_one (i := 15) (by kernel_rfl) rfl (fun K hK => ?_)
            go_simp
            refine (scopy_any _ _ _ z.tells _ HZT.out (T4.keep c7) FT.out (by omega)).mono ?_
            rintro ee x8 ⟨Gt, cpT, xsT, rfl, jT⟩
            have fT := jT.at HZT.out
            have e8 := jT.b
            have c8 := c7.trans (e8.mono c7.size)
            clear jT
            have fP := fP.keep e8
            have fG := fG.keep e8
            have jY := jY.below e8
            have sz8 := e8.size
            (try dsimp only)
            refine hK.out _ _ ⟨KQ.out _ c8, fun _ => trivial⟩ ?_
            clear hK K
            refine wpAnyE_one (i := 16) (by kernel_rfl) rfl (fun K hK => ?_)
            go_simp
            refine (C2.out _ _ _ _ _ _ _ (hF.below (B4.trans (c8.mono B4.size))) fP fG fT).mono ?_
            rintro ee x9 ⟨Gn, cpn, xsn, rfl, jN⟩
            have e9 := jN.b
            have c9 := c8.trans (e9.mono c8.size)
            have jY := jY.below e9
            (try dsimp only)
            refine hK.out _ _ ⟨KQ.out _ c9, fun _ => trivial⟩ ?_
            clear hK K
            refine wpAnyE_one (i := 17) (by kernel_rfl) rfl (fun K hK => ?_)
            go_simp
            (try dsimp only)
            refine hK.out _ _ ⟨KQ.out _ c9, fun _ => trivial⟩ ?_
            clear hK K
            refine wpAnyE_done (by kernel_rfl) ?_ _
            clear fP fG fT fPB P4 T4 G4 KP KQ C1 C2
            obtain ⟨zr, hir, hr0, hr1, hr2⟩ := info_parts Try.infoRow
            have sY := jY.o.1
            have sN := jN.o.1
            have hB9 := (B4.trans (c9.mono B4.size)).size
            have lYx : Gy < x8.heap.size := by omega
            obtain ⟨HNW⟩ : Nonempty (∀ j u, xsn[j]? = some u → x9.cell? ((⟨Gn, 0, none⟩ : Addr).add j) = some u) := ⟨jN.news⟩
            have HNW' : Hid _ := HNW
            clear HNW
            have HON : Hid (∀ u ∈ xsn, u.oneCell' = true) := jN.ones
            go_wp2_with (at_builtin; go_must (refine wpList_append_lies _ rfl (.tmp 77) (.tmp 78) 54 rfl w.heap.size 25 zr _ 4 80 Try.underlying54 hir hr0 hr1 hr2 rfl (by decide) (.slice (some ⟨Gy, 0, none⟩) R1.length cpy) R1.length xsy rfl jY.o ⟨Gn, 0, none⟩ R2.length cpn xsn rfl sN HNW'.out HON.out q3 (by unfold maxLen; omega) (by omega) hB9 _ rfl ?_); intro gj cpj x10 hown hgrow hatj hltj)
            have JJ := jY.join jN (by omega) lYx rfl rfl hown hgrow hatj rfl
            clear jY jN hown hgrow
            go_wp2
            go_ret
            rw [HGO.out, List.length_append]
            exact ⟨_, _, _, rfl, JJ⟩
        · obtain ⟨hp0, hp1⟩ := hp3 rfl
          obtain ⟨p, rfl⟩ : ∃ p : Nat, qp = p := ⟨qp.toNat, by omega⟩
          have hp : p < 3 := by omega
          have hgo : Hid (goW ls g k z = goW ls (g - 1) (k + 1) (z.add p (XC, XD, XK))) := by
            obtain ⟨g', rfl⟩ : ∃ g', g = g' + 1 := ⟨g - 1, by omega⟩
            show goW ls (g' + 1) k z = _
            rw [goW, if_pos hkl.out, HG'.out]
            simp only [HFX.out]
            rfl
          have HW2 : Hid (WayOk (k + 1) (z.add p (XC, XD, XK))) := HZ.out.add (by omega) hp fit1
          have FP : Hid (∀ j, j < 3 → fitX 10000000 (z.pots[j]?.getD ([], [], 0))) := fun j hj => (HZ.out.pf j hj).mono (by have := wb_six (n := min k 6) (by omega); omega)
          go_wp2_with fail
          refine (scopy_any _ _ _ z.pots _ HZ.out.pl P4 FP.out (by omega)).mono ?_
          rintro e w5 ⟨G5, cp5, xs5, rfl, j5⟩
          have lG5 := j5.lt
          have T4x := T4
          rw [World.size_alloc] at lG5
          have fb5 := fb.below j5.b
          have bx5 := bx4.below j5.b
          have T5 := T4.keep j5.b
          have B5 := B4.trans (j5.b.mono B4.size)
          have v15 := v1.below j5.b
          have v25 := v2.below j5.b
          obtain ⟨b0, off0, eb, pa', pc', pca, pcc, c0, c1, c2, iC, iD⟩ := j5.at HZ.out.pl p (by rw [HZ.out.pl]; exact hp)
          simp only [Option.some.injEq, Addr.mk.injEq, and_true] at eb
          obtain ⟨rfl, rfl⟩ := eb
          rw [Nat.zero_add] at c0 c1 c2
          have hfp := FP.out p hp
          have HPP : Hid (plusX (z.pots[p]?.getD ([], [], 0)) (XC, XD, XK) = plusX (z.pots[p]?.getD noX) (XC, XD, XK)) := rfl
          generalize HGP : z.pots[p]?.getD ([], [], 0) = PX at *
          have HGP' : Hid _ := HGP
          clear HGP
          obtain ⟨PC, PD, PK⟩ := PX
          have lPC : PC.length = 3 := hfp.c
          have lPD : PD.length = 2 := hfp.d
          have bPC : bnd 10000000 PC := hfp.bc
          have bPD : bnd 10000000 PD := hfp.bd
          have bK1 : -10000000 ≤ PK := hfp.k1
          have bK2 : PK ≤ 10000000 := hfp.k2
          have bXC : bnd 10000000 XC := fit2.bc
          have bXD : bnd 10000000 XD := fit2.bd
          have bX1 : -10000000 ≤ XK := fit2.k1
          have bX2 : XK ≤ 10000000 := fit2.k2
          have hc0 : w5.cell? ⟨G5, p * 3, none⟩ = some (.slice pa' 3 pca) := c0
          have hc1 : w5.cell? ⟨G5, p * 3 + 1, none⟩ = some (.slice pc' 2 pcc) := c1
          have hc2 : w5.cell? ⟨G5, p * 3 + 2, none⟩ = some (.int .i64 PK) := c2
          clear c0 c1 c2 P4 T4 G4 B4 bx4 fb v1 v2 m0 m1 m2 m3 m4 m5
          obtain ⟨m0, m1, m2, m3, m4, m5⟩ := bx5.six
          obtain ⟨f0, f1, f2, f3, f4, f5⟩ := fb5.trio
          have hpI : (p : Int) < 3 := by omega
          go_upto_region 16 with fail
          have hSS : (w5.drew.cell? ⟨wr.heap.size, 1, none⟩ = some (.int .i64 (p : Int)) ∧ w5.drew.cell? ⟨w3.heap.size, 0, none⟩ = some (.slice (some ⟨D1, 0, none⟩) 3 d1) ∧ w5.drew.cell? ⟨w3.heap.size, 1, none⟩ = some (.slice (some ⟨D2, 0, none⟩) 2 d2) ∧ w5.drew.cell? ⟨w3.heap.size, 2, none⟩ = some (.int .i64 XK)) ∧ (w5.drew.cell? ⟨G5, p * 3, none⟩ = some (.slice pa' 3 pca) ∧ w5.drew.cell? ⟨G5, p * 3 + 1, none⟩ = some (.slice pc' 2 pcc) ∧ w5.drew.cell? ⟨G5, p * 3 + 2, none⟩ = some (.int .i64 PK)) := ⟨⟨m1, f0, f1, f2⟩, hc0, hc1, hc2⟩
          refine wp_region_ends (fun w' => w'.cell? ⟨wr.heap.size, 1, none⟩ = some (.int .i64 (p : Int)) ∧ w'.cell? ⟨w3.heap.size, 0, none⟩ = some (.slice (some ⟨D1, 0, none⟩) 3 d1) ∧ w'.cell? ⟨w3.heap.size, 1, none⟩ = some (.slice (some ⟨D2, 0, none⟩) 2 d2) ∧ w'.cell? ⟨w3.heap.size, 2, none⟩ = some (.int .i64 XK)) (fun w' => w'.cell? ⟨G5, p * 3, none⟩ = some (.slice pa' 3 pca) ∧ w'.cell? ⟨G5, p * 3 + 1, none⟩ = some (.slice pc' 2 pcc) ∧ w'.cell? ⟨G5, p * 3 + 2, none⟩ = some (.int .i64 PK)) 10 (by kernel_rfl) ?_
          refine wpAnyE_take0 (i := 0) (v := ?cv0) rfl (by kernel_rfl) (by kernel_rfl) (by kernel_rfl) (by decide) (fun _ _ _ h => h) (Or.inl ⟨by rfl, ?chy0⟩) hSS ?_
          case chy0 => (intro wz hSw; (try dsimp only at hSw); go_simp; try (with_reducible rfl))
          refine wpAnyE_take0 (i := 1) (v := ?cv1) rfl (by kernel_rfl) (by kernel_rfl) (by kernel_rfl) (by decide) (fun _ _ _ h => h) (Or.inl ⟨by rfl, ?chy1⟩) hSS ?_
          case chy1 => (intro wz hSw; (try dsimp only at hSw); go_simp; try (with_reducible rfl))
          refine wpAnyE_take0 (i := 2) (v := ?cv2) rfl (by kernel_rfl) (by kernel_rfl) (by kernel_rfl) (by decide) (fun _ _ _ h => h) (Or.inl ⟨by rfl, ?chy2⟩) hSS ?_
          case chy2 => (intro wz hSw; (try dsimp only at hSw); go_simp; try (with_reducible rfl))
          refine wpAnyE_take0 (i := 3) (v := ?cv3) rfl (by kernel_rfl) (by kernel_rfl) (by kernel_rfl) (by decide) (fun _ _ _ h => h) (Or.inl ⟨by rfl, ?chy3⟩) hSS ?_
          case chy3 => (intro wz hSw; (try dsimp only at hSw); go_simp; try (with_reducible rfl))
          refine wpAnyE_take0 (i := 4) (v := ?cv4) rfl (by kernel_rfl) (by kernel_rfl) (by kernel_rfl) (by decide) (fun _ _ _ h => h) (Or.inl ⟨by rfl, ?chy4⟩) hSS ?_
          case chy4 => (intro wz hSw; (try dsimp only at hSw); go_simp; try (with_reducible rfl))
          refine wpAnyE_take0 (i := 5) (v := ?cv5) rfl (by kernel_rfl) (by kernel_rfl) (by kernel_rfl) (by decide) (fun _ _ _ h => h) (Or.inl ⟨by rfl, ?chy5⟩) hSS ?_
          case chy5 => (intro wz hSw; (try dsimp only at hSw); go_simp; try (with_reducible rfl))
          refine wpAnyE_take0 (i := 6) (v := ?cv6) rfl (by kernel_rfl) (by kernel_rfl) (by kernel_rfl) (by decide) (fun _ _ _ h => h) (Or.inl ⟨by rfl, ?chy6⟩) hSS ?_
          case chy6 => (intro wz hSw; (try dsimp only at hSw); go_simp; try (with_reducible rfl))
          refine wpAnyE_take1 (i := 7) (v := ?cv7) rfl rfl (by kernel_rfl) (by kernel_rfl) (by kernel_rfl) (by decide) (by rfl) (by simp [Region.binds]) (fun _ _ _ h => h) (Or.inl ⟨by rfl, ?chy7⟩) hSS ?_
          case chy7 => (intro wz hSw; (try dsimp only at hSw); go_simp; try (with_reducible rfl))
          refine wpAnyE_take0 (i := 8) (v := ?cv8) rfl (by kernel_rfl) (by kernel_rfl) (by kernel_rfl) (by decide) (fun _ _ _ h => h) (Or.inl ⟨by rfl, ?chy8⟩) hSS ?_
          case chy8 => (intro wz hSw; (try dsimp only at hSw); go_simp; try (with_reducible rfl))
          refine wpAnyE_one (i := 9) (by kernel_rfl) rfl (fun K hK => ?_)
          go_simp
          refine (l1sum_any _ _ _ _ _ PC PD _ _ _ _ _ XC XD _ _ (iC.below (Below.refl _ _).drew) (iD.below (Below.refl _ _).drew) ((v15.below (Below.refl _ _).drew).ints' lXC) ((v25.below (Below.refl _ _).drew).ints' lXD) (fun i => by have := bPC i; omega) (fun i => by have := bPD i; omega) (by omega) (fun i => by have := bXC i; omega) (fun i => by have := bXD i; omega) (by omega)).mono ?_
          rintro ee w6 ⟨E1, E2, rfl, bd6, y1', y2', y3', u1, u2⟩
          rw [show PK + 1 * XK = PK + XK by omega]
          have b6 := below_of_drew bd6
          have j6 := j5.below b6
          have s6 := b6.size
          have lu1 := u1.lt
          have lu2 := u2.lt
          have bx6 := bx5.below b6
          have fb6 := fb5.below b6
          obtain ⟨n0, n1, n2, n3, n4, n5⟩ := bx6.six
          obtain ⟨x0, x1, x2, x3, x4, x5⟩ := fb6.trio
          have hS6 : (w6.cell? ⟨wr.heap.size, 1, none⟩ = some (.int .i64 (p : Int)) ∧ w6.cell? ⟨w3.heap.size, 0, none⟩ = some (.slice (some ⟨D1, 0, none⟩) 3 d1) ∧ w6.cell? ⟨w3.heap.size, 1, none⟩ = some (.slice (some ⟨D2, 0, none⟩) 2 d2) ∧ w6.cell? ⟨w3.heap.size, 2, none⟩ = some (.int .i64 XK)) ∧ (w6.cell? ⟨G5, p * 3, none⟩ = some (.slice pa' 3 pca) ∧ w6.cell? ⟨G5, p * 3 + 1, none⟩ = some (.slice pc' 2 pcc) ∧ w6.cell? ⟨G5, p * 3 + 2, none⟩ = some (.int .i64 PK)) :=
            ⟨⟨n1, x0, x1, x2⟩, (b6.cell (p := ⟨G5, p * 3, none⟩) lG5.2).trans hc0, (b6.cell (p := ⟨G5, p * 3 + 1, none⟩) lG5.2).trans hc1, (b6.cell (p := ⟨G5, p * 3 + 2, none⟩) lG5.2).trans hc2⟩
          dsimp only
          refine hK.out _ _ ⟨hS6.1, fun _ => hS6.2⟩ ?_
          clear hK K hSS
          refine wpAnyE_one (i := 10) (by kernel_rfl) rfl (fun K hK => ?_)
          go_simp
          refine hK.out _ _ ⟨hS6.1, fun h => absurd (show true = false from h) (by decide)⟩ ?_
          clear hK K
          have y1x : w5.heap.size ≤ E1 := y1'
          have y3x : w5.heap.size ≤ E2 := y3'
          have FPN := j6.put HZ.out.pl hp (ca := 3) (cc := 2) (K := PK + XK) u1 (lin_len lPC lXC) u2 (lin_len lPD lXD) (by omega) (by omega)
          have f60 := j6.frz (p * 3) 
          have f61 := j6.frz (p * 3 + 1)
          have f62 := j6.frz (p * 3 + 2)
          obtain ⟨h0', h1', h2'⟩ := hS6.2
          have TT : Touch (fun q => q = G5) w6 (((w6.setCell ⟨G5, p * 3, none⟩ (.slice (some ⟨E1, 0, none⟩) 3 3)).setCell ⟨G5, p * 3 + 1, none⟩ (.slice (some ⟨E2, 0, none⟩) 2 2)).setCell ⟨G5, p * 3 + 2, none⟩ (.int .i64 (PK + XK))) := (((Touch.refl (fun q => q = G5) w6).setCell rfl _).setCell rfl _).setCell rfl _
          have bx7 := bx6.touch TT (fun h => by have := h; omega)
          have fb7 := fb6.touch TT (fun h => by have := h; omega)
          have B7 := (B5.trans (b6.mono B5.size)).trans (TT.below (by have := B5.size; omega) (fun q hq => by omega))
          have T7 := T4x.keep ((j5.b.trans (b6.mono j5.b.size)).trans (TT.below (by rw [World.size_alloc]; omega) (fun q hq => by rw [World.size_alloc]; omega)))
          obtain ⟨n0, n1, n2, n3, n4, n5⟩ := bx7.six
          obtain ⟨x0, x1, x2, x3, x4, x5⟩ := fb7.trio
          refine wpAnyE_one (i := 11) (by kernel_rfl) rfl (fun K hK => ?_)
          go_simp
          refine hK.out _ _ ⟨⟨n1, x0, x1, x2⟩, fun h => absurd (show true = false from h) (by decide)⟩ ?_
          clear hK K
          refine wpAnyE_done (by kernel_rfl) ?_ _
          have eAdd : (z.add p (XC, XD, XK)).pots = z.pots.set p (lin PC XC 1, lin PD XD 1, PK + XK) := by
            show z.pots.set p (plusX (z.pots[p]?.getD noX) (XC, XD, XK)) = _
            rw [show z.pots[p]?.getD noX = (PC, PD, PK) from HGP'.out]; show z.pots.set p (lin PC XC 1, lin PD XD 1, PK + 1 * XK) = _; rw [show PK + 1 * XK = PK + XK by omega]
          rw [← eAdd] at FPN
          have FPN' := FPN
          clear eAdd
          clear hS6 h0' h1' h2' f60 f61 f62 TT bx7 fb7 bx6 fb6 j6 j5 B5 b6 T4x FPN
          go_wp2
          go_roundw
          case rel => exact ⟨k + 1, g - 1, z.add p (XC, XD, XK), some ⟨G5, 0, none⟩, cp5, ta, nt, tc, by omega, by go_num, rfl, rfl, HZT.out, HZG.out, by omega, by omega, HEQ.out.trans hgo.out, HW2.out, B7, FPN', T7⟩
          case measure => simp [intOf]; omega
        · have hgo : Hid (goW ls g k z = goW ls (g - 1) (k + 1) (z.tell (XC, XD, XK))) := by
            obtain ⟨g', rfl⟩ : ∃ g', g = g' + 1 := ⟨g - 1, by omega⟩
            show goW ls (g' + 1) k z = _
            rw [goW, if_pos hkl.out, HG'.out]
            simp only [HFX.out]
            rfl
          have FT : Hid (∀ j, j < nt → fitX 10000000 (z.tells[j]?.getD ([], [], 0))) := fun j hj => HZ.out.tf j (by rw [HZT.out]; exact hj)
          have HW2 : Hid (WayOk (k + 1) (z.tell (XC, XD, XK))) := HZ.out.tell (by omega) fit2
          go_upto_region 9 with fail
          obtain ⟨W4, hW4⟩ : ∃ W4, W4 = w3.alloc (.cells #[.slice (some ⟨D1, 0, none⟩) 3 d1, .slice (some ⟨D2, 0, none⟩) 2 d2, .int .i64 XK] 34) := ⟨_, rfl⟩
          have z4 : W4.heap.size = w3.heap.size + 1 := by rw [hW4, World.size_alloc]
          rw [← hW4] at fb B4 P4 T4 G4 v1 v2 bx4 m0 m1 m2 m3 m4 m5 ⊢
          clear hW4
          obtain ⟨n0, n1, n2, n3, n4, n5⟩ := fb.trio
          have hSS : (W4.drew.cell? ⟨w3.heap.size, 0, none⟩ = some (.slice (some ⟨D1, 0, none⟩) 3 d1) ∧ W4.drew.cell? ⟨w3.heap.size, 1, none⟩ = some (.slice (some ⟨D2, 0, none⟩) 2 d2) ∧ W4.drew.cell? ⟨w3.heap.size, 2, none⟩ = some (.int .i64 XK)) ∧ True := ⟨⟨n0, n1, n2⟩, trivial⟩
          have KP : Hid (∀ W, Below W4.heap.size W4 W → (W.cell? ⟨w3.heap.size, 0, none⟩ = some (.slice (some ⟨D1, 0, none⟩) 3 d1) ∧ W.cell? ⟨w3.heap.size, 1, none⟩ = some (.slice (some ⟨D2, 0, none⟩) 2 d2) ∧ W.cell? ⟨w3.heap.size, 2, none⟩ = some (.int .i64 XK))) := fun W hW => by
            obtain ⟨n0, n1, n2, _, _, _⟩ := (fb.below hW).trio
            exact ⟨n0, n1, n2⟩
          refine wp_region_ends (fun w' => w'.cell? ⟨w3.heap.size, 0, none⟩ = some (.slice (some ⟨D1, 0, none⟩) 3 d1) ∧ w'.cell? ⟨w3.heap.size, 1, none⟩ = some (.slice (some ⟨D2, 0, none⟩) 2 d2) ∧ w'.cell? ⟨w3.heap.size, 2, none⟩ = some (.int .i64 XK)) (fun _ => True) 5 (by kernel_rfl) ?_
          refine wpAnyE_take0 (i := 0) (v := ?v0) rfl (by kernel_rfl) (by kernel_rfl) (by kernel_rfl) (by decide) (fun _ _ _ h => h) (Or.inl ⟨by rfl, ?hy0⟩) hSS ?_
          case hy0 => (intro wz hSw; (try dsimp only at hSw); go_simp; try (with_reducible rfl))
          refine wpAnyE_take0 (i := 2) (v := ?v2) rfl (by kernel_rfl) (by kernel_rfl) (by kernel_rfl) (by decide) (fun _ _ _ h => h) (Or.inl ⟨by rfl, ?hy2⟩) hSS ?_
          case hy2 => (intro wz hSw; (try dsimp only at hSw); go_simp; try (with_reducible rfl))
          refine wpAnyE_two (i := 1) (j := 3) (by kernel_rfl) rfl rfl (fun K hK => ?_) (fun K hK => ?_)
          · go_simp
            refine (scopy_any _ _ _ z.tells _ HZT.out (T4.keep (Below.refl _ _).drew) FT.out (by omega)).mono ?_
            rintro ee w5 ⟨G5, cp5, xs5, rfl, j5⟩
            have b5 : Below W4.heap.size W4 w5 := below_of_drew j5.b
            dsimp only
            refine hK.out _ _ ⟨KP.out _ b5, fun _ => trivial⟩ ?_
            clear hK K hSS
            refine wpAnyE_one (i := 3) (by kernel_rfl) rfl (fun K hK => ?_)
            go_simp
            have A6 : Below w5.heap.size w5 (w5.alloc (.cells #[Value.slice (some ⟨D1, 0, none⟩) 3 d1, Value.slice (some ⟨D2, 0, none⟩) 2 d2, Value.int .i64 XK] 34)) := (Below.refl _ _).alloc (Nat.le_refl _) _
            have nb6 := Cel.new w5 [Value.slice (some ⟨D1, 0, none⟩) 3 d1, Value.slice (some ⟨D2, 0, none⟩) 2 d2, Value.int .i64 XK] 34
            have lG5 := j5.lt
            have j6 := j5.below A6
            have v16 := (v1.below b5).below A6
            have v26 := (v2.below b5).below A6
            have b6 := b5.trans (A6.mono b5.size)
            have lG5' : W4.heap.size ≤ G5 := lG5.1
            refine hK.out _ _ ⟨KP.out _ b6, fun _ => trivial⟩ ?_
            clear hK K A6 j5
            refine wpAnyE_one (i := 4) (by kernel_rfl) rfl (fun K hK => ?_)
            rw [if_pos (by rfl)]
            refine wp_append_lies _ (.tmp 41) (.tmp 43) 23 rfl _ 34 zi _ 3 56 Try.underlying23 hi hz0 hz1 hz2 rfl (by omega) (.slice (some ⟨G5, 0, none⟩) nt cp5) nt xs5 (by rfl) j6.o ⟨w5.heap.size, 0, none⟩ 1 1 [Value.slice (some ⟨D1, 0, none⟩) 3 d1, Value.slice (some ⟨D2, 0, none⟩) 2 d2, Value.int .i64 XK] (by rfl) (by rfl) (World.news_of_block (cs := #[Value.slice (some ⟨D1, 0, none⟩) 3 d1, Value.slice (some ⟨D2, 0, none⟩) 2 d2, Value.int .i64 XK]) (t := 34) (fr := (0, 0)) nb6) (by simp [Value.oneCell']) (by omega) (by unfold maxLen; omega) (by omega) j6.b.size _ rfl ?_
            intro gg cpg w7 hown hgrow hatg hltg
            obtain ⟨b7, F7⟩ := j6.snoc HZT.out hown hgrow hatg rfl (v16.ints' lXC) (v26.ints' lXD) (by omega) (by omega)
            have b47 : Below W4.heap.size W4 w7 := below_of_drew b7
            refine hK.out _ _ ⟨KP.out _ b47, fun _ => trivial⟩ ?_
            clear hK K hown hgrow hatg nb6 v16 v26 j6
            refine wpAnyE_one (i := 5) (by kernel_rfl) rfl (fun K hK => ?_)
            go_simp
            refine hK.out _ _ ⟨KP.out _ b47, fun _ => trivial⟩ ?_
            clear hK K
            refine wpAnyE_done (by kernel_rfl) ?_ _
            have P7 := P4.keep b47
            have B7 := B4.trans (b47.mono B4.size)
            clear b47 b7 P4 T4 G4 B4
            go_wp2
            go_roundw
            case rel => exact ⟨k + 1, g - 1, z.tell (XC, XD, XK), pa, cp, some ⟨gg, 0, none⟩, nt + 1, cpg, by omega, by go_num, rfl, rfl, by simp only [Way.tell, List.length_append, List.length_cons, List.length_nil, HZT.out], HZG.out, by omega, by omega, HEQ.out.trans hgo.out, HW2.out, B7, P7, F7⟩
            case measure => simp [intOf]; omega
          · go_simp
            obtain ⟨Wb, hWb⟩ : ∃ Wb, Wb = (W4.alloc (.cells #[Value.slice (some ⟨D1, 0, none⟩) 3 d1, Value.slice (some ⟨D2, 0, none⟩) 2 d2, Value.int .i64 XK] 34)).drew := ⟨_, rfl⟩
            have A5 : Below W4.heap.size W4 Wb := by rw [hWb]; exact ((Below.refl _ _).alloc (Nat.le_refl _) _).drew
            have nb5 : Cel Wb W4.heap.size [Value.slice (some ⟨D1, 0, none⟩) 3 d1, Value.slice (some ⟨D2, 0, none⟩) 2 d2, Value.int .i64 XK] 34 := by rw [hWb]; exact Cel.new W4 [Value.slice (some ⟨D1, 0, none⟩) 3 d1, Value.slice (some ⟨D2, 0, none⟩) 2 d2, Value.int .i64 XK] 34
            have zb : W4.heap.size + 1 = Wb.heap.size := by rw [hWb]; show _ = (W4.alloc _).heap.size; rw [World.size_alloc]
            rw [← hWb]
            clear hWb
            refine hK.out _ _ ⟨KP.out _ A5, fun _ => trivial⟩ ?_
            clear hK K hSS
            refine wpAnyE_one (i := 1) (by kernel_rfl) rfl (fun K hK => ?_)
            go_simp
            refine (scopy_any _ _ _ z.tells _ HZT.out (T4.keep A5) FT.out (by omega)).mono ?_
            rintro ee w5 ⟨G5, cp5, xs5, rfl, j6⟩
            have b5 := A5.trans (j6.b.mono A5.size)
            have nb6 := nb5.below j6.b
            rw [z4] at nb6
            have v16 := v1.below b5
            have v26 := v2.below b5
            have lG5' := j6.lt.1
            dsimp only
            refine hK.out _ _ ⟨KP.out _ b5, fun _ => trivial⟩ ?_
            clear hK K nb5
            refine wpAnyE_one (i := 4) (by kernel_rfl) rfl (fun K hK => ?_)
            rw [if_pos (by rfl)]
            refine wp_append_lies _ (.tmp 41) (.tmp 43) 23 rfl _ 34 zi _ 3 56 Try.underlying23 hi hz0 hz1 hz2 rfl (by omega) (.slice (some ⟨G5, 0, none⟩) nt cp5) nt xs5 (by rfl) j6.o ⟨w3.heap.size + 1, 0, none⟩ 1 1 [Value.slice (some ⟨D1, 0, none⟩) 3 d1, Value.slice (some ⟨D2, 0, none⟩) 2 d2, Value.int .i64 XK] (by rfl) (by rfl) (World.news_of_block (cs := #[Value.slice (some ⟨D1, 0, none⟩) 3 d1, Value.slice (some ⟨D2, 0, none⟩) 2 d2, Value.int .i64 XK]) (t := 34) (fr := (0, 0)) nb6) (by simp [Value.oneCell']) (by omega) (by unfold maxLen; omega) (by omega) j6.b.size _ rfl ?_
            intro gg cpg w7 hown hgrow hatg hltg
            obtain ⟨b7, F7⟩ := j6.snoc HZT.out hown hgrow hatg rfl (v16.ints' lXC) (v26.ints' lXD) (by omega) (by omega)
            have b47 : Below W4.heap.size W4 w7 := A5.trans (b7.mono A5.size)
            refine hK.out _ _ ⟨KP.out _ b47, fun _ => trivial⟩ ?_
            clear hK K hown hgrow hatg nb6 v16 v26 j6
            refine wpAnyE_one (i := 5) (by kernel_rfl) rfl (fun K hK => ?_)
            go_simp
            refine hK.out _ _ ⟨KP.out _ b47, fun _ => trivial⟩ ?_
            clear hK K
            refine wpAnyE_done (by kernel_rfl) ?_ _
            have P7 := P4.keep b47
            have B7 := B4.trans (b47.mono B4.size)
            clear b47 b7 P4 T4 G4 B4
            go_wp2
            go_roundw
            case rel => exact ⟨k + 1, g - 1, z.tell (XC, XD, XK), pa, cp, some ⟨gg, 0, none⟩, nt + 1, cpg, by omega, by go_num, rfl, rfl, by simp only [Way.tell, List.length_append, List.length_cons, List.length_nil, HZT.out], HZG.out, by omega, by omega, HEQ.out.trans hgo.out, HW2.out, B7, P7, F7⟩
            case measure => simp [intOf]; omega
    · have hrow : Hid (goW ls g k z = [endW z]) := goW_end (by rw [HN.out]; omega)
      have HPF : Hid (∀ j, j < 3 → fitX 10000000 (z.pots[j]?.getD noX)) := fun j hj => (HZ.out.pf j hj).mono (by have := wb_six (n := min k 6) (by omega); omega)
      have HGL2 : Hid (z.guards.length = ng) := by show z.guards.length = ng; rw [HZG.out]; exact HGL.out
      have hGz2 : FormsAt wr ga z.guards := by rw [HZG.out]; exact hGz
      have FG : Hid (∀ j, j < ng → fitX 10000000 (z.guards[j]?.getD ([], [], 0))) := fun j hj => HZ.out.gf j (by rw [HGL2.out]; exact hj)
      have FT : Hid (∀ j, j < nt → fitX 10000000 (z.tells[j]?.getD ([], [], 0))) := fun j hj => HZ.out.tf j (by rw [HZT.out]; exact hj)
      go_wp2_with fail
      refine (srowend_any z _ _ _ _ _ _ _ _ _ HZ.out.pl HGL2.out HZT.out hPz hGz2 hTz HPF.out FG.out FT.out (by omega) (by omega)).mono ?_
      rintro e w3 ⟨v, rfl, b3, hX⟩
      obtain ⟨xa, xc, ya, yc, za, zc, rfl, f0, f1, f2⟩ := hX
      have hb3 := hb.trans (b3.mono hb.size)
      have zb := hb.size
      have J := JR.one (w := w) (gc := xc) (ac := yc) (tc := zc) hb3 (f0.mono (fun k hk => by omega)) (f1.mono (fun k hk => by omega)) (f2.mono (fun k hk => by omega))
      clear b3 f0 f1 f2
      go_wp2
      go_ret
      rw [HEQ.out, hrow.out]
      exact ⟨_, _, _, rfl, J⟩

end Go.Proofs.Ytjggppnffkcmbaa
namespace Go.Proofs.Ytjggppnffkcmbaa
open Go.RowKit Go.Deep
set_option linter.unusedVariables false
set_option maxRecDepth 100000

/-- All ways through an act; none, if it is not ok. -/
def rowsB (N : Nat) (ls : List LV) : List RowM := if actB N ls then rowsL ls else []
theorem JR.noRows (w : World) : JR w w.heap.size 0 [] [] (w.alloc (.cells #[] 25)) :=
  ⟨(Below.refl _ _).alloc (Nat.le_refl _) _, World.ownsRow_lit w #[] 0 (Nat.le_refl _) (by unfold maxLen; omega) rfl, fun j hj => by simp at hj⟩
theorem actB_parts {N : Nat} {ls : List LV} (h : actB N ls = true) : N ≤ 6 ∧ ls.all LV.ok = true := by
  simp only [actB, Bool.and_eq_true, decide_eq_true_eq] at h
  exact ⟨by omega, h.1.2⟩
/-- The three pots of the beginning, laid in a row. -/
theorem way0_at {W : World} {B : Nat} {a0 a1 a2 c0 c1 c2 : Option Addr} {x0 x1 x2 y0 y1 y2 : Nat} (h : Cel W B [.slice a0 3 x0, .slice c0 2 y0, .int .i64 0, .slice a1 3 x1, .slice c1 2 y1, .int .i64 0, .slice a2 3 x2, .slice c2 2 y2, .int .i64 0] 34)
    (i0 : Ints W a0 3 ([0, 0, 0].set 0 1)) (j0 : Ints W c0 2 [0, 0]) (i1 : Ints W a1 3 ([0, 0, 0].set 1 1)) (j1 : Ints W c1 2 [0, 0]) (i2 : Ints W a2 3 ([0, 0, 0].set 2 1)) (j2 : Ints W c2 2 [0, 0]) : FormsAt W (some ⟨B, 0, none⟩) way0.pots := fun i hi => by
  have hi' : i < 3 := hi
  match i, hi' with
  | 0, _ => exact ⟨B, 0, rfl, a0, c0, x0, y0, h.cell 0, h.cell 1, h.cell 2, i0, j0⟩
  | 1, _ => exact ⟨B, 0, rfl, a1, c1, x1, y1, h.cell 3, h.cell 4, h.cell 5, i1, j1⟩
  | 2, _ => exact ⟨B, 0, rfl, a2, c2, x2, y2, h.cell 6, h.cell 7, h.cell 8, i2, j2⟩
theorem FormsAt.noForms {W : World} {a : Option Addr} : FormsAt W a [] := fun i hi => by simp at hi

set_option maxHeartbeats 3200000 in
theorem srows_any (ad : Option Addr) (N cap : Nat) (ls : List LV) (w : World) (hN : ls.length = N) (hF : LinesG w ad ls) (hN1 : N ≤ 1048576) :
    Calls Try.prog 30 #[.slice ad N cap] w fun e w' => ∃ G cp xs, e = .returned (.slice (some ⟨G, 0, none⟩) (rowsB N ls).length cp) ∧ JR w G cp xs (rowsB N ls) w' := by
  have HN : Hid (ls.length = N) := hN
  clear hN
  obtain ⟨u, hu⟩ : ∃ u, actB N ls = u := ⟨_, rfl⟩
  have HU : Hid (actB N ls = u) := hu
  go_enter Try.func30, Try.ntmps30
  go_wp2_with fail
  refine (sact_any _ _ _ ls _ HN.out hF hN1).mono ?_
  rintro e w1 ⟨rfl, b1⟩
  rw [hu]
  clear hu
  cases u with
  | false =>
    have J := (JR.noRows w1).mono b1
    go_wp2
    go_ret
    rw [rowsB, HU.out]
    exact ⟨_, _, _, rfl, J⟩
  | true =>
    obtain ⟨h6, hall⟩ := actB_parts HU.out
    have HA : Hid (ls.all LV.ok = true) := hall
    clear hall
    go_wp2_with fail
    refine (spot_any _ _).mono ?_
    rintro ee w2 ⟨a0, n0, x0, c0, m0, y0, Z1, Z2, rfl, L1, L2, b2, o1, o2, -, -, -⟩
    rw [potC_in (0 : Int) 0 rfl (by omega)] at L1 o1
    rw [potD_in (0 : Int) (by omega) (by omega)] at L2 o2
    obtain rfl : n0 = 3 := by rw [← L1]; simp
    obtain rfl : m0 = 2 := by rw [← L2]; simp
    have i0 := o1.ints
    have j0 := o2.ints
    rw [L1] at i0
    rw [L2] at j0
    clear o1 o2 L1 L2 Z1 Z2
    go_wp2_with fail
    refine (spot_any _ _).mono ?_
    rintro ee w3 ⟨a1, n1, x1, c1, m1, y1, Z1, Z2, rfl, L1, L2, b3, o1, o2, -, -, -⟩
    rw [potC_in (1 : Int) 1 rfl (by omega)] at L1 o1
    rw [potD_in (1 : Int) (by omega) (by omega)] at L2 o2
    obtain rfl : n1 = 3 := by rw [← L1]; simp
    obtain rfl : m1 = 2 := by rw [← L2]; simp
    have i1 := o1.ints
    have j1 := o2.ints
    rw [L1] at i1
    rw [L2] at j1
    clear o1 o2 L1 L2 Z1 Z2
    go_wp2_with fail
    refine (spot_any _ _).mono ?_
    rintro ee w4 ⟨a2, n2, x2, c2, m2, y2, Z1, Z2, rfl, L1, L2, b4, o1, o2, -, -, -⟩
    rw [potC_in (2 : Int) 2 rfl (by omega)] at L1 o1
    rw [potD_in (2 : Int) (by omega) (by omega)] at L2 o2
    obtain rfl : n2 = 3 := by rw [← L1]; simp
    obtain rfl : m2 = 2 := by rw [← L2]; simp
    have i2 := o1.ints
    have j2 := o2.ints
    rw [L1] at i2
    rw [L2] at j2
    clear o1 o2 L1 L2 Z1 Z2
    have B2 := b1.trans (b2.mono b1.size)
    have B3 := B2.trans (b3.mono B2.size)
    have B4 := B3.trans (b4.mono B3.size)
    have A1 : Below w4.heap.size w4 (w4.alloc (.cells #[.slice a0 3 x0, .slice c0 2 y0, .int .i64 0, .slice a1 3 x1, .slice c1 2 y1, .int .i64 0, .slice a2 3 x2, .slice c2 2 y2, .int .i64 0] 34)) := (Below.refl _ _).alloc (Nat.le_refl _) _
    have A2 := (A1.alloc A1.size (.cells #[] 34))
    have A3 := (A2.alloc A2.size (.cells #[] 34))
    have i0' := ((i0.below b3).below b4).below A3
    have j0' := ((j0.below b3).below b4).below A3
    have i1' := (i1.below b4).below A3
    have j1' := (j1.below b4).below A3
    have i2' := i2.below A3
    have j2' := j2.below A3
    have nb := ((Cel.new w4 [.slice a0 3 x0, .slice c0 2 y0, .int .i64 0, .slice a1 3 x1, .slice c1 2 y1, .int .i64 0, .slice a2 3 x2, .slice c2 2 y2, .int .i64 0] 34).alloc (.cells #[] 34)).alloc (.cells #[] 34)
    have FP := way0_at nb i0' j0' i1' j1' i2' j2'
    have BA := B4.trans (A3.mono B4.size)
    clear i0 j0 i1 j1 i2 j2 i0' j0' i1' j1' i2' j2' nb B2 B3 b2 b3 b4
    go_wp2_with fail
    refine (swalk_any ad N cap ls HN.out h6 HA.out 7 0 way0 _ _ _ _ _ _ _ _ _ (by omega) (by omega) (by omega) WayOk.start rfl rfl (hF.below BA) FP FormsAt.noForms FormsAt.noForms).mono ?_
    rintro ee w5 ⟨G, cp, xs, rfl, J⟩
    have J' := J.mono BA
    clear J FP
    go_wp2
    go_ret
    rw [rowsB, HU.out]
    exact ⟨G, cp, xs, rfl, J'⟩

end Go.Proofs.Ytjggppnffkcmbaa
namespace Go.Proofs.Ytjggppnffkcmbaa
open Go.RowKit Go.Deep
set_option linter.unusedVariables false
set_option maxRecDepth 100000

/-- Three bools that can be read. -/
def Bools (W : World) (a : Option Addr) (f : Nat → Bool) : Prop := ∃ b off, a = some ⟨b, off, none⟩ ∧ ∀ v, v < 3 → W.cell? ⟨b, off + v, none⟩ = some (.bool (f v))
theorem Bools.below {W W' : World} {a : Option Addr} {f : Nat → Bool} (h : Bools W a f) (b : Below W.heap.size W W') : Bools W' a f := by
  obtain ⟨b0, off, e, hc⟩ := h
  exact ⟨b0, off, e, fun v hv => (b.cell (p := ⟨b0, off + v, none⟩) (block_lt (hc v hv))).trans (hc v hv)⟩
/-- Three bools in a block, free to be written. -/
def OwnB (W : World) (G : Nat) (f : Nat → Bool) : Prop := ∃ cur : List Value, Cel W G cur 4 ∧ ∀ v, v < 3 → cur[v]? = some (.bool (f v))
theorem OwnB.lt {W : World} {G : Nat} {f : Nat → Bool} (h : OwnB W G f) : G < W.heap.size := by obtain ⟨cur, hc, _⟩ := h; exact hc.lt
theorem OwnB.bools {W : World} {G : Nat} {f : Nat → Bool} (h : OwnB W G f) : Bools W (some ⟨G, 0, none⟩) f := by
  obtain ⟨cur, hc, hv⟩ := h
  exact ⟨G, 0, rfl, fun v hh => by rw [Nat.zero_add, hc.cell v]; exact hv v hh⟩
theorem OwnB.set {W : World} {G : Nat} {f : Nat → Bool} (h : OwnB W G f) {u : Nat} (hu : u < 3) (x : Bool) : OwnB (W.setCell ⟨G, u, none⟩ (.bool x)) G (fun v => if v = u then x else f v) := by
  obtain ⟨cur, hc, hv⟩ := h
  have hl : u < cur.length := (List.getElem?_eq_some_iff.1 (hv u hu)).1
  refine ⟨_, hc.set u _, fun v hh => ?_⟩
  by_cases e : v = u
  · subst e; rw [List.getElem?_set_self hl]; simp
  · rw [List.getElem?_set_ne (by omega)]; simp only [e, if_false]; exact hv v hh
theorem OwnB.ext {W : World} {G : Nat} {f g : Nat → Bool} (h : OwnB W G f) (e : ∀ v, v < 3 → f v = g v) : OwnB W G g := by
  obtain ⟨cur, hc, hv⟩ := h
  exact ⟨cur, hc, fun v hh => by rw [← e v hh]; exact hv v hh⟩
/-- Pots that forms have are marked. -/
def hasP (f : Frm) (v : Nat) : Bool := f.1[v]?.getD 0 != 0
def readsF (r : Nat → Bool) (fs : List Frm) (v : Nat) : Bool := r v || fs.any (fun f => hasP f v)
theorem readsF_snoc (r : Nat → Bool) (fs : List Frm) (k : Nat) (hk : k < fs.length) (v : Nat) : readsF r (fs.take (k + 1)) v = (readsF r (fs.take k) v || hasP (fs[k]?.getD ([], [], 0)) v) := by
  rw [readsF, readsF, List.take_succ_eq_append_getElem hk, List.any_append, List.getElem?_eq_getElem hk]
  simp [Bool.or_assoc]
theorem Try.infoBool : (Try.prog.info? 4).map (fun i => (i.zero, i.size, i.bytes)) = some (some (.bool false), 1, 1) := by kernel_rfl

set_option maxHeartbeats 3200000 in
theorem sreads_any (pa : Option Addr) (pc : Nat) (r : Nat → Bool) (ad : Option Addr) (N cap : Nat) (fs : List Frm) (w : World) (hB : Bools w pa r) (hN : fs.length = N) (hF : FormsAt w ad fs) (hfit : ∀ k, k < N → fitX 10000000 (fs[k]?.getD ([], [], 0))) (hN1 : N ≤ 1048576) :
    Calls Try.prog 92 #[.slice pa 3 pc, .slice ad N cap] w fun e w' => ∃ G cG, e = .returned (.slice (some ⟨G, 0, none⟩) 3 cG) ∧ Below w.heap.size w w' ∧ w.heap.size ≤ G ∧ OwnB w' G (readsF r fs) := by
  have HN : Hid (fs.length = N) := hN
  have HF : Hid (FormsAt w ad fs) := hF
  have HFT : Hid _ := hfit
  clear hN hF hfit
  obtain ⟨zi, hi, hz0, hz1, hz2⟩ := info_parts Try.infoBool
  obtain ⟨pb, po, rfl, hpc⟩ := hB
  have A : Below w.heap.size w (w.alloc (.cells #[] 4)) := (Below.refl _ _).alloc (Nat.le_refl _) _
  have HOL := World.ownsRow_lit (e := 4) (size := 1) (base := w.heap.size) w #[] 0 (Nat.le_refl _) (by unfold maxLen; omega) rfl
  have HNW : Hid (∀ j u, ([.bool (r 0), .bool (r 1), .bool (r 2)] : List Value)[j]? = some u → (w.alloc (.cells #[] 4)).cell? ((⟨pb, po, none⟩ : Addr).add j) = some u) := fun j u hu => by
    have hadd : (⟨pb, po, none⟩ : Addr).add j = ⟨pb, po + j, none⟩ := by
      by_cases h0 : j = 0
      · subst h0; simp [Addr.add]
      · simp [Addr.add, h0]
    rw [hadd]
    have key : ∀ v, v < 3 → (w.alloc (.cells #[] 4)).cell? ⟨pb, po + v, none⟩ = some (.bool (r v)) := fun v hv => by rw [A.cell (p := ⟨pb, po + v, none⟩) (block_lt (hpc v hv))]; exact hpc v hv
    match j with
    | 0 => simp only [List.getElem?_cons_zero, Option.some.injEq] at hu; subst hu; exact key 0 (by omega)
    | 1 => simp only [List.getElem?_cons_zero, List.getElem?_cons_succ, Option.some.injEq] at hu; subst hu; exact key 1 (by omega)
    | 2 => simp only [List.getElem?_cons_zero, List.getElem?_cons_succ, Option.some.injEq] at hu; subst hu; exact key 2 (by omega)
    | j + 3 => simp at hu
  clear hpc
  go_enter Try.func92, Try.ntmps92
  go_wp2_with (at_builtin; go_must (refine wpList_append_lies _ rfl (.tmp 8) (.tmp 9) 62 rfl w.heap.size 4 zi _ 1 1 Try.underlying62 hi hz0 hz1 hz2 rfl (by decide) (.slice (some ⟨w.heap.size, 0, none⟩) 0 0) 0 [] rfl HOL ⟨pb, po, none⟩ 3 pc [.bool (r 0), .bool (r 1), .bool (r 2)] rfl rfl HNW.out (by simp [Value.oneCell']) (by omega) (by unfold maxLen; omega) (by omega) (by rw [World.size_alloc]; omega) _ rfl ?_); intro G cG w1 hown hgrow hat hlt1)
  have b1 : Below w.heap.size w w1 := A.grown hgrow A.size (fun k hk => by have h' : some w.heap.size = some k := hk; simp only [Option.some.injEq] at h'; omega)
  have o1 : OwnB w1 G (readsF r (fs.take 0)) ∧ w.heap.size ≤ G := by
    rcases hown.2 with ⟨h', _⟩ | ⟨g', cap', cur, h', hb, hg, _, _, hcs, htake⟩
    · cases h'
    · simp only [Value.slice.injEq, Option.some.injEq, Addr.mk.injEq, and_true, true_and] at h'
      obtain ⟨rfl, rfl⟩ := h'
      refine ⟨⟨cur.toList, by unfold Cel; simpa using hg, fun v hv => ?_⟩, hb⟩
      have h1 : (cur.toList.take ((0 + 3) * 1))[v]? = ([.bool (r 0), .bool (r 1), .bool (r 2)] : List Value)[v]? := by rw [htake]; rfl
      rw [List.getElem?_take, if_pos (by omega)] at h1
      rw [h1]
      match v, hv with
      | 0, _ => simp [readsF]
      | 1, _ => simp [readsF]
      | 2, _ => simp [readsF]
  obtain ⟨o1, lG⟩ := o1
  clear hown hgrow hat HNW HOL A
  go_wp2_with fail
  go_loopw [6, 7] (fun i _ wr => ∃ k : Nat, k ≤ N ∧ i = .int .i64 k ∧ Below w.heap.size w wr ∧ OwnB wr G (readsF r (fs.take k))) (fun i _ _ => N - (intOf i).toNat)
  case atStart => exact ⟨0, Nat.zero_le _, rfl, b1, o1⟩
  case round =>
    clear b1 o1
    obtain ⟨k, hk, rfl, hb, o⟩ := hrel
    by_cases hlt : k < N
    · have hlt' : (k : Int) < N := by omega
      have hkl : k < fs.length := by rw [HN.out]; exact hlt
      have HS : Hid (∀ v, readsF r (fs.take (k + 1)) v = (readsF r (fs.take k) v || hasP (fs[k]?.getD ([], [], 0)) v)) := fun v => readsF_snoc r fs k hkl v
      have hfit := HFT.out k hlt
      obtain ⟨lC, -, -, -, -, -⟩ := hfit
      have o' : OwnB wr G (fun v => if v < 0 then readsF r (fs.take (k + 1)) v else readsF r (fs.take k) v) := o.ext (fun v hv => by simp)
      clear o
      have HW : Hid (Below w.heap.size w wr) := hb
      clear hb
      go_wp2_with fail
      go_loopw [7] (fun v w2 => ∃ u : Nat, u ≤ 3 ∧ v = .int .i64 u ∧ Below w.heap.size w w2 ∧ OwnB w2 G (fun v => if v < u then readsF r (fs.take (k + 1)) v else readsF r (fs.take k) v)) (fun v _ => 3 - (intOf v).toNat)
      case atStart => exact ⟨0, by omega, rfl, HW.out, o'⟩
      case round =>
        clear o' HW
        obtain ⟨u, hu, rfl, hb, o⟩ := hrel
        by_cases hu3 : u < 3
        · have hu' : (u : Int) < 3 := by omega
          obtain ⟨b, off, rfl, a', c', ca, cc, c0, c1, c2, iC, iD⟩ := (HF.out.keep hb) k hkl
          obtain ⟨cb, co, rfl, cv⟩ := iC.2 u hu3
          have hval : (fs[k]?.getD ([], [], 0)).1.getD u 0 = (fs[k]?.getD ([], [], 0)).1[u]?.getD 0 := by rw [List.getD_eq_getElem?_getD]
          rw [hval] at cv
          have HH : Hid (hasP (fs[k]?.getD ([], [], 0)) u = ((fs[k]?.getD ([], [], 0)).1[u]?.getD 0 != 0)) := rfl
          generalize (fs[k]?.getD ([], [], 0)).1[u]?.getD 0 = z at *
          have lG2 := o.lt
          by_cases hz : z = 0
          · have hz' : (z != 0) = false := by simp [hz]
            have O2 : OwnB wr G (fun v => if v < u + 1 then readsF r (fs.take (k + 1)) v else readsF r (fs.take k) v) := o.ext (fun v hv => by
              by_cases e : v = u
              · subst e; simp only [Nat.lt_irrefl, if_false, Nat.lt_succ_self, if_true]; rw [HS.out, HH.out, hz']; simp
              · by_cases e2 : v < u
                · rw [if_pos e2, if_pos (by omega)]
                · rw [if_neg e2, if_neg (by omega)])
            have HO2 : Hid (OwnB wr G (fun v => if v < u + 1 then readsF r (fs.take (k + 1)) v else readsF r (fs.take k) v)) := O2
            clear o O2
            go_wp2
            go_roundw
            case rel => exact ⟨u + 1, by omega, by go_num, hb, HO2.out⟩
            case measure => simp [intOf]; omega
          · have hz' : (z != 0) = true := by simp [hz]
            obtain ⟨cur, hc, hv⟩ := o
            have g0 : wr.cell? ⟨G, u, none⟩ = some _ := (hc.cell u).trans (hv u hu3)
            have fz := hc.free u
            have o2 := OwnB.set (W := wr) (G := G) ⟨cur, hc, hv⟩ hu3 true
            have O2 : Hid (OwnB (wr.setCell ⟨G, u, none⟩ (.bool true)) G (fun v => if v < u + 1 then readsF r (fs.take (k + 1)) v else readsF r (fs.take k) v)) := o2.ext (fun v hv => by
              by_cases e : v = u
              · subst e; simp only [if_true, Nat.lt_succ_self]; rw [HS.out, HH.out, hz']; simp
              · simp only [e, if_false]
                by_cases e2 : v < u
                · rw [if_pos e2, if_pos (by omega)]
                · rw [if_neg e2, if_neg (by omega)])
            have B2 := hb.setCell (p := ⟨G, u, none⟩) lG (.bool true)
            clear o2 hc hv
            go_wp2
            go_roundw
            case rel => exact ⟨u + 1, by omega, by go_num, B2, O2.out⟩
            case measure => simp [intOf]; omega
        · obtain rfl : u = 3 := by omega
          have O3 : Hid (OwnB wr G (readsF r (fs.take (k + 1)))) := o.ext (fun v hv => by simp only [hv, if_true])
          clear o
          go_wp2
          go_roundw
          case rel => exact ⟨k + 1, by omega, by go_num, hb, O3.out⟩
          case measure => simp [intOf]; omega
    · obtain rfl : k = N := by omega
      have O3 : OwnB wr G (readsF r fs) := by
        have : fs.take k = fs := List.take_of_length_le (by rw [HN.out]; exact Nat.le_refl _)
        rw [this] at o; exact o
      go_wp2
      go_ret
      exact ⟨G, cG, rfl, hb, lG, O3⟩

end Go.Proofs.Ytjggppnffkcmbaa
namespace Go.Proofs.Ytjggppnffkcmbaa
open Go.RowKit
set_option linter.unusedVariables false

/-- A list that has been made since w, and grows; old memory is as it was. -/
structure JA (w : World) (v : Value) (xs : List Int) (W : World) : Prop where
  b : Below w.heap.size w W
  o : W.ownsRow w.heap.size 3 1 v xs.length (xs.map (Value.int .i64))
theorem JA.nil (w : World) : JA w (.slice none 0 0) [] w := ⟨Below.refl _ _, World.ownsRow_nil w _ _ _⟩
theorem JA.lit (w : World) : JA w (.slice (some ⟨w.heap.size, 0, none⟩) 0 0) [] (w.alloc (.cells #[] 3)) :=
  ⟨(Below.refl _ _).alloc (Nat.le_refl _) _, World.ownsRow_lit w #[] 0 (Nat.le_refl _) (by unfold maxLen; omega) rfl⟩
theorem JA.alloc {w W : World} {v : Value} {xs : List Int} (j : JA w v xs W) (o : Obj) : JA w v xs (W.alloc o) := ⟨j.b.alloc j.b.size _, j.o.alloc o⟩
theorem JA.below {w W W' : World} {v : Value} {xs : List Int} (j : JA w v xs W) (h : Below W.heap.size W W') : JA w v xs W' := by
  refine ⟨j.b.trans (h.mono j.b.size), j.o.1, ?_⟩
  rcases j.o.2 with h2 | ⟨g, cap, cur, hv, hg, hh, r⟩
  · exact Or.inl h2
  · exact Or.inr ⟨g, cap, cur, hv, hg, by rw [h.block g (lt_of_block hh)]; exact hh, r⟩
theorem JA.own {w W W' : World} {v v' : Value} {xs ys : List Int} (j : JA w v xs W) (o : W'.ownsRow w.heap.size 3 1 v' ys.length (ys.map (Value.int .i64))) (g : W.grownBy W' v.ownBlock) : JA w v' ys W' :=
  ⟨j.b.grown g j.b.size (fun k hk => (j.o.lt k hk).1), o⟩
theorem JA.ints {w W : World} {v : Value} {xs : List Int} (j : JA w v xs W) : ∃ a cap, v = .slice a xs.length cap ∧ xs.length ≤ cap ∧ Ints W a xs.length xs ∧ (∀ b o, a = some ⟨b, o, none⟩ → w.heap.size ≤ b ∧ b < W.heap.size) := by
  rcases j.o.2 with ⟨hv, h⟩ | ⟨g, cap', cur, rfl, hg, hh, hl, _, _⟩
  · rw [h]
    have : xs = [] := List.eq_nil_of_length_eq_zero h
    subst this
    exact ⟨none, 0, hv, Nat.le_refl _, ⟨rfl, fun i hi => by omega⟩, fun b o e => by cases e⟩
  · refine ⟨some ⟨g, 0, none⟩, cap', rfl, hl, ⟨rfl, fun i hi => ⟨g, 0, rfl, ?_⟩⟩, fun b o e => ?_⟩
    · have := j.o.cellAt i (by omega)
      rw [Nat.zero_add, this]
      simp [hi]
    · simp only [Option.some.injEq, Addr.mk.injEq, and_true] at e
      obtain ⟨rfl, rfl⟩ := e
      exact ⟨hg, lt_of_block hh⟩

/-- One number, laid into a block of its own, to be appended. -/
theorem news1 (w : World) (x : Value) (t : TypeId) : ∀ j u, [x][j]? = some u → (w.alloc (.cells #[x] t)).cell? ((⟨w.heap.size, 0, none⟩ : Addr).add j) = some u := fun j u hu => by
  match j, hu with
  | 0, hu =>
    simp only [List.getElem?_cons_zero, Option.some.injEq] at hu
    subst hu
    simp [Addr.add]
theorem one1 (k : IntKind) (x : Int) : ∀ u ∈ [Value.int k x], u.oneCell' = true := fun u hu => by
  simp at hu; subst hu; rfl
theorem JA.app {w W W' : World} {v : Value} {xs : List Int} {y : Int} {g cap k : Nat} {o : Obj} (j : JA w v xs W) (hk : xs.length = k) (hown : W'.ownsRow w.heap.size 3 1 (.slice (some ⟨g, 0, none⟩) (k + 1) cap) (k + 1) (xs.map (Value.int .i64) ++ [.int .i64 y])) (hg : (W.alloc o).grownBy W' v.ownBlock) :
    JA w (.slice (some ⟨g, 0, none⟩) (k + 1) cap) (xs ++ [y]) W' := by
  refine (j.alloc o).own ?_ hg
  rw [List.length_append, hk, List.map_append]
  exact hown

end Go.Proofs.Ytjggppnffkcmbaa
namespace Go.Proofs.Ytjggppnffkcmbaa
open Go.RowKit
set_option linter.unusedVariables false
set_option maxRecDepth 100000

/-- The first n cells of block B are zs, free to be written; there may be room behind them. -/
def OwnX (W : World) (a : Option Addr) (B n : Nat) (zs : List Int) : Prop :=
  zs.length = n ∧ (n = 0 ∨ (a = some ⟨B, 0, none⟩ ∧ ∃ cur : List Value, Cel W B cur 3 ∧ ∀ i, i < n → cur[i]? = some (.int .i64 (zs[i]?.getD 0))))
theorem OwnX.ints {W : World} {a : Option Addr} {B n : Nat} {zs : List Int} (h : OwnX W a B n zs) : Ints W a n zs := by
  refine ⟨h.1, fun i hi => ?_⟩
  rcases h.2 with h0 | ⟨rfl, cur, hc, hv⟩
  · omega
  · refine ⟨B, 0, rfl, ?_⟩
    rw [Nat.zero_add, hc.cell i, hv i hi]
    simp
theorem OwnX.below {W W' : World} {a : Option Addr} {B n : Nat} {zs : List Int} (h : OwnX W a B n zs) (b : Below W.heap.size W W') : OwnX W' a B n zs := by
  refine ⟨h.1, ?_⟩
  rcases h.2 with h0 | ⟨e, cur, hc, hv⟩
  · exact .inl h0
  · exact .inr ⟨e, cur, hc.below b, hv⟩
theorem OwnX.alloc {W : World} {a : Option Addr} {B n : Nat} {zs : List Int} (h : OwnX W a B n zs) (o : Obj) : OwnX (W.alloc o) a B n zs := h.below ((Below.refl _ _).alloc (Nat.le_refl _) _)
theorem OwnX.touch {S : Nat → Prop} {W W' : World} {a : Option Addr} {B n : Nat} {zs : List Int} (h : OwnX W a B n zs) (t : Touch S W W') (hn : 0 < n → ¬ S B) : OwnX W' a B n zs := by
  refine ⟨h.1, ?_⟩
  rcases h.2 with h0 | ⟨e, cur, hc, hv⟩
  · exact .inl h0
  · by_cases h0 : 0 < n
    · exact .inr ⟨e, cur, hc.touch t (hn h0), hv⟩
    · exact .inl (by omega)
theorem OwnX.lt {W : World} {a : Option Addr} {B n : Nat} {zs : List Int} (h : OwnX W a B n zs) (hn : 0 < n) : B < W.heap.size := by
  rcases h.2 with h0 | ⟨e, cur, hc, hv⟩
  · omega
  · exact hc.lt
theorem OwnX.setOther {W : World} {a : Option Addr} {B n X : Nat} {zs : List Int} (h : OwnX W a B n zs) (hX : 0 < n → X ≠ B) (i : Nat) (v : Value) : OwnX (W.setCell ⟨X, i, none⟩ v) a B n zs := by
  refine h.touch (S := fun k => k = X) (Touch.setCell (S := fun k => k = X) (Touch.refl _ _) rfl v) (fun h0 e => hX h0 e.symm)
theorem OwnX.nil (W : World) (a : Option Addr) (B : Nat) : OwnX W a B 0 [] := ⟨rfl, .inl rfl⟩
theorem OwnX.pos {W : World} {a : Option Addr} {B n : Nat} {zs : List Int} (h : OwnX W a B n zs) (hn : 0 < n) : a = some ⟨B, 0, none⟩ ∧ (∀ i, i < n → W.cell? ⟨B, i, none⟩ = some (.int .i64 (zs[i]?.getD 0))) ∧ ∀ i, W.frozen? ⟨B, i, none⟩ = false := by
  rcases h.2 with h0 | ⟨rfl, cur, hc, hv⟩
  · omega
  · exact ⟨rfl, fun i hi => by rw [hc.cell i, hv i hi], fun i => hc.free i⟩
theorem OwnX.set {W : World} {a : Option Addr} {B n : Nat} {zs : List Int} (h : OwnX W a B n zs) {i : Nat} (hi : i < n) (x : Int) : OwnX (W.setCell ⟨B, i, none⟩ (.int .i64 x)) a B n (zs.set i x) := by
  refine ⟨by rw [List.length_set]; exact h.1, ?_⟩
  rcases h.2 with h0 | ⟨e, cur, hc, hv⟩
  · omega
  · refine .inr ⟨e, cur.set i (.int .i64 x), hc.set _ _, fun j hj => ?_⟩
    have hl : i < cur.length := by
      have := hv i hi
      exact (List.getElem?_eq_some_iff.1 this).1
    have hz := h.1
    by_cases e : j = i
    · subst e
      rw [List.getElem?_set_self hl, List.getElem?_set_self (by omega)]; rfl
    · rw [List.getElem?_set_ne (by omega), hv j hj, List.getElem?_set_ne (by omega)]
theorem JA.ownx {w W : World} {v : Value} {xs : List Int} {n : Nat} (j : JA w v xs W) (hn : xs.length = n) : ∃ a cap B, v = .slice a n cap ∧ OwnX W a B n xs ∧ (0 < n → w.heap.size ≤ B) := by
  subst hn
  rcases j.o.2 with ⟨hv, h⟩ | ⟨g, cap', cur, rfl, hg, hh, hl, _, hs, ht⟩
  · rw [h]
    have : xs = [] := List.eq_nil_of_length_eq_zero h
    subst this
    exact ⟨none, 0, 0, hv, OwnX.nil _ _ _, fun h => by omega⟩
  · refine ⟨some ⟨g, 0, none⟩, cap', g, rfl, ⟨rfl, .inr ⟨rfl, cur.toList, by unfold Cel; simpa using hh, fun i hi => ?_⟩⟩, fun _ => hg⟩
    have h1 : (cur.toList.take (xs.length * 1))[i]? = (xs.map (Value.int .i64))[i]? := by rw [ht]
    rw [List.getElem?_take, if_pos (by omega)] at h1
    rw [h1]
    simp [hi]

end Go.Proofs.Ytjggppnffkcmbaa
namespace Go.Proofs.Ytjggppnffkcmbaa
open Go.RowKit
set_option linter.unusedVariables false
set_option maxRecDepth 100000

set_option maxHeartbeats 400000 in
theorem addX_any (n cap B : Nat) (a c : Option Addr) (cap' : Nat) (xs ys : List Int) (M M' : Int) (w : World) (h : OwnX w a B n xs) (h' : Ints w c n ys) (hne : ∀ b o, c = some ⟨b, o, none⟩ → b ≠ B)
    (hn : n ≤ 1048576) (hM : bnd M xs) (hM' : bnd M' ys) (hb : M ≤ 2000000000000000000) (hb' : M' ≤ 2000000000000000000) :
    Calls Try.prog 106 #[.slice a n cap, .slice c n cap'] w fun e w' => e = .returned (.tuple #[]) ∧ Touch (fun x => x = B ∧ 0 < n) w w' ∧ OwnX w' a B n (List.zipWith (· + ·) xs ys) := by
  have HX : Hid (xs.length = n) := h.1
  have HY : Hid (ys.length = n) := h'.1
  go_enter Try.func106, Try.ntmps106
  go_wp2_with fail
  go_loopw [4, 5, 8] (fun _ _ i wr => ∃ j : Nat, j ≤ n ∧ i = .int .i64 j ∧ Touch (fun x => x = B ∧ 0 < n) w wr ∧ OwnX wr a B n (added xs ys j)) (fun _ _ i _ => n - (intOf i).toNat)
  case atStart => exact ⟨0, Nat.zero_le _, rfl, Touch.refl _ _, by rw [added_zero]; exact h⟩
  case round =>
    obtain ⟨j, hj, rfl, ht, ho⟩ := hrel
    by_cases hlt : j < n
    · obtain ⟨rfl, hcs, hfs⟩ := ho.pos (by omega)
      obtain ⟨b, off, rfl, hcell⟩ := h'.pos (by omega)
      have hck : wr.cell? ⟨b, off + j, none⟩ = some (.int .i64 (ys[j]?.getD 0)) := by
        have h0 := hcell j hlt
        have : wr.cell? ⟨b, off + j, none⟩ = w.cell? ⟨b, off + j, none⟩ := World.cell?_of_block (ht.block b (block_lt h0) (fun e => hne b off rfl e.1))
        rw [this, h0]; simp
      have hco : wr.cell? ⟨B, j, none⟩ = some (.int .i64 (xs[j]?.getD 0)) := by
        rw [hcs j hlt, added_get xs ys j (by rw [HX.out, HY.out]) (by rw [HX.out]; exact hlt)]
      have hf := hfs j
      obtain ⟨m1, m2⟩ := hM j
      obtain ⟨m3, m4⟩ := hM' j
      have R : OwnX (wr.setCell ⟨B, j, none⟩ (.int .i64 (xs[j]?.getD 0 + ys[j]?.getD 0))) (some ⟨B, 0, none⟩) B n (added xs ys (j + 1)) := by
        have := ho.set hlt (xs[j]?.getD 0 + ys[j]?.getD 0)
        rwa [added_succ xs ys j (by rw [HX.out, HY.out]) (by rw [HX.out]; exact hlt)] at this
      have R2 : Touch (fun x => x = B ∧ 0 < n) w (wr.setCell ⟨B, j, none⟩ (.int .i64 (xs[j]?.getD 0 + ys[j]?.getD 0))) := ht.setCell ⟨rfl, by omega⟩ _
      clear h ho hcell h' hM hM' hne hcs hfs
      go_wp2
      go_roundw
      case rel => exact ⟨j + 1, by omega, by go_num, R2, R⟩
      case measure => simp [intOf]; omega
    · go_wp2
      go_end0
      obtain rfl : j = n := by omega
      exact ⟨rfl, ht, by rw [added_end xs ys j (by rw [HX.out]; exact Nat.le_refl _) (by rw [HY.out]; exact Nat.le_refl _)] at ho; exact ho⟩

/-- The numbers of a slice, to be appended. -/
theorem newsI {w : World} {b off n : Nat} {zs : List Int} (h : ∀ i, i < n → w.cell? ⟨b, off + i, none⟩ = some (.int .i64 (zs.getD i 0))) (hl : zs.length = n) : ∀ j u, (zs.map (Value.int .i64))[j]? = some u → w.cell? ((⟨b, off, none⟩ : Addr).add j) = some u := fun j u hu => by
  have hj : j < n := by
    have := (List.getElem?_eq_some_iff.1 hu).1
    simpa [hl] using this
  have hadd : (⟨b, off, none⟩ : Addr).add j = ⟨b, off + j, none⟩ := by
    by_cases h0 : j = 0
    · subst h0; simp [Addr.add]
    · simp [Addr.add, h0]
  rw [hadd, h j hj]
  rw [List.getElem?_map, List.getElem?_eq_getElem (by omega)] at hu
  simp only [Option.map_some, Option.some.injEq] at hu
  rw [← hu]
  simp [hl, hj]
theorem oneI (zs : List Int) : ∀ u ∈ zs.map (Value.int .i64), u.oneCell' = true := fun u hu => by
  obtain ⟨x, _, rfl⟩ := List.mem_map.1 hu
  rfl
theorem JA.copied {w W' : World} {zs : List Int} {g cap n : Nat} (hn : zs.length = n) (hown : W'.ownsRow w.heap.size 3 1 (.slice (some ⟨g, 0, none⟩) (0 + n) cap) (0 + n) ([] ++ zs.map (Value.int .i64))) (hg : (w.alloc (.cells #[] 3)).grownBy W' (Value.ownBlock (.slice (some ⟨w.heap.size, 0, none⟩) 0 0))) :
    JA w (.slice (some ⟨g, 0, none⟩) n cap) zs W' := by
  have h0 := JA.lit w
  refine h0.own (ys := zs) ?_ hg
  rw [hn]
  simpa using hown

set_option maxHeartbeats 400000 in
theorem clone_any (a : Option Addr) (n cap : Nat) (zs : List Int) (w : World) (h : Ints w a n zs) (hn : n ≤ 1048576) (h0 : 0 < n) :
    Calls Try.prog 58 #[.slice a n cap] w fun e w' => ∃ v, e = .returned v ∧ JA w v zs w' := by
  have HZ : Hid (zs.length = n) := h.1
  obtain ⟨i0, hi, hz0, hz1, hz2⟩ := info_parts Try.infoInt
  obtain ⟨b, off, rfl, hcell⟩ := h.pos h0
  have hcl : ∀ i, i < n → (w.alloc (.cells #[] 3)).cell? ⟨b, off + i, none⟩ = some (.int .i64 (zs.getD i 0)) := fun i hi => by
    rw [((Below.refl w.heap.size w).alloc (Nat.le_refl _) _).cell (p := ⟨b, off + i, none⟩) (block_lt (hcell i hi))]; exact hcell i hi
  have HC : Hid _ := newsI hcl HZ.out
  have HL : Hid ((zs.map (Value.int .i64)).length = n * 1) := by show _ = _; rw [List.length_map, HZ.out, Nat.mul_one]
  have HJ : Hid _ := (JA.lit w).o
  clear hcl hcell h
  have hnil : ∀ w, (binOp .eql 26 (.slice (some ⟨b, off, none⟩) n cap) (.slice none 0 0)).run Try.prog w = .ok (.bool false) w := fun w => Go.Lib.run_eql_slice_nil w _ _ _ _ _ _ _ Try.underlying26
  go_enter Try.func58, Try.ntmps58
  go_wp2_with (at_builtin; go_must (refine wpList_append_lies _ rfl (.tmp 5) (.tmp 6) 26 rfl w.heap.size 3 i0 (.int .i64 0) 1 8 Try.underlying26 hi hz0 hz1 hz2 rfl (by decide) _ 0 [] rfl HJ.out ⟨b, off, none⟩ n cap (zs.map (Value.int .i64)) rfl HL.out HC.out (oneI _) h0 (by unfold maxLen; omega) (by omega) (by rw [World.size_alloc]; omega) _ rfl ?_); intro g cp w1 hown hgrow hat hlt1)
  have j := JA.copied HZ.out hown hgrow
  clear hown hgrow
  go_wp2
  go_ret
  exact ⟨_, rfl, j⟩

end Go.Proofs.Ytjggppnffkcmbaa
namespace Go.Proofs.Ytjggppnffkcmbaa
open Go.RowKit Go.Deep
set_option linter.unusedVariables false
set_option maxRecDepth 100000

set_option maxHeartbeats 1600000 in
theorem ilack_any (a : Option Addr) (cap : Nat) (c : Option Addr) (cap' : Nat) (K : Int) (C D : List Int) (w : World) (hC : Ints w a 3 C) (hD : Ints w c 2 D) (bC : bnd 10000000 C) (bD : bnd 10000000 D) (bK1 : -10000000 ≤ K) (bK2 : K ≤ 10000000) (hfit : fitX 10000000 (minusX (C, D, K))) :
    Calls Try.prog 138 #[formV a 3 cap c 2 cap' K] w fun e w' => ∃ B1 B2, e = .returned (formV (some ⟨B1, 0, none⟩) 3 3 (some ⟨B2, 0, none⟩) 2 2 (-K - 1)) ∧ Below w.heap.size w w' ∧ w.heap.size ≤ B1 ∧ B1 ≠ B2 ∧ w.heap.size ≤ B2 ∧ Blk w' B1 (mulL (-1) C) ∧ Blk w' B2 (mulL (-1) D) := by
  have hok : formB 3 2 (mulL (-1) C) (mulL (-1) D) (-K - 1) = true := by
    have := fit_ok hfit
    simp only [minusX] at this
    rw [show -1 * K - 1 = -K - 1 by omega] at this
    exact this
  have HOK : Hid _ := hok
  have lC : (mulL (-1) C).length = 3 := by rw [mulL_len]; exact hC.1
  have lD : (mulL (-1) D).length = 2 := by rw [mulL_len]; exact hD.1
  clear hok hfit
  have A2 : Below w.heap.size w ((w.alloc (.cells #[.slice a 3 cap, .slice c 2 cap', .int .i64 K] 34)).alloc (.cells #[.slice none 0 0, .slice none 0 0, .int .i64 0] 34)) := ((Below.refl _ _).alloc (Nat.le_refl _) _).alloc (by simp) _
  have rr := Cel.new (w.alloc (.cells #[.slice a 3 cap, .slice c 2 cap', .int .i64 K] 34)) [.slice none 0 0, .slice none 0 0, .int .i64 0] 34
  rw [World.size_alloc] at rr
  go_enter Try.func138, Try.ntmps138
  go_wp2_with fail
  refine (times_any _ _ _ _ _ C D _ _ (hC.below A2) (hD.below A2) (tim_bnd bC (by omega) (by omega)) (tim_bnd bD (by omega) (by omega)) (tim_num bK1 bK2 (by omega) (by omega))).mono ?_
  rintro e w3 ⟨B1, B2, rfl, b3, y1, y2, y3, k1, k2⟩
  rw [show (-1 : Int) * K = -K by omega]
  rw [World.size_alloc, World.size_alloc] at y1 y3
  have B3 := A2.trans (b3.mono A2.size)
  have r3 := rr.below b3
  have l1 := k1.lt
  have l2 := k2.lt
  have lr := r3.lt
  clear A2 b3 rr
  have hw : IntKind.i64.wrap (-K - 1) = -K - 1 := wrap_id (by omega) (by omega)
  have A4 : Below w3.heap.size w3 (w3.alloc (.cells #[.slice (some ⟨B1, 0, none⟩) 3 3, .slice (some ⟨B2, 0, none⟩) 2 2, .int .i64 (-K - 1)] 34)) := (Below.refl _ _).alloc (Nat.le_refl _) _
  have m1 := k1.below A4
  have m2 := k2.below A4
  have r4 := r3.below A4
  have B4 := B3.trans (A4.mono B3.size)
  clear k1 k2 r3 A4 B3
  go_wp2_with fail
  refine (orN_yes _ _ _ _ _ _ _ (mulL (-1) C) (mulL (-1) D) _ (m1.ints' lC) (m2.ints' lD) (by omega) (by omega) HOK.out).mono ?_
  rintro e w5 ⟨rfl, b5⟩
  have n1 := m1.below b5
  have n2 := m2.below b5
  have r5 := r4.below b5
  have B5 := B4.trans (b5.mono B4.size)
  obtain ⟨e0, e1, e2, e3, e4, e5⟩ := r5.trio
  have r6 := ((r5.set 0 (.slice (some ⟨B1, 0, none⟩) 3 3)).set 1 (.slice (some ⟨B2, 0, none⟩) 2 2)).set 2 (.int .i64 (-K - 1))
  simp only [List.set_cons_zero, List.set_cons_succ] at r6
  obtain ⟨h0, h1, h2, h3, h4, h5⟩ := r6.trio
  clear m1 m2 r4 B4 b5
  go_wp2
  refine bodyPost_ret (v := formV (some ⟨B1, 0, none⟩) 3 3 (some ⟨B2, 0, none⟩) 2 2 (-K - 1)) (by simp [results, Try.results138, go_sem, h0, h1, h2]) rfl ?_
  refine ⟨B1, B2, rfl, ?_, by omega, y2, by omega, ?_, ?_⟩
  · exact ((B5.setCell (by simp only []; omega) _).setCell (by simp only []; omega) _).setCell (by simp only []; omega) _
  · exact ((n1.setOther (by omega) _ _).setOther (by omega) _ _).setOther (by omega) _ _
  · exact ((n2.setOther (by omega) _ _).setOther (by omega) _ _).setOther (by omega) _ _

theorem way0_get {k : Nat} (hk : k < 3) : way0.pots[k]?.getD ([], [], 0) = (([0, 0, 0] : List Int).set k 1, [0, 0], 0) := by
  match k, hk with
  | 0, _ => rfl
  | 1, _ => rfl
  | 2, _ => rfl

set_option maxHeartbeats 1600000 in
theorem ipots_any (w : World) : Calls Try.prog 97 #[] w fun e w' => ∃ v xs, e = .returned v ∧ JV w v 3 xs way0.pots w' := by
  obtain ⟨zi, hi, hz0, hz1, hz2⟩ := info_parts Try.infoForm
  go_enter Try.func97, Try.ntmps97
  go_wp2_with fail
  go_loopw [1, 2, 3] (fun r _ i wr => ∃ (k : Nat) (xs : List Value), k ≤ 3 ∧ i = .int .i64 k ∧ JV w r k xs way0.pots wr) (fun _ _ i _ => 3 - (intOf i).toNat)
  case atStart => exact ⟨0, [], by omega, rfl, JV.nil w _⟩
  case round =>
    obtain ⟨k, xs, hk, rfl, j⟩ := hrel
    by_cases hlt : k < 3
    · obtain ⟨va, vc, rfl⟩ := j.isSlice
      have hlt' : (k : Int) < 3 := by omega
      have HT : Hid _ := way0_get hlt
      go_wp2_with fail
      refine (ipot_any _ _).mono ?_
      rintro ee w3 ⟨a0, n0, x0, c0, m0, y0, Z1, Z2, rfl, L1, L2, b3, o1, o2, g1, g2, g3⟩
      rw [potC_in (k : Int) k rfl (by omega)] at L1 o1
      rw [potD_in (k : Int) (by omega) (by omega)] at L2 o2
      obtain rfl : n0 = 3 := by rw [← L1]; simp
      obtain rfl : m0 = 2 := by rw [← L2]; simp
      rcases o1 with h | ⟨rfl, k1⟩
      · rw [h] at L1; cases L1
      rcases o2 with h | ⟨rfl, k2⟩
      · cases h
      have z1 := g1 (by omega)
      have z2 := g2 (by omega)
      clear g1 g2 g3
      have j3 := j.below b3
      have sz := j.b.size
      have sz3 := b3.size
      have A : Below w3.heap.size w3 (w3.alloc (.cells #[.slice (some ⟨Z1, 0, none⟩) 3 x0, .slice (some ⟨Z2, 0, none⟩) 2 y0, .int .i64 0] 34)) := (Below.refl _ _).alloc (Nat.le_refl _) _
      have j4 := j3.below A
      have k1' := k1.below A
      have k2' := k2.below A
      have n1 : (Value.slice va k vc).ownBlock ≠ some Z1 := fun e => by have := (j.own e).2; omega
      have n2 : (Value.slice va k vc).ownBlock ≠ some Z2 := fun e => by have := (j.own e).2; omega
      have l3 : (([0, 0, 0] : List Int).set k 1).length = 3 := by simp
      clear j j3
      go_wp2_with (at_builtin; go_must (refine wpList_append_lies _ rfl (.tmp 6) (.tmp 9) 23 rfl w.heap.size 34 zi _ 3 56 Try.underlying23 hi hz0 hz1 hz2 rfl (by decide) (.slice va k vc) k xs rfl j4.o ⟨w3.heap.size, 0, none⟩ 1 1 [.slice (some ⟨Z1, 0, none⟩) 3 x0, .slice (some ⟨Z2, 0, none⟩) 2 y0, .int .i64 0] rfl rfl (World.news_of_block (cs := #[.slice (some ⟨Z1, 0, none⟩) 3 x0, .slice (some ⟨Z2, 0, none⟩) 2 y0, .int .i64 0]) (t := 34) (fr := (0, 0)) (heap_alloc_new w3 _)) (by simp [Value.oneCell']) (by omega) (by unfold maxLen; omega) (by omega) (by rw [World.size_alloc]; omega) _ rfl ?_); intro g cp w4 hown hgrow hat hlt1)
      have j5 := j4.app hown hgrow hat rfl (k1'.ints' l3) (k2'.ints' rfl) n1 n2 (by omega) (by omega) HT.out
      clear hown hgrow hat j4 k1 k2 k1' k2'
      go_wp2
      go_roundw
      case rel => exact ⟨k + 1, _, by omega, by go_num, j5⟩
      case measure => simp [intOf]; omega
    · obtain rfl : k = 3 := by omega
      go_wp2
      go_ret
      exact ⟨_, xs, rfl, j⟩

end Go.Proofs.Ytjggppnffkcmbaa
namespace Go.Proofs.Ytjggppnffkcmbaa
open Go.RowKit Go.Deep
set_option linter.unusedVariables false
set_option maxRecDepth 100000

set_option maxHeartbeats 3200000 in
theorem icopied_any (a : Option Addr) (cap : Nat) (c : Option Addr) (cap' : Nat) (K : Int) (C D : List Int) (w : World) (hC : Ints w a 3 C) (hD : Ints w c 2 D) :
    Calls Try.prog 165 #[formV a 3 cap c 2 cap' K] w fun e w' => ∃ B1 B2 c1 c2, e = .returned (formV (some ⟨B1, 0, none⟩) 3 c1 (some ⟨B2, 0, none⟩) 2 c2 K) ∧ Below w.heap.size w w' ∧ w.heap.size ≤ B1 ∧ B1 ≠ B2 ∧ w.heap.size ≤ B2 ∧ Ints w' (some ⟨B1, 0, none⟩) 3 C ∧ Ints w' (some ⟨B2, 0, none⟩) 2 D := by
  have H1 : TimesH w a cap c cap' K ((w.alloc (Obj.cells #[Value.slice a 3 cap, Value.slice c 2 cap', Value.int IntKind.i64 K] 34)).alloc (Obj.cells #[Value.slice none 0 0, Value.slice none 0 0, Value.int IntKind.i64 0] 34)) :=
    ⟨(Cel.new w _ _).alloc _, by have := Cel.new (w.alloc (Obj.cells #[Value.slice a 3 cap, Value.slice c 2 cap', Value.int IntKind.i64 K] 34)) [.slice none 0 0, .slice none 0 0, .int .i64 0] 34; rw [World.size_alloc] at this; exact this, ((Below.refl _ _).alloc (Nat.le_refl _) _).alloc (by simp) _⟩
  go_enter Try.func165, Try.ntmps165
  go_upto_region 1 with fail
  obtain ⟨W0, hW0⟩ : ∃ w2, w2 = (w.alloc (Obj.cells #[Value.slice a 3 cap, Value.slice c 2 cap', Value.int IntKind.i64 K] 34)).alloc (Obj.cells #[Value.slice none 0 0, Value.slice none 0 0, Value.int IntKind.i64 0] 34) := ⟨_, rfl⟩
  rw [← hW0] at H1 ⊢
  clear hW0
  have KP : Hid (∀ W, Below W0.heap.size W0 W → TimesH w a cap c cap' K W) := fun W hW => H1.below hW
  have lr := H1.r.lt
  have c0 : Below W0.heap.size W0 W0.drew := (Below.refl _ _).drew
  have hSS : (W0.drew.cell? ⟨w.heap.size, 0, none⟩ = some (.slice a 3 cap) ∧ W0.drew.cell? ⟨w.heap.size, 1, none⟩ = some (.slice c 2 cap') ∧ W0.drew.cell? ⟨w.heap.size, 2, none⟩ = some (.int .i64 K)) ∧ True := ⟨(KP.out _ c0).cells, trivial⟩
  have hb0 := H1.b
  clear H1
  refine wp_region_ends (fun w' => w'.cell? ⟨w.heap.size, 0, none⟩ = some (.slice a 3 cap) ∧ w'.cell? ⟨w.heap.size, 1, none⟩ = some (.slice c 2 cap') ∧ w'.cell? ⟨w.heap.size, 2, none⟩ = some (.int .i64 K)) (fun _ => True) 9 (by kernel_rfl) ?_
  refine wpAnyE_take0 (i := 0) (v := ?v0) rfl (by kernel_rfl) (by kernel_rfl) (by kernel_rfl) (by decide) (fun _ _ _ h => h) (Or.inl ⟨by rfl, ?hy0⟩) hSS ?_
  case hy0 => (intro wz hSw; (try dsimp only at hSw); go_simp; try (with_reducible rfl))
  refine wpAnyE_take0 (i := 1) (v := ?v1) rfl (by kernel_rfl) (by kernel_rfl) (by kernel_rfl) (by decide) (fun _ _ _ h => h) (Or.inl ⟨by rfl, ?hy1⟩) hSS ?_
  case hy1 => (intro wz hSw; (try dsimp only at hSw); go_simp; try (with_reducible rfl))
  refine wpAnyE_take0 (i := 3) (v := ?v3) rfl (by kernel_rfl) (by kernel_rfl) (by kernel_rfl) (by decide) (fun _ _ _ h => h) (Or.inl ⟨by rfl, ?hy3⟩) hSS ?_
  case hy3 => (intro wz hSw; (try dsimp only at hSw); go_simp; try (with_reducible rfl))
  refine wpAnyE_take0 (i := 4) (v := ?v4) rfl (by kernel_rfl) (by kernel_rfl) (by kernel_rfl) (by decide) (fun _ _ _ h => h) (Or.inl ⟨by rfl, ?hy4⟩) hSS ?_
  case hy4 => (intro wz hSw; (try dsimp only at hSw); go_simp; try (with_reducible rfl))
  refine wpAnyE_take0 (i := 6) (v := ?v6) rfl (by kernel_rfl) (by kernel_rfl) (by kernel_rfl) (by decide) (fun _ _ _ h => h) (Or.inl ⟨by rfl, ?hy6⟩) hSS ?_
  case hy6 => (intro wz hSw; (try dsimp only at hSw); go_simp; try (with_reducible rfl))
  refine wpAnyE_take0 (i := 7) (v := ?v7) rfl (by kernel_rfl) (by kernel_rfl) (by kernel_rfl) (by decide) (fun _ _ _ h => h) (Or.inl ⟨by rfl, ?hy7⟩) hSS ?_
  case hy7 => (intro wz hSw; (try dsimp only at hSw); go_simp; try (with_reducible rfl))
  clear hSS
  have sb0 := hb0.size
  refine wpAnyE_one (i := 2) (by kernel_rfl) rfl (fun K' hK => ?_)
  go_simp
  refine (clone_any _ _ _ C _ ((hC.below hb0).below c0) (by omega) (by omega)).mono ?_
  rintro ee w1 ⟨v1, rfl, j1⟩
  have e1 := below_of_drew j1.b
  obtain ⟨a1, p1, B1, rfl, o1, g1⟩ := j1.ownx hC.1
  have i1 := o1.ints
  obtain ⟨rfl, -, -⟩ := o1.pos (by omega)
  have y1 : W0.heap.size ≤ B1 := g1 (by omega)
  have l1 := o1.lt (by omega)
  clear j1 o1 g1
  (try dsimp only)
  refine hK.out _ _ ⟨(KP.out _ e1).cells, fun _ => trivial⟩ ?_
  clear hK K'
  refine wpAnyE_one (i := 5) (by kernel_rfl) rfl (fun K' hK => ?_)
  go_simp
  refine (clone_any _ _ _ D _ ((hD.below hb0).below e1) (by omega) (by omega)).mono ?_
  rintro ee w2 ⟨v2, rfl, j2⟩
  have e2 := e1.trans (j2.b.mono e1.size)
  have i1' := i1.below j2.b
  obtain ⟨a2, p2, B2, rfl, o2, g2⟩ := j2.ownx hD.1
  have i2 := o2.ints
  obtain ⟨rfl, -, -⟩ := o2.pos (by omega)
  have y2 : w1.heap.size ≤ B2 := g2 (by omega)
  have l2 := o2.lt (by omega)
  have s1 := e1.size
  have s2 := j2.b.size
  clear j2 o2 g2 i1
  (try dsimp only)
  refine hK.out _ _ ⟨(KP.out _ e2).cells, fun _ => trivial⟩ ?_
  clear hK K'
  refine wpAnyE_one (i := 8) (by kernel_rfl) rfl (fun K' hK => ?_)
  go_simp
  refine hK.out _ _ ⟨(KP.out _ e2).cells, fun _ => trivial⟩ ?_
  clear hK K'
  have HY := KP.out _ e2
  obtain ⟨r0, r1, r2, r3, r4, r5⟩ := HY.room
  obtain ⟨s0', s1', s2', -, -, -⟩ := HY.r.trio
  have T : Touch (fun z => z = w.heap.size + 1) w2 (((w2.setCell ⟨w.heap.size + 1, 0, none⟩ (.slice (some ⟨B1, 0, none⟩) 3 p1)).setCell ⟨w.heap.size + 1, 1, none⟩ (.slice (some ⟨B2, 0, none⟩) 2 p2)).setCell ⟨w.heap.size + 1, 2, none⟩ (.int .i64 K)) := (((Touch.refl (fun z => z = w.heap.size + 1) w2).setCell rfl _).setCell rfl _).setCell rfl _
  have r6 := ((HY.r.set 0 (.slice (some ⟨B1, 0, none⟩) 3 p1)).set 1 (.slice (some ⟨B2, 0, none⟩) 2 p2)).set 2 (.int .i64 K)
  simp only [List.set_cons_zero, List.set_cons_succ] at r6
  have p6 := HY.p.touch T (fun h => by have := h; omega)
  obtain ⟨h0, h1, h2, -, -, -⟩ := r6.trio
  obtain ⟨x0, x1, x2, -, -, -⟩ := p6.trio
  refine wpAnyE_one (i := 9) (by kernel_rfl) rfl (fun K' hK => ?_)
  go_simp
  refine hK.out _ _ ⟨⟨x0, x1, x2⟩, fun h => absurd (show true = false from h) (by decide)⟩ ?_
  clear hK K'
  refine wpAnyE_done (by kernel_rfl) ?_ _
  have q1 := i1'.by T (fun b o e => by simp only [Option.some.injEq, Addr.mk.injEq, and_true] at e; omega)
  have q2 := i2.by T (fun b o e => by simp only [Option.some.injEq, Addr.mk.injEq, and_true] at e; omega)
  have BB := (hb0.trans (e2.mono hb0.size)).trans (T.below (by omega) (fun z hz => by omega))
  clear HY r0 r1 r2 r3 r4 r5 s0' s1' s2' r6 p6 x0 x1 x2 T i1' i2
  go_wp2
  refine bodyPost_ret (v := formV (some ⟨B1, 0, none⟩) 3 p1 (some ⟨B2, 0, none⟩) 2 p2 K) (by simp [results, Try.results165, go_sem, h0, h1, h2]) rfl ?_
  exact ⟨B1, B2, p1, p2, rfl, BB, by omega, by omega, by omega, q1, q2⟩

theorem Try.copiedForm (v : Value) (w : World) : (Go.method 299 34 v "loop.example/concord/impl.copied").run Try.prog w = .ok (165, v) w := by kernel_rfl

set_option maxHeartbeats 3200000 in
theorem icopiesBy_any (ad : Option Addr) (N cap : Nat) (fs : List Frm) (w : World) (hN : fs.length = N) (hF : FormsAt w ad fs) (hfit : ∀ k, k < N → fitX 10000000 (fs[k]?.getD ([], [], 0))) (hN1 : N ≤ 1048576) :
    Calls Try.prog 141 #[.slice ad N cap, .func (.methodOf 34 "loop.example/concord/impl.copied") #[] #[]] w fun e w' => ∃ v xs, e = .returned v ∧ JV w v N xs fs w' := by
  have HN : Hid (fs.length = N) := hN
  have HFT : Hid _ := hfit
  have HF : Hid (FormsAt w ad fs) := hF
  clear hN hfit hF
  obtain ⟨zi, hi, hz0, hz1, hz2⟩ := info_parts Try.infoForm
  have hm := Try.copiedForm
  go_enter Try.func141, Try.ntmps141
  go_wp2_with fail
  go_loopw [5, 7, 10] (fun r _ i wr => ∃ (k : Nat) (xs : List Value), k ≤ N ∧ i = .int .i64 k ∧ JV w r k xs fs wr) (fun _ _ i _ => N - (intOf i).toNat)
  case atStart => exact ⟨0, [], Nat.zero_le _, rfl, JV.nil w _⟩
  case round =>
    obtain ⟨k, xs, hk, rfl, j⟩ := hrel
    by_cases hlt : k < N
    · obtain ⟨va, vc, rfl⟩ := j.isSlice
      have hlt' : (k : Int) < N := by omega
      obtain ⟨b, off, rfl, a', c', ca, cc, c0, c1, c2, iC, iD⟩ := (HF.out.keep j.b) k (by rw [HN.out]; exact hlt)
      have hfit := HFT.out k hlt
      generalize HG : fs[k]?.getD ([], [], 0) = f at *
      have HT : Hid (fs[k]?.getD ([], [], 0) = f) := HG
      clear HG
      obtain ⟨fC, fD, fK⟩ := f
      have lC : fC.length = 3 := hfit.c
      have lD : fD.length = 2 := hfit.d
      simp only at c2 iC iD
      clear hfit
      have A1 : Below wr.heap.size wr (wr.alloc (.cells #[.slice a' 3 ca, .slice c' 2 cc, .int .i64 fK] 34)) := (Below.refl _ _).alloc (Nat.le_refl _) _
      go_wp2_with fail
      refine (icopied_any _ _ _ _ _ fC fD _ (iC.below A1) (iD.below A1)).mono ?_
      rintro ee w3 ⟨Z1, Z2, x0, y0, rfl, b3, z1, z2, z3, k1, k2⟩
      rw [World.size_alloc] at z1 z3
      have b3' := A1.trans (b3.mono A1.size)
      have j3 := j.below b3'
      have sz := j.b.size
      have sz3 := b3'.size
      have A : Below w3.heap.size w3 (w3.alloc (.cells #[.slice (some ⟨Z1, 0, none⟩) 3 x0, .slice (some ⟨Z2, 0, none⟩) 2 y0, .int .i64 fK] 34)) := (Below.refl _ _).alloc (Nat.le_refl _) _
      have j4 := j3.below A
      have k1' := k1.below A
      have k2' := k2.below A
      have n1 : (Value.slice va k vc).ownBlock ≠ some Z1 := fun e => by have := (j.own e).2; omega
      have n2 : (Value.slice va k vc).ownBlock ≠ some Z2 := fun e => by have := (j.own e).2; omega
      clear j j3 c0 c1 c2 iC iD A1 b3 b3'
      go_wp2_with (at_builtin; go_must (refine wpList_append_lies _ rfl (.tmp 14) (.tmp 18) 23 rfl w.heap.size 34 zi _ 3 56 Try.underlying23 hi hz0 hz1 hz2 rfl (by decide) (.slice va k vc) k xs rfl j4.o ⟨w3.heap.size, 0, none⟩ 1 1 [.slice (some ⟨Z1, 0, none⟩) 3 x0, .slice (some ⟨Z2, 0, none⟩) 2 y0, .int .i64 fK] rfl rfl (World.news_of_block (cs := #[.slice (some ⟨Z1, 0, none⟩) 3 x0, .slice (some ⟨Z2, 0, none⟩) 2 y0, .int .i64 fK]) (t := 34) (fr := (0, 0)) (heap_alloc_new w3 _)) (by simp [Value.oneCell']) (by omega) (by unfold maxLen; omega) (by omega) (by rw [World.size_alloc]; omega) _ rfl ?_); intro g cp w4 hown hgrow hat hlt1)
      have j5 := j4.app hown hgrow hat rfl k1' k2' n1 n2 (by omega) (by omega) HT.out
      clear hown hgrow hat j4 k1 k2 k1' k2'
      go_wp2
      go_roundw
      case rel => exact ⟨k + 1, _, by omega, by go_num, j5⟩
      case measure => simp [intOf]; omega
    · obtain rfl : k = N := by omega
      go_wp2
      go_ret
      exact ⟨_, xs, rfl, j⟩

theorem icopies_any (ad : Option Addr) (N cap : Nat) (fs : List Frm) (w : World) (hN : fs.length = N) (hF : FormsAt w ad fs) (hfit : ∀ k, k < N → fitX 10000000 (fs[k]?.getD ([], [], 0))) (hN1 : N ≤ 1048576) :
    Calls Try.prog 134 #[.slice ad N cap] w fun e w' => ∃ v xs, e = .returned v ∧ JV w v N xs fs w' := by
  go_enter Try.func134, Try.ntmps134
  go_wp2_with fail
  refine (icopiesBy_any _ _ _ fs _ hN hF hfit hN1).mono ?_
  rintro e w1 ⟨v, xs, rfl, j⟩
  go_wp2
  go_ret
  exact ⟨v, xs, rfl, j⟩

end Go.Proofs.Ytjggppnffkcmbaa
namespace Go.Proofs.Ytjggppnffkcmbaa
open Go.RowKit Go.Deep
set_option linter.unusedVariables false
set_option maxRecDepth 100000

/-- A way as a value. -/
abbrev wayV (ga : Option Addr) (ng gc : Nat) (pa : Option Addr) (cp : Nat) (ta : Option Addr) (nt tc : Nat) (st : Bool) : Value := .agg #[.slice ga ng gc, .slice pa 3 cp, .slice ta nt tc, .bool st]
theorem resYes {w w' : World} {e : Ending} {C D : List Int} {K : Int} (h : Res w w' e C D K) (hC : C.length = 3) (hD : D.length = 2) : ∃ B1 B2 c1 c2, e = .returned (formV (some ⟨B1, 0, none⟩) 3 c1 (some ⟨B2, 0, none⟩) 2 c2 K) ∧ Below w.heap.size w w' ∧ w.heap.size ≤ B1 ∧ B1 ≠ B2 ∧ w.heap.size ≤ B2 ∧ Blk w' B1 C ∧ Blk w' B2 D := by
  obtain ⟨a, n, cap, c, m, cap', B1, B2, rfl, L1, L2, b, o1, o2, g1, g2, g3⟩ := h
  obtain rfl : n = 3 := by omega
  obtain rfl : m = 2 := by omega
  rcases o1 with h | ⟨rfl, k1⟩
  · rw [h] at hC; cases hC
  rcases o2 with h | ⟨rfl, k2⟩
  · rw [h] at hD; cases hD
  exact ⟨B1, B2, cap, cap', rfl, b, g1 (by omega), g3 (by omega) (by omega), g2 (by omega), k1, k2⟩
theorem iaddX_any (a : Option Addr) (cap : Nat) (c : Option Addr) (cap' : Nat) (f : Frm) (a2 : Option Addr) (cap2 : Nat) (c2 : Option Addr) (cap2' : Nat) (g : Frm) (w : World) (hC : Ints w a 3 f.1) (hD : Ints w c 2 f.2.1) (hC2 : Ints w a2 3 g.1) (hD2 : Ints w c2 2 g.2.1) (h1 : fitX 10000000 f) (h2 : fitX 10000000 g) (h3 : fitX 10000000 (plusX f g)) :
    Calls Try.prog 142 #[formV a 3 cap c 2 cap' f.2.2, formV a2 3 cap2 c2 2 cap2' g.2.2] w fun e w' => ∃ B1 B2 c1 c2, e = .returned (formV (some ⟨B1, 0, none⟩) 3 c1 (some ⟨B2, 0, none⟩) 2 c2 (plusX f g).2.2) ∧ Below w.heap.size w w' ∧ w.heap.size ≤ B1 ∧ B1 ≠ B2 ∧ w.heap.size ≤ B2 ∧ Blk w' B1 (plusX f g).1 ∧ Blk w' B2 (plusX f g).2.1 := by
  have hok : addOk 3 2 f.1 f.2.1 f.2.2 3 2 g.1 g.2.1 g.2.2 = true := by
    have e3 : formB 3 2 (lin f.1 g.1 1) (lin f.2.1 g.2.1 1) (f.2.2 + 1 * g.2.2) = true := fit_ok h3
    unfold addOk
    rw [fit_ok h1, fit_ok h2, e3]; rfl
  refine (iadd_any a 3 cap c 2 cap' f.2.2 f.1 f.2.1 a2 3 cap2 c2 2 cap2' g.2.2 g.1 g.2.1 w hC hD hC2 hD2 (by omega) (by omega) (by omega) (by omega)).mono ?_
  intro e w' h
  rw [hok] at h
  exact resYes h h3.c h3.d
theorem lin_neg (xs ys : List Int) : lin xs (mulL (-1) ys) 1 = lin xs ys (-1) := by
  unfold lin mulL
  rw [List.zipWith_map_right]
  congr 1
  funext x y
  omega
def negX (k : Nat) : Frm := (mulL (-1) (([0, 0, 0] : List Int).set k 1), mulL (-1) [0, 0], -1 * 0)
theorem plus_neg (f : Frm) (k : Nat) : plusX f (negX k) = lessX f k := by
  simp only [plusX, negX, lessX, lin_neg]
  rw [show f.2.2 + 1 * (-1 * 0) = f.2.2 + -1 * 0 by omega]
theorem negX_fit {k : Nat} (hk : k < 3) : fitX 1 (negX k) := by
  have b3 : bnd 1 (mulL (-1) (([0, 0, 0] : List Int).set k 1)) := fun i => by
    match k, hk, i with
    | 0, _, 0 => simp [mulL]
    | 0, _, 1 => simp [mulL]
    | 0, _, 2 => simp [mulL]
    | 0, _, i + 3 => simp [mulL]
    | 1, _, 0 => simp [mulL]
    | 1, _, 1 => simp [mulL]
    | 1, _, 2 => simp [mulL]
    | 1, _, i + 3 => simp [mulL]
    | 2, _, 0 => simp [mulL]
    | 2, _, 1 => simp [mulL]
    | 2, _, 2 => simp [mulL]
    | 2, _, i + 3 => simp [mulL]
  have b2 : bnd 1 (mulL (-1) ([0, 0] : List Int)) := fun i => by
    match i with
    | 0 => simp [mulL]
    | 1 => simp [mulL]
    | i + 2 => simp [mulL]
  exact ⟨by simp [negX, mulL], by simp [negX, mulL], b3, b2, by simp [negX], by simp [negX]⟩
/-- Less than no pot. -/
theorem inegpot_any (k : Nat) (hk : k < 3) (a : Option Addr) (cap : Nat) (c : Option Addr) (cap' : Nat) (w : World) (hC : Ints w a 3 (([0, 0, 0] : List Int).set k 1)) (hD : Ints w c 2 [0, 0]) :
    Calls Try.prog 143 #[formV a 3 cap c 2 cap' 0, .int .i64 (-1)] w fun e w' => ∃ B1 B2 c1 c2, e = .returned (formV (some ⟨B1, 0, none⟩) 3 c1 (some ⟨B2, 0, none⟩) 2 c2 (negX k).2.2) ∧ Below w.heap.size w w' ∧ w.heap.size ≤ B1 ∧ B1 ≠ B2 ∧ w.heap.size ≤ B2 ∧ Blk w' B1 (negX k).1 ∧ Blk w' B2 (negX k).2.1 := by
  have h1 : formB 3 2 (([0, 0, 0] : List Int).set k 1) [0, 0] 0 = true := by
    match k, hk with
    | 0, _ => decide
    | 1, _ => decide
    | 2, _ => decide
  have h2 : formB 3 2 (negX k).1 (negX k).2.1 (negX k).2.2 = true := fit_ok ((negX_fit hk).mono (by omega))
  have hok : timOk 3 2 (([0, 0, 0] : List Int).set k 1) [0, 0] 0 (-1) = true := by
    unfold timOk
    rw [h1]
    have h2' : formB 3 2 (mulL (-1) (([0, 0, 0] : List Int).set k 1)) (mulL (-1) [0, 0]) (-1 * 0) = true := h2
    rw [h2']; rfl
  refine (itim_any a 3 cap c 2 cap' 0 _ _ (-1) w hC hD (by omega) (by omega)).mono ?_
  intro e w' h
  rw [hok] at h
  exact resYes h (negX_fit hk).c (negX_fit hk).d

set_option maxHeartbeats 3200000 in
theorem iadds_any (y : Way) (ga : Option Addr) (ng gc : Nat) (pa : Option Addr) (cp : Nat) (ta : Option Addr) (nt tc : Nat) (st : Bool) (w : World) (hp : y.pots.length = 3) (hP : FormsAt w pa y.pots) (fp : ∀ k, k < 3 → fitX 9000000 (y.pots[k]?.getD noX)) :
    Calls Try.prog 135 #[wayV ga ng gc pa cp ta nt tc st] w fun e w' => ∃ v xs, e = .returned v ∧ JV w v 3 xs (endW y).adds w' := by
  have HPL : Hid (y.pots.length = 3) := hp
  have HFP : Hid _ := fp
  have HP : Hid (FormsAt w pa y.pots) := hP
  clear hp fp hP
  obtain ⟨zi, hi, hz0, hz1, hz2⟩ := info_parts Try.infoForm
  have B0 : Below w.heap.size w (w.alloc (.cells #[.slice ga ng gc, .slice pa 3 cp, .slice ta nt tc, .bool st] 143)) := (Below.refl _ _).alloc (Nat.le_refl _) _
  have j0 : JV w (.slice none 0 0) 0 [] (endW y).adds (w.alloc (.cells #[.slice ga ng gc, .slice pa 3 cp, .slice ta nt tc, .bool st] 143)) := (JV.nil w _).below B0
  go_enter Try.func135, Try.ntmps135
  go_wp2_with fail
  go_loopw [3, 4, 5, 9] (fun r _ _ i wr => ∃ (k : Nat) (xs : List Value), k ≤ 3 ∧ i = .int .i64 k ∧ JV w r k xs (endW y).adds wr) (fun _ _ _ i _ => 3 - (intOf i).toNat)
  case atStart => exact ⟨0, [], by omega, rfl, j0⟩
  case round =>
    clear j0 B0
    obtain ⟨k, xs, hk, rfl, j⟩ := hrel
    by_cases hlt : k < 3
    · obtain ⟨va, vc, rfl⟩ := j.isSlice
      have hlt' : (k : Int) < 3 := by omega
      obtain ⟨b, off, rfl, a', c', ca, cc, c0, c1, c2, iC, iD⟩ := (HP.out.keep j.b) k (by rw [HPL.out]; exact hlt)
      have hfit : fitX 9000000 (y.pots[k]?.getD ([], [], 0)) := HFP.out k hlt
      generalize HG : y.pots[k]?.getD ([], [], 0) = f at *
      have HT : Hid ((endW y).adds[k]?.getD ([], [], 0) = lessX f k) := by
        show _ = _
        rw [show (endW y).adds = (List.range 3).map (fun v => lessX (y.pots[v]?.getD noX) v) from rfl, List.getElem?_map, List.getElem?_range hlt]
        show lessX (y.pots[k]?.getD noX) k = _
        rw [show y.pots[k]?.getD noX = f from HG]
      clear HG
      have fit1 : fitX 10000000 f := hfit.mono (by omega)
      have fit3 : fitX 10000000 (plusX f (negX k)) := (plusX_fit hfit (negX_fit hlt) (by omega)).mono (by omega)
      have fit4 : fitX 10000000 (lessX f k) := by rw [← plus_neg]; exact fit3
      have HF1 : Hid _ := fit1
      have HF3 : Hid _ := fit3
      have lC := fit4.c
      have lD := fit4.d
      have HPN : Hid (plusX f (negX k) = lessX f k) := plus_neg f k
      clear hfit fit1 fit3 fit4
      have A1 : Below wr.heap.size wr (wr.alloc (.cells #[.slice a' 3 ca, .slice c' 2 cc, .int .i64 f.2.2] 34)) := (Below.refl _ _).alloc (Nat.le_refl _) _
      have bx := Cel.new wr [.slice a' 3 ca, .slice c' 2 cc, .int .i64 f.2.2] 34
      go_upto_region 5 with fail
      have z0 : wr.heap.size < (wr.alloc (.cells #[.slice a' 3 ca, .slice c' 2 cc, .int .i64 f.2.2] 34)).heap.size := by rw [World.size_alloc]; omega
      generalize (wr.alloc (.cells #[.slice a' 3 ca, .slice c' 2 cc, .int .i64 f.2.2] 34)) = W0 at *
      have KP : Hid (∀ W, Below W0.heap.size W0 W → Cel W wr.heap.size [.slice a' 3 ca, .slice c' 2 cc, .int .i64 f.2.2] 34) := fun W hW => bx.below hW
      have KQ : Hid (∀ W, Below W0.heap.size W0 W → (W.cell? ⟨wr.heap.size, 0, none⟩ = some (.slice a' 3 ca) ∧ W.cell? ⟨wr.heap.size, 1, none⟩ = some (.slice c' 2 cc) ∧ W.cell? ⟨wr.heap.size, 2, none⟩ = some (.int .i64 f.2.2))) := fun W hW => by
        obtain ⟨n0, n1, n2, _, _, _⟩ := (KP.out W hW).trio
        exact ⟨n0, n1, n2⟩
      have jW := j.below A1
      have iC0 := iC.below A1
      have iD0 := iD.below A1
      have e0 : Below W0.heap.size W0 W0.drew := (Below.refl _ _).drew
      have hSS := And.intro (KQ.out _ e0) (True.intro)
      have OWN : Hid (∀ G : Nat, (Value.slice va k vc).ownBlock = some G → G < wr.heap.size) := fun G e => (j.own e).2
      have sw := jW.b.size
      clear bx j iC iD c0 c1 c2 A1
      refine wp_region_ends (fun w' => w'.cell? ⟨wr.heap.size, 0, none⟩ = some (.slice a' 3 ca) ∧ w'.cell? ⟨wr.heap.size, 1, none⟩ = some (.slice c' 2 cc) ∧ w'.cell? ⟨wr.heap.size, 2, none⟩ = some (.int .i64 f.2.2)) (fun _ => True) 8 (by kernel_rfl) ?_
      refine wpAnyE_take0 (i := 0) (v := ?v0) rfl (by kernel_rfl) (by kernel_rfl) (by kernel_rfl) (by decide) (fun _ _ _ h => h) (Or.inl ⟨by rfl, ?hy0⟩) hSS ?_
      case hy0 => (intro wz hSw; (try dsimp only at hSw); go_simp; try (with_reducible rfl))
      refine wpAnyE_take0 (i := 1) (v := ?v1) rfl (by kernel_rfl) (by kernel_rfl) (by kernel_rfl) (by decide) (fun _ _ _ h => h) (Or.inl ⟨by rfl, ?hy1⟩) hSS ?_
      case hy1 => (intro wz hSw; (try dsimp only at hSw); go_simp; try (with_reducible rfl))
      refine wpAnyE_take0 (i := 2) (v := ?v2) rfl (by kernel_rfl) (by kernel_rfl) (by kernel_rfl) (by decide) (fun _ _ _ h => h) (Or.inl ⟨by rfl, ?hy2⟩) hSS ?_
      case hy2 => (intro wz hSw; (try dsimp only at hSw); go_simp; try (with_reducible rfl))
      clear hSS
      refine wpAnyE_one (i := 3) (by kernel_rfl) rfl (fun K hK => ?_)
      go_simp
      refine (ipot_any _ _).mono ?_
      intro ee w1 hR
      rw [potC_in (k : Int) k rfl (by omega), potD_in (k : Int) (by omega) (by omega)] at hR
      obtain ⟨P1, P2, p1, p2, rfl, b1, -, -, -, u1, u2⟩ := resYes hR (by simp) rfl
      have e1 := below_of_drew b1
      clear hR b1
      (try dsimp only)
      refine hK.out _ _ ⟨KQ.out _ e1, fun _ => trivial⟩ ?_
      clear hK K
      refine wpAnyE_one (i := 4) (by kernel_rfl) rfl (fun K hK => ?_)
      go_simp
      refine (inegpot_any k hlt _ _ _ _ _ (u1.ints' (by simp)) (u2.ints' rfl)).mono ?_
      rintro ee w2 ⟨N1, N2, q1, q2, rfl, b2, -, -, -, v1, v2⟩
      have e2 := e1.trans (b2.mono e1.size)
      clear b2 u1 u2
      (try dsimp only)
      refine hK.out _ _ ⟨KQ.out _ e2, fun _ => trivial⟩ ?_
      clear hK K
      refine wpAnyE_one (i := 5) (by kernel_rfl) rfl (fun K hK => ?_)
      go_simp
      refine (iaddX_any _ _ _ _ f _ _ _ _ (negX k) _ (iC0.below e2) (iD0.below e2) (v1.ints' (by simp [negX, mulL])) (v2.ints' (by simp [negX, mulL])) HF1.out ((negX_fit hlt).mono (by omega)) HF3.out).mono ?_
      rw [HPN.out]
      rintro ee w3 ⟨Z1, Z2, x0, y0, rfl, b3, z1, z2, z3, k1, k2⟩
      have e3 := e2.trans (b3.mono e2.size)
      have s2 := e2.size
      have s3 := b3.size
      clear b3 v1 v2
      (try dsimp only)
      refine hK.out _ _ ⟨KQ.out _ e3, fun _ => trivial⟩ ?_
      clear hK K
      refine wpAnyE_one (i := 6) (by kernel_rfl) rfl (fun K hK => ?_)
      go_simp
      have A : Below w3.heap.size w3 (w3.alloc (.cells #[.slice (some ⟨Z1, 0, none⟩) 3 x0, .slice (some ⟨Z2, 0, none⟩) 2 y0, .int .i64 (lessX f k).2.2] 34)) := (Below.refl _ _).alloc (Nat.le_refl _) _
      have e4 := e3.trans (A.mono e3.size)
      have j4 := jW.below e4
      have k1' := k1.below A
      have k2' := k2.below A
      have n1 : (Value.slice va k vc).ownBlock ≠ some Z1 := fun e => by have := OWN.out _ e; omega
      have n2 : (Value.slice va k vc).ownBlock ≠ some Z2 := fun e => by have := OWN.out _ e; omega
      refine hK.out _ _ ⟨KQ.out _ e4, fun _ => trivial⟩ ?_
      clear hK K jW
      refine wpAnyE_one (i := 7) (by kernel_rfl) rfl (fun K hK => ?_)
      rw [if_pos (by rfl)]
      refine wp_append_lies _ (.tmp 14) (.tmp 20) 23 rfl w.heap.size 34 zi _ 3 56 Try.underlying23 hi hz0 hz1 hz2 rfl (by omega) (.slice va k vc) k xs (by rfl) j4.o ⟨w3.heap.size, 0, none⟩ 1 1 [.slice (some ⟨Z1, 0, none⟩) 3 x0, .slice (some ⟨Z2, 0, none⟩) 2 y0, .int .i64 (lessX f k).2.2] (by rfl) (by rfl) (World.news_of_block (cs := #[.slice (some ⟨Z1, 0, none⟩) 3 x0, .slice (some ⟨Z2, 0, none⟩) 2 y0, .int .i64 (lessX f k).2.2]) (t := 34) (fr := (0, 0)) (heap_alloc_new w3 _)) (by simp [Value.oneCell']) (by omega) (by unfold maxLen; omega) (by omega) j4.b.size _ rfl ?_
      intro g cpg w4 hown hgrow hat hltg
      have j5 := j4.app hown hgrow hat rfl (k1'.ints' lC) (k2'.ints' lD) n1 n2 (by omega) (by omega) HT.out
      have bx4 := (KP.out _ e4).grew hgrow (fun e => by have := OWN.out _ e; omega)
      obtain ⟨m0, m1, m2, -, -, -⟩ := bx4.trio
      refine hK.out _ _ ⟨⟨m0, m1, m2⟩, fun _ => trivial⟩ ?_
      clear hK K hown hgrow hat j4 k1 k2 k1' k2' n1 n2
      refine wpAnyE_one (i := 8) (by kernel_rfl) rfl (fun K hK => ?_)
      go_simp
      refine hK.out _ _ ⟨⟨m0, m1, m2⟩, fun _ => trivial⟩ ?_
      clear hK K
      refine wpAnyE_done (by kernel_rfl) ?_ _
      clear bx4 m0 m1 m2 KP KQ
      go_wp2
      go_roundw
      case rel => exact ⟨k + 1, _, by omega, by go_num, j5⟩
      case measure => simp [intOf]; omega
    · obtain rfl : k = 3 := by omega
      go_wp2
      go_ret
      exact ⟨_, xs, rfl, j⟩

end Go.Proofs.Ytjggppnffkcmbaa
namespace Go.Proofs.Ytjggppnffkcmbaa
open Go.RowKit Go.Deep
set_option linter.unusedVariables false
set_option maxRecDepth 100000

/-- No number of a row is too great. -/
structure RowFit (r : RowM) : Prop where
  g : ∀ k, k < r.guards.length → fitX 10000000 (r.guards[k]?.getD ([], [], 0))
  a : ∀ k, k < r.adds.length → fitX 10000000 (r.adds[k]?.getD ([], [], 0))
  t : ∀ k, k < r.tells.length → fitX 10000000 (r.tells[k]?.getD ([], [], 0))
  lg : r.guards.length ≤ 1000
  la : r.adds.length ≤ 3
  lt : r.tells.length ≤ 1000
theorem endW_fit {i : Nat} {y : Way} (h : WayOk i y) (hi : i ≤ 1000) : RowFit (endW y) := by
  refine ⟨fun k hk => h.gf k hk, fun k hk => ?_, fun k hk => h.tf k hk, ?_, ?_, ?_⟩
  · have hk3 : k < 3 := by
      have : (endW y).adds.length = 3 := by simp [endW]
      omega
    have e : (endW y).adds[k]?.getD ([], [], 0) = lessX (y.pots[k]?.getD noX) k := by
      rw [show (endW y).adds = (List.range 3).map (fun v => lessX (y.pots[v]?.getD noX) v) from rfl, List.getElem?_map, List.getElem?_range hk3]
      rfl
    rw [e, ← plus_neg]
    have h1 := h.pf k hk3
    have h6 := wb_six (n := min i 6) (by omega)
    have hp := wb_pos (min i 6)
    exact (plusX_fit h1 (negX_fit hk3) (by omega)).mono (by omega)
  · show y.guards.length ≤ 1000; have := h.gl; omega
  · simp [endW]
  · show y.tells.length ≤ 1000; have := h.tl; omega
theorem stopW_fit {i : Nat} {y : Way} (h : WayOk i y) (hi : i ≤ 1000) : RowFit (stopW y) :=
  ⟨fun k hk => h.gf k hk, fun k hk => by simp [stopW] at hk, fun k hk => by simp [stopW] at hk, by show y.guards.length ≤ 1000; have := h.gl; omega, by simp [stopW], by simp [stopW]⟩
theorem goW_fit {ls : List LV} (h6 : ls.length ≤ 6) (hall : ls.all LV.ok = true) (hD : ∀ k, k < ls.length → (ls[k]?.getD noLV).f.D.length = (ls[k]?.getD noLV).f.m) (f : Nat) : ∀ (i : Nat) (y : Way), i ≤ 12 + 7 * (7 - f) → f ≤ 7 → WayOk i y → ∀ r ∈ goW ls f i y, RowFit r := by
  induction f with
  | zero => intro i y hi _ h r hr; simp only [goW, List.mem_cons, List.not_mem_nil, or_false] at hr; subst hr; exact endW_fit h (by omega)
  | succ f ih =>
    intro i y hi hf7 h r hr
    rw [goW] at hr
    by_cases hl : i < ls.length
    · rw [if_pos hl] at hr
      have hok : (ls[i]?.getD noLV).ok = true := by
        rw [List.getElem?_eq_getElem hl]
        exact List.all_eq_true.1 hall _ (List.getElem_mem hl)
      have hDD := hD i hl
      generalize ls[i]?.getD noLV = q at *
      by_cases hk4 : q.kind = 4
      · rw [if_neg (by omega), if_neg (by omega), if_neg (by omega)] at hr
        simp only [List.mem_cons, List.not_mem_nil, or_false] at hr
        subst hr
        exact stopW_fit h (by omega)
      · obtain ⟨hsm, hkk, hz, hp⟩ := lineW (show lineB q.kind q.pot q.skip q.f.n q.f.m q.f.C q.f.D q.f.K = true from hok) hk4
        obtain ⟨f1, f2, f3⟩ := h.into (by omega) (f := q.f) hsm hDD
        rcases hkk with e | e | e
        · rw [if_pos e] at hr
          have hz' := hz e
          rcases List.mem_append.1 hr with hr | hr
          · exact ih _ _ (by omega) (by omega) (h.guard (by omega) f2) r hr
          · exact ih _ _ (by omega) (by omega) (h.guard (by omega) f3) r hr
        · rw [if_neg (by omega), if_pos e] at hr
          have hp' := hp e
          exact ih _ _ (by omega) (by omega) (h.add (by omega) (by omega) f1) r hr
        · rw [if_neg (by omega), if_neg (by omega), if_pos e] at hr
          exact ih _ _ (by omega) (by omega) (h.tell (by omega) f2) r hr
    · rw [if_neg hl] at hr
      simp only [List.mem_cons, List.not_mem_nil, or_false] at hr
      subst hr
      exact endW_fit h (by omega)

/-- What ways tell of, or add by. -/
def readsR (rs : List RowM) (v : Nat) : Bool := rs.any fun r => r.adds.any (fun f => hasP f v) || r.tells.any (fun f => hasP f v)
theorem readsR_snoc (rs : List RowM) (k : Nat) (hk : k < rs.length) (v : Nat) : readsR (rs.take (k + 1)) v = readsF (readsF (readsR (rs.take k)) (rs[k]?.getD noR).adds) (rs[k]?.getD noR).tells v := by
  rw [readsR, List.take_succ_eq_append_getElem hk, List.any_append, List.getElem?_eq_getElem hk]
  simp [readsF, readsR, Bool.or_assoc]
theorem rowsL_fit {ls : List LV} {w : World} {ad : Option Addr} (h6 : ls.length ≤ 6) (hall : ls.all LV.ok = true) (hF : LinesG w ad ls) : ∀ r ∈ rowsL ls, RowFit r :=
  goW_fit h6 hall (fun k hk => by obtain ⟨b, off, e, hc, hA⟩ := hF k hk; exact hA.D.1) 7 0 way0 (by omega) (by omega) WayOk.start

theorem OwnB.below {W W' : World} {G : Nat} {f : Nat → Bool} (h : OwnB W G f) (b : Below W.heap.size W W') : OwnB W' G f := by
  obtain ⟨cur, hc, hv⟩ := h
  exact ⟨cur, hc.below b, hv⟩

set_option maxHeartbeats 6400000 in
theorem scatreads_any (ad : Option Addr) (N cap : Nat) (ls : List LV) (w : World) (hN : ls.length = N) (hF : LinesG w ad ls) (hN1 : N ≤ 1048576) :
    Calls Try.prog 35 #[.slice ad N cap] w fun e w' => Below w.heap.size w w' ∧ ((actB N ls = false ∧ ∃ G, e = .returned (.slice (some ⟨G, 0, none⟩) 0 0)) ∨ (actB N ls = true ∧ ∃ G cG, e = .returned (.slice (some ⟨G, 0, none⟩) 3 cG) ∧ w.heap.size ≤ G ∧ OwnB w' G (readsR (rowsL ls)))) := by
  have HN : Hid (ls.length = N) := hN
  clear hN
  obtain ⟨u, hu⟩ : ∃ u, actB N ls = u := ⟨_, rfl⟩
  have HU : Hid (actB N ls = u) := hu
  go_enter Try.func35, Try.ntmps35
  go_wp2_with fail
  refine (sact_any _ _ _ ls _ HN.out hF hN1).mono ?_
  rintro e w1 ⟨rfl, b1⟩
  rw [hu]
  clear hu
  cases u with
  | false =>
    have B2 := b1.alloc b1.size (.cells #[] 4)
    go_wp2
    go_ret
    exact ⟨B2, .inl ⟨HU.out, _, rfl⟩⟩
  | true =>
    obtain ⟨h6, hall⟩ := actB_parts HU.out
    have HFIT : Hid _ := rowsL_fit (by rw [HN.out]; exact h6) hall hF
    have HRB : Hid (rowsB N ls = rowsL ls) := by show _ = _; rw [rowsB, HU.out]; rfl
    have A : Below w1.heap.size w1 (w1.alloc (.cells #[.bool false, .bool false, .bool false] 4)) := (Below.refl _ _).alloc (Nat.le_refl _) _
    have o0 : OwnB (w1.alloc (.cells #[.bool false, .bool false, .bool false] 4)) w1.heap.size (readsR ((rowsL ls).take 0)) := ⟨_, Cel.new w1 [.bool false, .bool false, .bool false] 4, fun v hv => by
      match v, hv with
      | 0, _ => simp [readsR]
      | 1, _ => simp [readsR]
      | 2, _ => simp [readsR]⟩
    have B2 := b1.trans (A.mono b1.size)
    clear hall
    go_wp2_with fail
    refine (srows_any _ _ _ ls _ HN.out (hF.below B2) hN1).mono ?_
    rw [HRB.out]
    rintro ee w3 ⟨Gr, cr, xs, rfl, j3⟩
    have B3 := B2.trans (j3.b.mono B2.size)
    have o3 := o0.below j3.b
    have lG0 : w.heap.size ≤ w1.heap.size := b1.size
    obtain ⟨R, hR⟩ : ∃ R, R = rowsL ls := ⟨_, rfl⟩
    have HR : Hid (R = rowsL ls) := hR
    have q1 : R.length ≤ 128 := by rw [hR]; exact goW_128 (by omega)
    rw [← hR] at o3 j3 HFIT ⊢
    obtain ⟨wb, hwb⟩ : ∃ wb, wb = w1.alloc (.cells #[.bool false, .bool false, .bool false] 4) := ⟨_, rfl⟩
    rw [← hwb] at j3
    clear o0 A hR hwb B2 HRB
    go_wp2_with fail
    go_loopw [3, 5] (fun p i wr => ∃ (k G cG : Nat), k ≤ R.length ∧ i = .int .i64 k ∧ p = .slice (some ⟨G, 0, none⟩) 3 cG ∧ w.heap.size ≤ G ∧ Below w.heap.size w wr ∧ OwnB wr G (readsR (R.take k)) ∧ JR wb Gr cr xs R wr) (fun _ i _ => R.length - (intOf i).toNat)
    case atStart => exact ⟨0, w1.heap.size, 3, Nat.zero_le _, rfl, rfl, lG0, B3, o3, j3⟩
    case round =>
      clear B3 o3 j3 lG0
      obtain ⟨k, G, cG, hk, rfl, rfl, lG, hb, o, j⟩ := hrel
      by_cases hlt : k < R.length
      · have hlt' : (k : Int) < R.length := by omega
        obtain ⟨ga, gc, aa, ac, ta, tc, x0, x1, x2, x3, f0, f1, f2⟩ := j.r k hlt
        have HS : Hid (∀ v, readsR (R.take (k + 1)) v = readsF (readsF (readsR (R.take k)) (R[k]?.getD noR).adds) (R[k]?.getD noR).tells v) := fun v => readsR_snoc R k hlt v
        have hfit : RowFit (R[k]?.getD noR) := HFIT.out _ (by rw [List.getElem?_eq_getElem hlt]; exact List.getElem_mem hlt)
        generalize R[k]?.getD noR = q at *
        have HA : Hid _ := hfit.a
        have HTt : Hid _ := hfit.t
        have la := hfit.la
        have lt := hfit.lt
        have sl := j.o.1
        have n1 := (own_cell j.o (k * 4 + 1) (by omega)).trans x1
        have n2 := (own_cell j.o (k * 4 + 2) (by omega)).trans x2
        have lGr := j.lt
        have FA := f1.at
        have FT := f2.at
        have KP : Hid (∀ W, Below wr.heap.size wr W → (W.cell? ⟨Gr, k * 4 + 1, none⟩ = some (.slice aa q.adds.length ac) ∧ W.cell? ⟨Gr, k * 4 + 2, none⟩ = some (.slice ta q.tells.length tc))) := fun W hW => ⟨(hW.cell (p := ⟨Gr, k * 4 + 1, none⟩) lGr.2).trans n1, (hW.cell (p := ⟨Gr, k * 4 + 2, none⟩) lGr.2).trans n2⟩
        have e0 : Below wr.heap.size wr wr.drew := (Below.refl _ _).drew
        have hSS := And.intro (KP.out _ e0) (True.intro)
        clear hfit x0 x1 x2 x3 f0 f1 f2
        go_upto_region 8 with fail
        refine wp_region_ends (fun w' => w'.cell? ⟨Gr, k * 4 + 1, none⟩ = some (.slice aa q.adds.length ac) ∧ w'.cell? ⟨Gr, k * 4 + 2, none⟩ = some (.slice ta q.tells.length tc)) (fun _ => True) 13 (by kernel_rfl) ?_
        refine wpAnyE_take0 (i := 0) (v := ?v0) rfl (by kernel_rfl) (by kernel_rfl) (by kernel_rfl) (by decide) (fun _ _ _ h => h) (Or.inl ⟨by rfl, ?hy0⟩) hSS ?_
        case hy0 => (intro wz hSw; (try dsimp only at hSw); go_simp; try (with_reducible rfl))
        refine wpAnyE_take0 (i := 1) (v := ?v1) rfl (by kernel_rfl) (by kernel_rfl) (by kernel_rfl) (by decide) (fun _ _ _ h => h) (Or.inl ⟨by rfl, ?hy1⟩) hSS ?_
        case hy1 => (intro wz hSw; (try dsimp only at hSw); go_simp; try (with_reducible rfl))
        refine wpAnyE_take0 (i := 2) (v := ?v2) rfl (by kernel_rfl) (by kernel_rfl) (by kernel_rfl) (by decide) (fun _ _ _ h => h) (Or.inl ⟨by rfl, ?hy2⟩) hSS ?_
        case hy2 => (intro wz hSw; (try dsimp only at hSw); go_simp; try (with_reducible rfl))
        refine wpAnyE_take0 (i := 3) (v := ?v3) rfl (by kernel_rfl) (by kernel_rfl) (by kernel_rfl) (by decide) (fun _ _ _ h => h) (Or.inl ⟨by rfl, ?hy3⟩) hSS ?_
        case hy3 => (intro wz hSw; (try dsimp only at hSw); go_simp; try (with_reducible rfl))
        refine wpAnyE_take0 (i := 4) (v := ?v4) rfl (by kernel_rfl) (by kernel_rfl) (by kernel_rfl) (by decide) (fun _ _ _ h => h) (Or.inl ⟨by rfl, ?hy4⟩) hSS ?_
        case hy4 => (intro wz hSw; (try dsimp only at hSw); go_simp; try (with_reducible rfl))
        refine wpAnyE_take0 (i := 5) (v := ?v5) rfl (by kernel_rfl) (by kernel_rfl) (by kernel_rfl) (by decide) (fun _ _ _ h => h) (Or.inl ⟨by rfl, ?hy5⟩) hSS ?_
        case hy5 => (intro wz hSw; (try dsimp only at hSw); go_simp; try (with_reducible rfl))
        refine wpAnyE_take0 (i := 7) (v := ?v7) rfl (by kernel_rfl) (by kernel_rfl) (by kernel_rfl) (by decide) (fun _ _ _ h => h) (Or.inl ⟨by rfl, ?hy7⟩) hSS ?_
        case hy7 => (intro wz hSw; (try dsimp only at hSw); go_simp; try (with_reducible rfl))
        refine wpAnyE_take0 (i := 8) (v := ?v8) rfl (by kernel_rfl) (by kernel_rfl) (by kernel_rfl) (by decide) (fun _ _ _ h => h) (Or.inl ⟨by rfl, ?hy8⟩) hSS ?_
        case hy8 => (intro wz hSw; (try dsimp only at hSw); go_simp; try (with_reducible rfl))
        refine wpAnyE_take0 (i := 9) (v := ?v9) rfl (by kernel_rfl) (by kernel_rfl) (by kernel_rfl) (by decide) (fun _ _ _ h => h) (Or.inl ⟨by rfl, ?hy9⟩) hSS ?_
        case hy9 => (intro wz hSw; (try dsimp only at hSw); go_simp; try (with_reducible rfl))
        refine wpAnyE_take0 (i := 10) (v := ?v10) rfl (by kernel_rfl) (by kernel_rfl) (by kernel_rfl) (by decide) (fun _ _ _ h => h) (Or.inl ⟨by rfl, ?hy10⟩) hSS ?_
        case hy10 => (intro wz hSw; (try dsimp only at hSw); go_simp; try (with_reducible rfl))
        refine wpAnyE_take0 (i := 11) (v := ?v11) rfl (by kernel_rfl) (by kernel_rfl) (by kernel_rfl) (by decide) (fun _ _ _ h => h) (Or.inl ⟨by rfl, ?hy11⟩) hSS ?_
        case hy11 => (intro wz hSw; (try dsimp only at hSw); go_simp; try (with_reducible rfl))
        clear hSS
        refine wpAnyE_one (i := 6) (by kernel_rfl) rfl (fun K hK => ?_)
        go_simp
        refine (sreads_any _ _ _ _ _ _ q.adds _ (o.bools.below e0) rfl (FA.keep e0) HA.out (by omega)).mono ?_
        rintro ee w4 ⟨G4, c4, rfl, bd4, l4, o4⟩
        have b4 := below_of_drew bd4
        have l4x : wr.heap.size ≤ G4 := l4
        clear bd4 l4
        (try dsimp only)
        refine hK.out _ _ ⟨KP.out _ b4, fun _ => trivial⟩ ?_
        clear hK K
        refine wpAnyE_one (i := 12) (by kernel_rfl) rfl (fun K hK => ?_)
        go_simp
        refine (sreads_any _ _ _ _ _ _ q.tells _ o4.bools rfl (FT.keep b4) HTt.out (by omega)).mono ?_
        rintro ee w5 ⟨G5, c5, rfl, bd5, l5, o5⟩
        have b5 := b4.trans (bd5.mono b4.size)
        have s4 := b4.size
        have sb := hb.size
        have O5 : Hid (OwnB w5 G5 (readsR (R.take (k + 1)))) := o5.ext (fun v _ => (HS.out v).symm)
        have J5 := j.below b5
        have B5 := hb.trans (b5.mono hb.size)
        clear bd5 o4 o5 o j
        (try dsimp only)
        refine hK.out _ _ ⟨KP.out _ b5, fun _ => trivial⟩ ?_
        clear hK K
        refine wpAnyE_one (i := 13) (by kernel_rfl) rfl (fun K hK => ?_)
        go_simp
        refine hK.out _ _ ⟨KP.out _ b5, fun _ => trivial⟩ ?_
        clear hK K
        refine wpAnyE_done (by kernel_rfl) ?_ _
        clear KP b4 b5 FA FT n1 n2
        go_wp2
        go_roundw
        case rel => exact ⟨k + 1, G5, c5, by omega, by go_num, rfl, by omega, B5, O5.out, J5⟩
        case measure => simp [intOf]; omega
      · obtain rfl : k = R.length := by omega
        have O : OwnB wr G (readsR R) := by
          have : R.take R.length = R := List.take_of_length_le (Nat.le_refl _)
          rw [this] at o; exact o
        go_wp2
        go_ret
        rw [← HR.out]
        exact ⟨hb, .inr ⟨HU.out, G, cG, rfl, lG, O⟩⟩

end Go.Proofs.Ytjggppnffkcmbaa
namespace Go.Proofs.Ytjggppnffkcmbaa
open Go.RowKit Go.Deep
set_option linter.unusedVariables false
set_option maxRecDepth 100000

theorem put4 {W : World} {X : Nat} {vs : List Value} {T : TypeId} (h : Cel W X vs T) (hl : vs.length = 4) (v0 v1 v2 v3 : Value) :
    Cel ((((W.setCell ⟨X, 0, none⟩ v0).setCell ⟨X, 1, none⟩ v1).setCell ⟨X, 2, none⟩ v2).setCell ⟨X, 3, none⟩ v3) X [v0, v1, v2, v3] T ∧ Touch (fun z => z = X) W ((((W.setCell ⟨X, 0, none⟩ v0).setCell ⟨X, 1, none⟩ v1).setCell ⟨X, 2, none⟩ v2).setCell ⟨X, 3, none⟩ v3) := by
  refine ⟨?_, (((((Touch.refl (fun z => z = X) W).setCell rfl _).setCell rfl _).setCell rfl _).setCell rfl _)⟩
  have := (((h.set 0 v0).set 1 v1).set 2 v2).set 3 v3
  match vs, hl with
  | [a, b, c, d], _ => exact this
theorem FOff.empty {W : World} {S : Nat → Prop} {a : Option Addr} : FOff W S a [] := fun W' t i hi => by simp at hi
theorem JV.foff' {w W : World} {a : Option Addr} {n cap : Nat} {xs : List Value} {fs : List Frm} (j : JV w (.slice a n cap) n xs fs W) (hn : fs.length = n) : FOff W (fun k => k < w.heap.size) a fs := by
  obtain ⟨a', cap', e, h⟩ := j.foff hn
  simp only [Value.slice.injEq, true_and] at e
  obtain ⟨rfl, rfl⟩ := e
  exact h

set_option maxHeartbeats 3200000 in
theorem irow_stop (y : Way) (ga : Option Addr) (ng gc : Nat) (pa : Option Addr) (cp : Nat) (ta : Option Addr) (nt tc : Nat) (w : World) (hg : y.guards.length = ng) (hG : FormsAt w ga y.guards) (fg : ∀ k, k < ng → fitX 10000000 (y.guards[k]?.getD ([], [], 0))) (hg1 : ng ≤ 1048576) :
    Calls Try.prog 129 #[wayV ga ng gc pa cp ta nt tc true] w fun e w' => ∃ v, e = .returned v ∧ Below w.heap.size w w' ∧ RowX w' w.heap.size v (stopW y) := by
  have HGL : Hid (y.guards.length = ng) := hg
  have HFG : Hid _ := fg
  clear hg fg
  have B0 : Below w.heap.size w ((w.alloc (.cells #[.slice ga ng gc, .slice pa 3 cp, .slice ta nt tc, .bool true] 143)).alloc (.cells #[.slice none 0 0, .slice none 0 0, .slice none 0 0, .bool false] 25)) := ((Below.refl _ _).alloc (Nat.le_refl _) _).alloc (by simp) _
  have r0 := Cel.new (w.alloc (.cells #[.slice ga ng gc, .slice pa 3 cp, .slice ta nt tc, .bool true] 143)) [.slice none 0 0, .slice none 0 0, .slice none 0 0, .bool false] 25
  rw [World.size_alloc] at r0
  go_enter Try.func129, Try.ntmps129
  go_wp2_with fail
  refine (icopies_any _ _ _ y.guards _ HGL.out (hG.keep B0) HFG.out hg1).mono ?_
  rintro e w1 ⟨v1, xs1, rfl, j1⟩
  obtain ⟨a1, c1, rfl⟩ := j1.isSlice
  have B1 := B0.trans (j1.b.mono B0.size)
  have r1 := r0.below j1.b
  have g1 := j1.foff' HGL.out
  rw [World.size_alloc, World.size_alloc] at g1
  have lr := r1.lt
  obtain ⟨c0, c1', c2, c3⟩ := r1.four
  have y0 := r1.free 0
  have y1 := r1.free 1
  have y2 := r1.free 2
  have y3 := r1.free 3
  obtain ⟨x', T'⟩ := put4 r1 rfl (.slice a1 ng c1) (.slice none 0 0) (.slice none 0 0) (.bool true)
  obtain ⟨h0, h1, h2, h3⟩ := x'.four
  clear j1 r0 B0
  go_wp2
  refine bodyPost_ret (v := .agg #[.slice a1 ng c1, .slice none 0 0, .slice none 0 0, .bool true]) (by simp [results, Try.results129, go_sem, h0, h1, h2, h3]) rfl ?_
  refine ⟨_, rfl, B1.trans (T'.below B1.size (fun k hk => by omega)), a1, c1, none, 0, none, 0, ?_, (g1.touch (T'.mono (fun k hk => by omega))).mono (fun k hk => by omega), FOff.empty, FOff.empty⟩
  show _ = Value.agg #[.slice a1 y.guards.length c1, .slice none 0 0, .slice none 0 0, .bool true]
  rw [HGL.out]

set_option maxHeartbeats 3200000 in
theorem irow_end (y : Way) (ga : Option Addr) (ng gc : Nat) (pa : Option Addr) (cp : Nat) (ta : Option Addr) (nt tc : Nat) (w : World) (hp : y.pots.length = 3) (hg : y.guards.length = ng) (ht : y.tells.length = nt) (hP : FormsAt w pa y.pots) (hG : FormsAt w ga y.guards) (hT : FormsAt w ta y.tells) (fp : ∀ k, k < 3 → fitX 9000000 (y.pots[k]?.getD noX)) (fg : ∀ k, k < ng → fitX 10000000 (y.guards[k]?.getD ([], [], 0))) (ft : ∀ k, k < nt → fitX 10000000 (y.tells[k]?.getD ([], [], 0))) (hg1 : ng ≤ 1048576) (ht1 : nt ≤ 1048576) :
    Calls Try.prog 129 #[wayV ga ng gc pa cp ta nt tc false] w fun e w' => ∃ v, e = .returned v ∧ Below w.heap.size w w' ∧ RowX w' w.heap.size v (endW y) := by
  have HPL : Hid (y.pots.length = 3) := hp
  have HGL : Hid (y.guards.length = ng) := hg
  have HTL : Hid (y.tells.length = nt) := ht
  have HFP : Hid _ := fp
  have HFG : Hid _ := fg
  have HFT : Hid _ := ft
  clear hp hg ht fp fg ft
  have B0 : Below w.heap.size w ((w.alloc (.cells #[.slice ga ng gc, .slice pa 3 cp, .slice ta nt tc, .bool false] 143)).alloc (.cells #[.slice none 0 0, .slice none 0 0, .slice none 0 0, .bool false] 25)) := ((Below.refl _ _).alloc (Nat.le_refl _) _).alloc (by simp) _
  have r0 := Cel.new (w.alloc (.cells #[.slice ga ng gc, .slice pa 3 cp, .slice ta nt tc, .bool false] 143)) [.slice none 0 0, .slice none 0 0, .slice none 0 0, .bool false] 25
  have p0 := (Cel.new w [.slice ga ng gc, .slice pa 3 cp, .slice ta nt tc, .bool false] 143).alloc (.cells #[.slice none 0 0, .slice none 0 0, .slice none 0 0, .bool false] 25)
  rw [World.size_alloc] at r0
  go_enter Try.func129, Try.ntmps129
  go_upto_region 3 with fail
  generalize ((w.alloc (.cells #[.slice ga ng gc, .slice pa 3 cp, .slice ta nt tc, .bool false] 143)).alloc (.cells #[.slice none 0 0, .slice none 0 0, .slice none 0 0, .bool false] 25)) = W0 at *
  have KP : Hid (∀ W, Below W0.heap.size W0 W → Cel W w.heap.size [.slice ga ng gc, .slice pa 3 cp, .slice ta nt tc, .bool false] 143) := fun W hW => p0.below hW
  have KR : Hid (∀ W, Below W0.heap.size W0 W → Cel W (w.heap.size + 1) [.slice none 0 0, .slice none 0 0, .slice none 0 0, .bool false] 25) := fun W hW => r0.below hW
  have e0 : Below W0.heap.size W0 W0.drew := (Below.refl _ _).drew
  have hSS : (W0.drew.cell? ⟨w.heap.size, 0, none⟩ = some (.slice ga ng gc) ∧ W0.drew.cell? ⟨w.heap.size, 1, none⟩ = some (.slice pa 3 cp) ∧ W0.drew.cell? ⟨w.heap.size, 2, none⟩ = some (.slice ta nt tc) ∧ W0.drew.cell? ⟨w.heap.size, 3, none⟩ = some (.bool false)) ∧ True := ⟨(KP.out _ e0).four, trivial⟩
  have lr := r0.lt
  clear p0 r0
  refine wp_region_ends (fun w' => w'.cell? ⟨w.heap.size, 0, none⟩ = some (.slice ga ng gc) ∧ w'.cell? ⟨w.heap.size, 1, none⟩ = some (.slice pa 3 cp) ∧ w'.cell? ⟨w.heap.size, 2, none⟩ = some (.slice ta nt tc) ∧ w'.cell? ⟨w.heap.size, 3, none⟩ = some (.bool false)) (fun _ => True) 9 (by kernel_rfl) ?_
  refine wpAnyE_take0 (i := 0) (v := ?v0) rfl (by kernel_rfl) (by kernel_rfl) (by kernel_rfl) (by decide) (fun _ _ _ h => h) (Or.inl ⟨by rfl, ?hy0⟩) hSS ?_
  case hy0 => (intro wz hSw; (try dsimp only at hSw); go_simp; try (with_reducible rfl))
  refine wpAnyE_take0 (i := 1) (v := ?v1) rfl (by kernel_rfl) (by kernel_rfl) (by kernel_rfl) (by decide) (fun _ _ _ h => h) (Or.inl ⟨by rfl, ?hy1⟩) hSS ?_
  case hy1 => (intro wz hSw; (try dsimp only at hSw); go_simp; try (with_reducible rfl))
  refine wpAnyE_take0 (i := 3) (v := ?v3) rfl (by kernel_rfl) (by kernel_rfl) (by kernel_rfl) (by decide) (fun _ _ _ h => h) (Or.inl ⟨by rfl, ?hy3⟩) hSS ?_
  case hy3 => (intro wz hSw; (try dsimp only at hSw); go_simp; try (with_reducible rfl))
  refine wpAnyE_take0 (i := 5) (v := ?v5) rfl (by kernel_rfl) (by kernel_rfl) (by kernel_rfl) (by decide) (fun _ _ _ h => h) (Or.inl ⟨by rfl, ?hy5⟩) hSS ?_
  case hy5 => (intro wz hSw; (try dsimp only at hSw); go_simp; try (with_reducible rfl))
  refine wpAnyE_take0 (i := 6) (v := ?v6) rfl (by kernel_rfl) (by kernel_rfl) (by kernel_rfl) (by decide) (fun _ _ _ h => h) (Or.inl ⟨by rfl, ?hy6⟩) hSS ?_
  case hy6 => (intro wz hSw; (try dsimp only at hSw); go_simp; try (with_reducible rfl))
  clear hSS
  refine wpAnyE_one (i := 2) (by kernel_rfl) rfl (fun K hK => ?_)
  go_simp
  refine (icopies_any _ _ _ y.guards _ HGL.out ((hG.keep B0).keep e0) HFG.out hg1).mono ?_
  rintro ee w1 ⟨v1, xs1, rfl, j1⟩
  have e1 := below_of_drew j1.b
  obtain ⟨a1, c1, rfl⟩ := j1.isSlice
  have g1 : FOff w1 (fun k => k < W0.heap.size) a1 y.guards := j1.foff' HGL.out
  clear j1
  (try dsimp only)
  refine hK.out _ _ ⟨(KP.out _ e1).four, fun _ => trivial⟩ ?_
  clear hK K
  refine wpAnyE_one (i := 4) (by kernel_rfl) rfl (fun K hK => ?_)
  go_simp
  refine (iadds_any y _ _ _ _ _ _ _ _ _ _ HPL.out ((hP.keep B0).keep e1) HFP.out).mono ?_
  rintro ee w2 ⟨v2, xs2, rfl, j2⟩
  have e2 := e1.trans (j2.b.mono e1.size)
  obtain ⟨a2, c2, rfl⟩ := j2.isSlice
  have g2 := g1.below j2.b
  have s1 := e1.size
  have d2 : FOff w2 (fun k => k < w1.heap.size) a2 (endW y).adds := j2.foff' rfl
  clear j2 g1
  (try dsimp only)
  refine hK.out _ _ ⟨(KP.out _ e2).four, fun _ => trivial⟩ ?_
  clear hK K
  refine wpAnyE_one (i := 7) (by kernel_rfl) rfl (fun K hK => ?_)
  go_simp
  refine (icopies_any _ _ _ y.tells _ HTL.out ((hT.keep B0).keep e2) HFT.out ht1).mono ?_
  rintro ee w3 ⟨v3, xs3, rfl, j3⟩
  have e3 := e2.trans (j3.b.mono e2.size)
  obtain ⟨a3, c3, rfl⟩ := j3.isSlice
  have g3 := g2.below j3.b
  have d3 := d2.below j3.b
  have s2 := e2.size
  have s3 := e3.size
  have t3 : FOff w3 (fun k => k < w2.heap.size) a3 y.tells := j3.foff' HTL.out
  clear j3 g2 d2
  (try dsimp only)
  refine hK.out _ _ ⟨(KP.out _ e3).four, fun _ => trivial⟩ ?_
  clear hK K
  refine wpAnyE_one (i := 8) (by kernel_rfl) rfl (fun K hK => ?_)
  go_simp
  refine hK.out _ _ ⟨(KP.out _ e3).four, fun _ => trivial⟩ ?_
  clear hK K
  have r1 := KR.out _ e3
  have lr3 := r1.lt
  obtain ⟨q0, q1, q2, q3⟩ := r1.four
  have y0 := r1.free 0
  have y1 := r1.free 1
  have y2 := r1.free 2
  have y3 := r1.free 3
  obtain ⟨x', T'⟩ := put4 r1 rfl (.slice a1 ng c1) (.slice a2 3 c2) (.slice a3 nt c3) (.bool false)
  have p4 := (KP.out _ e3).touch T' (fun h => by have := h; omega)
  obtain ⟨h0, h1, h2, h3⟩ := x'.four
  refine wpAnyE_one (i := 9) (by kernel_rfl) rfl (fun K hK => ?_)
  go_simp
  refine hK.out _ _ ⟨p4.four, fun h => absurd (show true = false from h) (by decide)⟩ ?_
  clear hK K
  refine wpAnyE_done (by kernel_rfl) ?_ _
  have B3 := B0.trans (e3.mono B0.size)
  have sB := B0.size
  have gg := (g3.touch (T'.mono (fun k hk => by omega))).mono (S' := fun k => k < w.heap.size) (fun k hk => by omega)
  have dd := (d3.touch (T'.mono (fun k hk => by omega))).mono (S' := fun k => k < w.heap.size) (fun k hk => by omega)
  have tt := (t3.touch (T'.mono (fun k hk => by omega))).mono (S' := fun k => k < w.heap.size) (fun k hk => by omega)
  have BB := B3.trans (T'.below B3.size (fun k hk => by omega))
  clear q0 q1 q2 q3 y0 y1 y2 y3 r1 p4 x' T' g3 d3 t3 KP KR
  go_wp2
  refine bodyPost_ret (v := .agg #[.slice a1 ng c1, .slice a2 3 c2, .slice a3 nt c3, .bool false]) (by simp [results, Try.results129, go_sem, h0, h1, h2, h3]) rfl ?_
  refine ⟨_, rfl, BB, a1, c1, a2, c2, a3, c3, ?_, gg, dd, tt⟩
  show _ = Value.agg #[.slice a1 y.guards.length c1, .slice a2 3 c2, .slice a3 y.tells.length c3, .bool false]
  rw [HGL.out, HTL.out]

end Go.Proofs.Ytjggppnffkcmbaa
namespace Go.Proofs.Ytjggppnffkcmbaa
open Go.RowKit Go.Deep
set_option linter.unusedVariables false
set_option maxRecDepth 100000

/-- Three forms in memory of their own, their lists anywhere. -/
structure JC (base : Nat) (G cap : Nat) (xs : List Value) (fs : List Frm) (W : World) : Prop where
  o : W.ownsRow base 34 3 (.slice (some ⟨G, 0, none⟩) 3 cap) 3 xs
  t : TermsOk W G xs fs 3
theorem JC.below {base : Nat} {W W' : World} {G cap : Nat} {xs : List Value} {fs : List Frm} (j : JC base G cap xs fs W) (h : Below W.heap.size W W') : JC base G cap xs fs W' := ⟨own_below j.o h, j.t.below h⟩
theorem JC.past {base : Nat} {W W' : World} {X G cap : Nat} {xs : List Value} {fs : List Frm} (j : JC base G cap xs fs W) (hX : X ≠ G) (hx : ∀ o q, W.cell? ⟨X, o, none⟩ ≠ some (.int .i64 q)) (t : Touch (fun z => z = X) W W') : JC base G cap xs fs W' := by
  refine ⟨own_off j.o (fun g hg hs => ?_) t, fun i hi => ?_⟩
  · have h' : some G = some g := hg
    simp only [Option.some.injEq] at h'
    exact hX (by rw [h']; exact hs.symm)
  · obtain ⟨a', c', ca, cc, e0, e1, e2, i1, i2, n1, n2⟩ := j.t i hi
    exact ⟨a', c', ca, cc, e0, e1, e2, i1.past hx t, i2.past hx t, n1, n2⟩
theorem JC.lt {base : Nat} {W : World} {G cap : Nat} {xs : List Value} {fs : List Frm} (j : JC base G cap xs fs W) : base ≤ G ∧ G < W.heap.size := by
  rcases j.o.2 with ⟨h, _⟩ | ⟨g, cap', cur, h, hg, hh, _⟩
  · cases h
  · simp only [Value.slice.injEq, Option.some.injEq, Addr.mk.injEq, and_true, true_and] at h
    obtain ⟨rfl, _⟩ := h
    exact ⟨hg, lt_of_block hh⟩
theorem JC.frz {base : Nat} {W : World} {G cap : Nat} {xs : List Value} {fs : List Frm} (j : JC base G cap xs fs W) (i : Nat) : W.frozen? ⟨G, i, none⟩ = false := by
  rcases j.o.2 with ⟨h, _⟩ | ⟨g, cap', cur, h, hg, hh, _⟩
  · cases h
  · simp only [Value.slice.injEq, Option.some.injEq, Addr.mk.injEq, and_true, true_and] at h
    obtain ⟨rfl, _⟩ := h
    have : Cel W G cur.toList 34 := by unfold Cel; simpa using hh
    exact this.free i
/-- One of them is overwritten. -/
theorem JC.put {base : Nat} {W : World} {G cp : Nat} {xs : List Value} {fs : List Frm} (j : JC base G cp xs fs W) (hn : fs.length = 3) {p : Nat} (hp : p < 3) {B1 B2 ca cc : Nat} {C D : List Int} {K : Int} (k1 : Blk W B1 C) (l1 : C.length = 3) (k2 : Blk W B2 D) (l2 : D.length = 2) (n1 : B1 ≠ G) (n2 : B2 ≠ G) :
    FormsAt (((W.setCell ⟨G, p * 3, none⟩ (.slice (some ⟨B1, 0, none⟩) 3 ca)).setCell ⟨G, p * 3 + 1, none⟩ (.slice (some ⟨B2, 0, none⟩) 2 cc)).setCell ⟨G, p * 3 + 2, none⟩ (.int .i64 K)) (some ⟨G, 0, none⟩) (fs.set p (C, D, K)) := by
  have hT := j.t
  have hx := j.o.1
  rcases j.o.2 with ⟨h, _⟩ | ⟨g, cap', cur, h, hg, hh, hl, _, hcs, ht⟩
  · cases h
  simp only [Value.slice.injEq, Option.some.injEq, Addr.mk.injEq, and_true, true_and] at h
  obtain ⟨rfl, rfl⟩ := h
  have cel : Cel W G cur.toList 34 := by unfold Cel; simpa using hh
  have hlen : 9 ≤ cur.toList.length := by
    have := congrArg List.length ht
    rw [List.length_take, hx] at this
    omega
  have hat : ∀ i, i < 9 → cur.toList[i]? = xs[i]? := fun i hi => by
    rw [← ht, List.getElem?_take, if_pos (by omega)]
  have c3 := ((cel.set (p * 3) (.slice (some ⟨B1, 0, none⟩) 3 ca)).set (p * 3 + 1) (.slice (some ⟨B2, 0, none⟩) 2 cc)).set (p * 3 + 2) (.int .i64 K)
  have tt : Touch (fun x => x = G) W (((W.setCell ⟨G, p * 3, none⟩ (.slice (some ⟨B1, 0, none⟩) 3 ca)).setCell ⟨G, p * 3 + 1, none⟩ (.slice (some ⟨B2, 0, none⟩) 2 cc)).setCell ⟨G, p * 3 + 2, none⟩ (.int .i64 K)) := (((Touch.refl (fun x => x = G) W).setCell rfl _).setCell rfl _).setCell rfl _
  have m1 := (k1.ints' l1).by tt (fun b o e => by simp only [Option.some.injEq, Addr.mk.injEq, and_true] at e; omega)
  have m2 := (k2.ints' l2).by tt (fun b o e => by simp only [Option.some.injEq, Addr.mk.injEq, and_true] at e; omega)
  intro i hi
  rw [List.length_set, hn] at hi
  by_cases e : p = i
  · subst e
    rw [List.getElem?_set_self (by omega)]
    refine ⟨G, 0, rfl, _, _, ca, cc, ?_, ?_, ?_, m1, m2⟩
    · rw [Nat.zero_add, c3.cell, List.getElem?_set_ne (by omega), List.getElem?_set_ne (by omega), List.getElem?_set_self (by omega)]
    · rw [Nat.zero_add, c3.cell, List.getElem?_set_ne (by omega), List.getElem?_set_self (by rw [List.length_set]; omega)]
    · rw [Nat.zero_add, c3.cell, List.getElem?_set_self (by rw [List.length_set, List.length_set]; omega)]; rfl
  · rw [List.getElem?_set_ne e]
    obtain ⟨a', c', x, y, e0, e1, e2, i1, i2, q1, q2⟩ := hT i hi
    refine ⟨G, 0, rfl, a', c', x, y, ?_, ?_, ?_, i1.by tt q1, i2.by tt q2⟩
    · rw [Nat.zero_add, c3.cell, List.getElem?_set_ne (by omega), List.getElem?_set_ne (by omega), List.getElem?_set_ne (by omega), hat _ (by omega)]; exact e0
    · rw [Nat.zero_add, c3.cell, List.getElem?_set_ne (by omega), List.getElem?_set_ne (by omega), List.getElem?_set_ne (by omega), hat _ (by omega)]; exact e1
    · rw [Nat.zero_add, c3.cell, List.getElem?_set_ne (by omega), List.getElem?_set_ne (by omega), List.getElem?_set_ne (by omega), hat _ (by omega)]; exact e2

theorem addr_add (b off j : Nat) : (⟨b, off, none⟩ : Addr).add j = ⟨b, off + j, none⟩ := by
  by_cases h0 : j = 0
  · subst h0; simp [Addr.add]
  · simp [Addr.add, h0]

set_option maxHeartbeats 1600000 in
theorem iclone3_any (pa : Option Addr) (cp : Nat) (fs : List Frm) (w : World) (hn : fs.length = 3) (hP : FormsAt w pa fs) :
    Calls Try.prog 148 #[.slice pa 3 cp] w fun e w' => ∃ G cap xs, e = .returned (.slice (some ⟨G, 0, none⟩) 3 cap) ∧ Below w.heap.size w w' ∧ JC w.heap.size G cap xs fs w' := by
  obtain ⟨zi, hi, hz0, hz1, hz2⟩ := info_parts Try.infoForm
  obtain ⟨b, off, rfl, a0, c0, x0, y0, p00, p01, p02, i0, j0⟩ := hP 0 (by omega)
  obtain ⟨b1, off1, e1, a1, c1, x1, y1, p10, p11, p12, i1, j1⟩ := hP 1 (by omega)
  obtain ⟨b2, off2, e2, a2, c2, x2, y2, p20, p21, p22, i2, j2⟩ := hP 2 (by omega)
  simp only [Option.some.injEq, Addr.mk.injEq, and_true] at e1 e2
  obtain ⟨rfl, rfl⟩ := e1
  obtain ⟨rfl, rfl⟩ := e2
  have A : Below w.heap.size w (w.alloc (.cells #[] 34)) := (Below.refl _ _).alloc (Nat.le_refl _) _
  have HNW : Hid (∀ j u, ([.slice a0 3 x0, .slice c0 2 y0, .int .i64 (fs[0]?.getD ([], [], 0)).2.2, .slice a1 3 x1, .slice c1 2 y1, .int .i64 (fs[1]?.getD ([], [], 0)).2.2, .slice a2 3 x2, .slice c2 2 y2, .int .i64 (fs[2]?.getD ([], [], 0)).2.2] : List Value)[j]? = some u → (w.alloc (.cells #[] 34)).cell? ((⟨b, off, none⟩ : Addr).add j) = some u) := fun j u hu => by
    rw [addr_add]
    have key : ∀ q v, w.cell? ⟨b, q, none⟩ = some v → (w.alloc (.cells #[] 34)).cell? ⟨b, q, none⟩ = some v := fun q v h => by rw [A.cell (p := ⟨b, q, none⟩) (block_lt h)]; exact h
    match j with
    | 0 => simp only [List.getElem?_cons_zero, Option.some.injEq] at hu; subst hu; exact key _ _ p00
    | 1 => simp only [List.getElem?_cons_zero, List.getElem?_cons_succ, Option.some.injEq] at hu; subst hu; exact key _ _ p01
    | 2 => simp only [List.getElem?_cons_zero, List.getElem?_cons_succ, Option.some.injEq] at hu; subst hu; exact key _ _ p02
    | 3 => simp only [List.getElem?_cons_zero, List.getElem?_cons_succ, Option.some.injEq] at hu; subst hu; exact key _ _ p10
    | 4 => simp only [List.getElem?_cons_zero, List.getElem?_cons_succ, Option.some.injEq] at hu; subst hu; exact key _ _ p11
    | 5 => simp only [List.getElem?_cons_zero, List.getElem?_cons_succ, Option.some.injEq] at hu; subst hu; exact key _ _ p12
    | 6 => simp only [List.getElem?_cons_zero, List.getElem?_cons_succ, Option.some.injEq] at hu; subst hu; exact key _ _ p20
    | 7 => simp only [List.getElem?_cons_zero, List.getElem?_cons_succ, Option.some.injEq] at hu; subst hu; exact key _ _ p21
    | 8 => simp only [List.getElem?_cons_zero, List.getElem?_cons_succ, Option.some.injEq] at hu; subst hu; exact key _ _ p22
    | j + 9 => simp at hu
  have HOL := World.ownsRow_lit (e := 34) (size := 3) (base := w.heap.size) w #[] 0 (Nat.le_refl _) (by unfold maxLen; omega) rfl
  have HNX : Hid (∀ u ∈ ([.slice a0 3 x0, .slice c0 2 y0, .int .i64 (fs[0]?.getD ([], [], 0)).2.2, .slice a1 3 x1, .slice c1 2 y1, .int .i64 (fs[1]?.getD ([], [], 0)).2.2, .slice a2 3 x2, .slice c2 2 y2, .int .i64 (fs[2]?.getD ([], [], 0)).2.2] : List Value), u.oneCell' = true) := by
    show ∀ u ∈ _, _
    simp [Value.oneCell']
  have I0 := i0.below A
  have J0 := j0.below A
  have I1 := i1.below A
  have J1 := j1.below A
  have I2 := i2.below A
  have J2 := j2.below A
  have l0 := i0.blt (by omega)
  have m0 := j0.blt (by omega)
  have l1 := i1.blt (by omega)
  have m1 := j1.blt (by omega)
  have l2 := i2.blt (by omega)
  have m2 := j2.blt (by omega)
  have hnil : ∀ w, (binOp .eql 23 (.slice (some ⟨b, off, none⟩) 3 cp) (.slice none 0 0)).run Try.prog w = .ok (.bool false) w := fun w => Go.Lib.run_eql_slice_nil w _ _ _ _ _ _ _ Try.underlying23
  clear hP p00 p01 p02 p10 p11 p12 p20 p21 p22 i0 j0 i1 j1 i2 j2
  go_enter Try.func148, Try.ntmps148
  go_wp2_with (at_builtin; go_must (refine wpList_append_lies _ rfl (.tmp 5) (.tmp 6) 23 rfl w.heap.size 34 zi _ 3 56 Try.underlying23 hi hz0 hz1 hz2 rfl (by decide) (.slice (some ⟨w.heap.size, 0, none⟩) 0 0) 0 [] rfl HOL ⟨b, off, none⟩ 3 cp _ rfl rfl HNW.out HNX.out (by omega) (by unfold maxLen; omega) (by omega) (by rw [World.size_alloc]; omega) _ rfl ?_); intro g cpg w1 hown hgrow hat hlt1)
  have hg : w.heap.size ≤ g := by
    rcases hat with h | h
    · have h' : some w.heap.size = some g := h
      simp only [Option.some.injEq] at h'
      omega
    · rw [World.size_alloc] at h; omega
  have gT : Touch (fun k => k = w.heap.size) (w.alloc (.cells #[] 34)) w1 := ⟨hgrow.os, hgrow.tape, hgrow.output, hgrow.size, fun z hz hn => hgrow.block z hz (fun e => hn (by have e' : some z = some w.heap.size := e; simpa using e'))⟩
  have ty : ∀ {a : Option Addr} {n : Nat} {zs : List Int}, Ints (w.alloc (.cells #[] 34)) a n zs → (∀ b o, a = some ⟨b, o, none⟩ → b < w.heap.size) → Ints w1 a n zs := fun h hb => h.by gT (fun b o e => by have := hb b o e; omega)
  have bb : Below w.heap.size w w1 := A.grown hgrow A.size (fun k hk => by have h' : some w.heap.size = some k := hk; simp only [Option.some.injEq] at h'; omega)
  have jj : JC w.heap.size g cpg _ fs w1 := ⟨hown, fun i hi => by
    match i, hi with
    | 0, _ => exact ⟨a0, c0, x0, y0, rfl, rfl, rfl, ty I0 l0, ty J0 m0, fun b o e => by have := l0 b o e; omega, fun b o e => by have := m0 b o e; omega⟩
    | 1, _ => exact ⟨a1, c1, x1, y1, rfl, rfl, rfl, ty I1 l1, ty J1 m1, fun b o e => by have := l1 b o e; omega, fun b o e => by have := m1 b o e; omega⟩
    | 2, _ => exact ⟨a2, c2, x2, y2, rfl, rfl, rfl, ty I2 l2, ty J2 m2, fun b o e => by have := l2 b o e; omega, fun b o e => by have := m2 b o e; omega⟩⟩
  clear hown hgrow hat gT ty I0 J0 I1 J1 I2 J2 l0 m0 l1 m1 l2 m2
  go_wp2
  go_ret
  exact ⟨g, cpg, rfl, bb, _, jj⟩

set_option maxHeartbeats 6400000 in
theorem iadding_any (y : Way) (p : Nat) (hp : p < 3) (X : Frm) (ga : Option Addr) (ng gc : Nat) (pa : Option Addr) (cp : Nat) (ta : Option Addr) (nt tc : Nat) (st : Bool) (fa : Option Addr) (fc : Nat) (fd : Option Addr) (fe : Nat) (w : World) (hl : y.pots.length = 3) (hP : FormsAt w pa y.pots) (hX1 : Ints w fa 3 X.1) (hX2 : Ints w fd 2 X.2.1) (h1 : fitX 10000000 (y.pots[p]?.getD noX)) (h2 : fitX 10000000 X) (h3 : fitX 10000000 (plusX (y.pots[p]?.getD noX) X)) :
    Calls Try.prog 139 #[wayV ga ng gc pa cp ta nt tc st, .int .i64 (p : Int), formV fa 3 fc fd 2 fe X.2.2] w fun e w' => ∃ G cG, e = .returned (wayV ga ng gc (some ⟨G, 0, none⟩) cG ta nt tc st) ∧ Below w.heap.size w w' ∧ FormsAt w' (some ⟨G, 0, none⟩) (y.add p X).pots := by
  have HL : Hid (y.pots.length = 3) := hl
  have H1 : Hid _ := h1
  have H2 : Hid _ := h2
  have H3 : Hid _ := h3
  clear hl h1 h2 h3
  obtain ⟨W0, hW0⟩ : ∃ W0, W0 = ((w.alloc (.cells #[.slice ga ng gc, .slice pa 3 cp, .slice ta nt tc, .bool st] 143)).alloc (.cells #[.slice fa 3 fc, .slice fd 2 fe, .int .i64 X.2.2] 34)).alloc (.cells #[.slice none 0 0, .slice none 0 0, .slice none 0 0, .bool false] 143) := ⟨_, rfl⟩
  have q0 := ((Cel.new w [.slice ga ng gc, .slice pa 3 cp, .slice ta nt tc, .bool st] 143).alloc (.cells #[.slice fa 3 fc, .slice fd 2 fe, .int .i64 X.2.2] 34)).alloc (.cells #[.slice none 0 0, .slice none 0 0, .slice none 0 0, .bool false] 143)
  have f0 := (Cel.new (w.alloc (.cells #[.slice ga ng gc, .slice pa 3 cp, .slice ta nt tc, .bool st] 143)) [.slice fa 3 fc, .slice fd 2 fe, .int .i64 X.2.2] 34).alloc (.cells #[.slice none 0 0, .slice none 0 0, .slice none 0 0, .bool false] 143)
  have r0 := Cel.new ((w.alloc (.cells #[.slice ga ng gc, .slice pa 3 cp, .slice ta nt tc, .bool st] 143)).alloc (.cells #[.slice fa 3 fc, .slice fd 2 fe, .int .i64 X.2.2] 34)) [.slice none 0 0, .slice none 0 0, .slice none 0 0, .bool false] 143
  rw [World.size_alloc] at f0
  rw [World.size_alloc, World.size_alloc] at r0
  have B0 : Below w.heap.size w W0 := by rw [hW0]; exact (((Below.refl _ _).alloc (Nat.le_refl _) _).alloc (by simp) _).alloc (by simp; omega) _
  rw [← hW0] at q0 f0 r0
  go_enter Try.func139, Try.ntmps139
  go_upto_region 1 with fail
  rw [← hW0]
  clear hW0
  obtain ⟨c0, c1, c2, c3⟩ := q0.four
  have z0 := q0.lt
  have z1 := f0.lt
  have z2 := r0.lt
  go_wp2_with fail
  refine (iclone3_any _ _ y.pots _ HL.out (hP.keep B0)).mono ?_
  rintro e w1 ⟨G, cG, xs, rfl, b1, jG⟩
  have lG := jG.lt
  have q1 := q0.below b1
  have f1 := f0.below b1
  have r1 := r0.below b1
  have B1 := B0.trans (b1.mono B0.size)
  have sz1 := b1.size
  have x1 := hX1.below B1
  have x2 := hX2.below B1
  clear q0 f0 r0 c0 c1 c2 c3 b1
  obtain ⟨c0, c1, c2, c3⟩ := q1.four
  have y1 := q1.free 1
  have T1 : Touch (fun k => k = w.heap.size) w1 (w1.setCell ⟨w.heap.size, 1, none⟩ (.slice (some ⟨G, 0, none⟩) 3 cG)) := Touch.setCell (S := fun k => k = w.heap.size) (Touch.refl _ _) rfl _
  have q2 := q1.set 1 (.slice (some ⟨G, 0, none⟩) 3 cG)
  simp only [List.set_cons_zero, List.set_cons_succ] at q2
  have f2 := f1.touch T1 (fun h => by have := h; omega)
  have r2 := r1.touch T1 (fun h => by have := h; omega)
  have B2 := B1.trans (T1.below B1.size (fun k hk => by omega))
  have j2 := jG.past (by omega) (boxNo q1) T1
  have u1 := x1.past (boxNo q1) T1
  have u2 := x2.past (boxNo q1) T1
  have s2 : w1.heap.size ≤ (w1.setCell ⟨w.heap.size, 1, none⟩ (.slice (some ⟨G, 0, none⟩) 3 cG)).heap.size := T1.size
  go_upto_region 2 with fail
  clear q1 f1 r1 jG x1 x2 T1 B1 c0 c1 c2 c3 y1
  generalize (w1.setCell ⟨w.heap.size, 1, none⟩ (.slice (some ⟨G, 0, none⟩) 3 cG)) = w2 at *
  obtain ⟨pa', pc', pca, pcc, d0, d1, d2, iC, iD, nC, nD⟩ := j2.t p hp
  obtain ⟨PX, hPX⟩ : ∃ PX, PX = y.pots[p]?.getD ([], [], 0) := ⟨_, rfl⟩
  have HPX : Hid (y.pots[p]?.getD noX = PX) := hPX.symm
  rw [← hPX] at d2 iC iD
  clear hPX
  have g0 : w2.cell? ⟨G, p * 3, none⟩ = some (.slice pa' 3 pca) := (own_cell j2.o _ (by omega)).trans d0
  have g1 : w2.cell? ⟨G, p * 3 + 1, none⟩ = some (.slice pc' 2 pcc) := (own_cell j2.o _ (by omega)).trans d1
  have g2 : w2.cell? ⟨G, p * 3 + 2, none⟩ = some (.int .i64 PX.2.2) := (own_cell j2.o _ (by omega)).trans d2
  have lG2 := j2.lt
  obtain ⟨-, m1, -, -⟩ := q2.four
  obtain ⟨n0, n1, n2, -, -, -⟩ := f2.trio
  have hSS : (w2.drew.cell? ⟨w.heap.size, 1, none⟩ = some (.slice (some ⟨G, 0, none⟩) 3 cG) ∧ w2.drew.cell? ⟨w.heap.size + 1, 0, none⟩ = some (.slice fa 3 fc) ∧ w2.drew.cell? ⟨w.heap.size + 1, 1, none⟩ = some (.slice fd 2 fe) ∧ w2.drew.cell? ⟨w.heap.size + 1, 2, none⟩ = some (.int .i64 X.2.2)) ∧ (w2.drew.cell? ⟨G, p * 3, none⟩ = some (.slice pa' 3 pca) ∧ w2.drew.cell? ⟨G, p * 3 + 1, none⟩ = some (.slice pc' 2 pcc) ∧ w2.drew.cell? ⟨G, p * 3 + 2, none⟩ = some (.int .i64 PX.2.2)) := ⟨⟨m1, n0, n1, n2⟩, g0, g1, g2⟩
  have hpI : (p : Int) < 3 := by omega
  refine wp_region_ends (fun w' => w'.cell? ⟨w.heap.size, 1, none⟩ = some (.slice (some ⟨G, 0, none⟩) 3 cG) ∧ w'.cell? ⟨w.heap.size + 1, 0, none⟩ = some (.slice fa 3 fc) ∧ w'.cell? ⟨w.heap.size + 1, 1, none⟩ = some (.slice fd 2 fe) ∧ w'.cell? ⟨w.heap.size + 1, 2, none⟩ = some (.int .i64 X.2.2)) (fun w' => w'.cell? ⟨G, p * 3, none⟩ = some (.slice pa' 3 pca) ∧ w'.cell? ⟨G, p * 3 + 1, none⟩ = some (.slice pc' 2 pcc) ∧ w'.cell? ⟨G, p * 3 + 2, none⟩ = some (.int .i64 PX.2.2)) 10 (by kernel_rfl) ?_
  refine wpAnyE_take0 (i := 0) (v := ?v0) rfl (by kernel_rfl) (by kernel_rfl) (by kernel_rfl) (by decide) (fun _ _ _ h => h) (Or.inl ⟨by rfl, ?hy0⟩) hSS ?_
  case hy0 => (intro wz hSw; (try dsimp only at hSw); go_simp; try (with_reducible rfl))
  refine wpAnyE_take0 (i := 1) (v := ?v1) rfl (by kernel_rfl) (by kernel_rfl) (by kernel_rfl) (by decide) (fun _ _ _ h => h) (Or.inl ⟨by rfl, ?hy1⟩) hSS ?_
  case hy1 => (intro wz hSw; (try dsimp only at hSw); go_simp; try (with_reducible rfl))
  refine wpAnyE_take0 (i := 2) (v := ?v2) rfl (by kernel_rfl) (by kernel_rfl) (by kernel_rfl) (by decide) (fun _ _ _ h => h) (Or.inl ⟨by rfl, ?hy2⟩) hSS ?_
  case hy2 => (intro wz hSw; (try dsimp only at hSw); go_simp; try (with_reducible rfl))
  refine wpAnyE_take0 (i := 3) (v := ?v3) rfl (by kernel_rfl) (by kernel_rfl) (by kernel_rfl) (by decide) (fun _ _ _ h => h) (Or.inl ⟨by rfl, ?hy3⟩) hSS ?_
  case hy3 => (intro wz hSw; (try dsimp only at hSw); go_simp; try (with_reducible rfl))
  refine wpAnyE_take0 (i := 4) (v := ?v4) rfl (by kernel_rfl) (by kernel_rfl) (by kernel_rfl) (by decide) (fun _ _ _ h => h) (Or.inl ⟨by rfl, ?hy4⟩) hSS ?_
  case hy4 => (intro wz hSw; (try dsimp only at hSw); go_simp; try (with_reducible rfl))
  refine wpAnyE_take0 (i := 5) (v := ?v5) rfl (by kernel_rfl) (by kernel_rfl) (by kernel_rfl) (by decide) (fun _ _ _ h => h) (Or.inl ⟨by rfl, ?hy5⟩) hSS ?_
  case hy5 => (intro wz hSw; (try dsimp only at hSw); go_simp; try (with_reducible rfl))
  refine wpAnyE_take0 (i := 6) (v := ?v6) rfl (by kernel_rfl) (by kernel_rfl) (by kernel_rfl) (by decide) (fun _ _ _ h => h) (Or.inl ⟨by rfl, ?hy6⟩) hSS ?_
  case hy6 => (intro wz hSw; (try dsimp only at hSw); go_simp; try (with_reducible rfl))
  refine wpAnyE_take1 (i := 7) (v := ?v7) rfl rfl (by kernel_rfl) (by kernel_rfl) (by kernel_rfl) (by decide) (by rfl) (by simp [Region.binds]) (fun _ _ _ h => h) (Or.inl ⟨by rfl, ?hy7⟩) hSS ?_
  case hy7 => (intro wz hSw; (try dsimp only at hSw); go_simp; try (with_reducible rfl))
  refine wpAnyE_take0 (i := 8) (v := ?v8) rfl (by kernel_rfl) (by kernel_rfl) (by kernel_rfl) (by decide) (fun _ _ _ h => h) (Or.inl ⟨by rfl, ?hy8⟩) hSS ?_
  case hy8 => (intro wz hSw; (try dsimp only at hSw); go_simp; try (with_reducible rfl))
  refine wpAnyE_one (i := 9) (by kernel_rfl) rfl (fun K hK => ?_)
  go_simp
  refine (iaddX_any _ _ _ _ PX _ _ _ _ X _ (iC.below (Below.refl _ _).drew) (iD.below (Below.refl _ _).drew) (u1.below (Below.refl _ _).drew) (u2.below (Below.refl _ _).drew) (by rw [← HPX.out]; exact H1.out) H2.out (by rw [← HPX.out]; exact H3.out)).mono ?_
  rintro ee w3 ⟨E1, E2, k1', k2', rfl, bd, y1, y2, y3, v1, v2⟩
  have b3 := below_of_drew bd
  have y1x : w2.heap.size ≤ E1 := y1
  have y3x : w2.heap.size ≤ E2 := y3
  have j3 := j2.below b3
  have q3 := q2.below b3
  have f3 := f2.below b3
  have r3 := r2.below b3
  have s3 := b3.size
  obtain ⟨-, m1', -, -⟩ := q3.four
  obtain ⟨n0', n1', n2', -, -, -⟩ := f3.trio
  have hS3 : (w3.cell? ⟨w.heap.size, 1, none⟩ = some (.slice (some ⟨G, 0, none⟩) 3 cG) ∧ w3.cell? ⟨w.heap.size + 1, 0, none⟩ = some (.slice fa 3 fc) ∧ w3.cell? ⟨w.heap.size + 1, 1, none⟩ = some (.slice fd 2 fe) ∧ w3.cell? ⟨w.heap.size + 1, 2, none⟩ = some (.int .i64 X.2.2)) ∧ (w3.cell? ⟨G, p * 3, none⟩ = some (.slice pa' 3 pca) ∧ w3.cell? ⟨G, p * 3 + 1, none⟩ = some (.slice pc' 2 pcc) ∧ w3.cell? ⟨G, p * 3 + 2, none⟩ = some (.int .i64 PX.2.2)) := ⟨⟨m1', n0', n1', n2'⟩, (b3.cell (p := ⟨G, p * 3, none⟩) lG2.2).trans g0, (b3.cell (p := ⟨G, p * 3 + 1, none⟩) lG2.2).trans g1, (b3.cell (p := ⟨G, p * 3 + 2, none⟩) lG2.2).trans g2⟩
  (try dsimp only)
  refine hK.out _ _ ⟨hS3.1, fun _ => hS3.2⟩ ?_
  clear hK K hSS
  refine wpAnyE_one (i := 10) (by kernel_rfl) rfl (fun K hK => ?_)
  go_simp
  refine hK.out _ _ ⟨hS3.1, fun h => absurd (show true = false from h) (by decide)⟩ ?_
  clear hK K
  have FPN := j3.put HL.out hp (ca := k1') (cc := k2') (K := (plusX PX X).2.2) v1 (by rw [← HPX.out]; exact H3.out.c) v2 (by rw [← HPX.out]; exact H3.out.d) (by omega) (by omega)
  have fz0 := j3.frz (p * 3)
  have fz1 := j3.frz (p * 3 + 1)
  have fz2 := j3.frz (p * 3 + 2)
  obtain ⟨h0', h1', h2'⟩ := hS3.2
  have TT : Touch (fun q => q = G) w3 (((w3.setCell ⟨G, p * 3, none⟩ (.slice (some ⟨E1, 0, none⟩) 3 k1')).setCell ⟨G, p * 3 + 1, none⟩ (.slice (some ⟨E2, 0, none⟩) 2 k2')).setCell ⟨G, p * 3 + 2, none⟩ (.int .i64 (plusX PX X).2.2)) := (((Touch.refl (fun q => q = G) w3).setCell rfl _).setCell rfl _).setCell rfl _
  have q4 := q3.touch TT (fun h => by have := h; omega)
  have f4 := f3.touch TT (fun h => by have := h; omega)
  have r4 := r3.touch TT (fun h => by have := h; omega)
  have B4 := (B2.trans (b3.mono B2.size)).trans (TT.below (by have := B2.size; omega) (fun q hq => by omega))
  obtain ⟨o0, o1, o2, o3⟩ := q4.four
  obtain ⟨t0, t1, t2, -, -, -⟩ := f4.trio
  have sTT := TT.size
  refine wpAnyE_one (i := 11) (by kernel_rfl) rfl (fun K hK => ?_)
  go_simp
  refine hK.out _ _ ⟨⟨o1, t0, t1, t2⟩, fun h => absurd (show true = false from h) (by decide)⟩ ?_
  clear hK K
  refine wpAnyE_done (by kernel_rfl) ?_ _
  have eAdd : (y.add p X).pots = y.pots.set p ((plusX PX X).1, (plusX PX X).2.1, (plusX PX X).2.2) := by
    show y.pots.set p (plusX (y.pots[p]?.getD noX) X) = _
    rw [HPX.out]
  rw [← eAdd] at FPN
  clear hS3 h0' h1' h2' fz0 fz1 fz2 TT eAdd f4 f3 f2 q3 q2 r3 r2 j3 j2 B2 b3 bd v1 v2 u1 u2 iC iD g0 g1 g2 d0 d1 d2
  generalize (((w3.setCell ⟨G, p * 3, none⟩ (.slice (some ⟨E1, 0, none⟩) 3 k1')).setCell ⟨G, p * 3 + 1, none⟩ (.slice (some ⟨E2, 0, none⟩) 2 k2')).setCell ⟨G, p * 3 + 2, none⟩ (.int .i64 (plusX PX X).2.2)) = V at *
  obtain ⟨l0, l1, l2, l3⟩ := r4.four
  have fy0 := r4.free 0
  have fy1 := r4.free 1
  have fy2 := r4.free 2
  have fy3 := r4.free 3
  obtain ⟨x', T'⟩ := put4 r4 rfl (.slice ga ng gc) (.slice (some ⟨G, 0, none⟩) 3 cG) (.slice ta nt tc) (.bool st)
  have FP2 := FPN.past (boxNil r4) T'
  have B5 := B4.trans (T'.below B4.size (fun k hk => by omega))
  obtain ⟨e0, e1, e2, e3⟩ := x'.four
  have lr := r4.lt
  clear FPN r4 T' x'
  go_wp2
  refine bodyPost_ret (v := wayV ga ng gc (some ⟨G, 0, none⟩) cG ta nt tc st) (by simp [results, Try.results139, go_sem, e0, e1, e2, e3]) rfl ?_
  exact ⟨G, cG, rfl, B5, FP2⟩

end Go.Proofs.Ytjggppnffkcmbaa
namespace Go.Proofs.Ytjggppnffkcmbaa
open Go.RowKit Go.Deep
set_option linter.unusedVariables false
set_option maxRecDepth 100000

theorem next_nil {n : Nat} (h : 0 < n) : Builtin.nextslicecap n 0 = n := by
  simp [Builtin.nextslicecap, h]
/-- append(nil, make([]T, n)...). -/
theorem run_append_made {P : Program} (w : World) (t tx ty e : TypeId) (i : TypeInfo) (z : Value) (ht : P.underlying t = some (.slice e)) (htx : P.underlying tx = some (.int .i64)) (hi : P.info? e = some i) (hz : i.zero = some z) (n : Nat) (h0 : 0 < n) (hs : 0 < i.size) (hn : n ≤ 1000) (hb : i.bytes ≤ 1000) :
    (Builtin.append_ #[t, tx] ty #[.slice none 0 0, .int .i64 (n : Int)]).run P w = .ok (.slice (some ⟨w.heap.size, 0, none⟩) n (grownCap w n 0 e)) (w.drew.alloc (.cells (Builtin.zeroCells z.cells n ++ Builtin.zeroCells z.cells (grownCap w n 0 e - n)) e)) := by
  have hw : IntKind.i64.wrap (n : Int) = n := wrap_id (by omega) (by omega)
  have h1 : ¬ ((n : Int) < 0) := by omega
  have hnb : n * i.bytes ≤ 1000 * 1000 := Nat.mul_le_mul hn hb
  have h2 : ¬ (281474976710656 < (n : Int) * (i.bytes : Int)) := by
    have : ((n * i.bytes : Nat) : Int) = (n : Int) * (i.bytes : Int) := by simp
    omega
  have h3 : ¬ (n * i.size = 0) := by
    have := Nat.mul_pos h0 hs
    omega
  have h4 : ¬ (n = 0) := by omega
  have h5 : ¬ (281474976710656 < n * i.bytes) := by omega
  have h6 : ¬ (9223372036854775807 < (n : Int)) := by omega
  have hold : (Builtin.firstCells i.size 0 (.slice none 0 0)).run P w.drew = .ok #[] w.drew := run_firstCells_none w.drew i.size 0 0 0
  simp [Builtin.append_, asInt, asIntOf, run_underlying ht, run_underlying htx, sizeOf, typeInfo, zeroValue, hi, hz, hw, h1, h2, h3, h4, h5, h6, next_nil h0, Question.forced, hold, newRow, grownCap]

theorem wpList_append_made {P : Program} {ops : Array Oper} {rest : List Oper} {o : Oper} {a : Act} {w : World} {Q : Exit → Act → World → Prop} (hgd : o.guard = none) (s x : Operand) (t tx : TypeId) (ho : o.op = .call { callee := .builtin .append, args := #[s, x], argTypes := #[t, tx] }) (v xv r : Value) (w' : World) (hs : a.eval s = v) (hx : a.eval x = xv) (hr : (Builtin.append_ #[t, tx] o.type #[v, xv]).run P w = .ok r w') (h : wpList P ops Q rest (a.put o.dst r) w') : wpList P ops Q (o :: rest) a w := by
  refine wpList_plain hgd fun K hK => ?_
  unfold Oper.wp execOp
  simp only [ho, resolve, invoke, builtin, Sem.run_bind, Sem.run_pure, Result.andThen_ok, List.map_toArray, List.map_cons, List.map_nil, hs, hx, hr]
  exact hK _ _ h
theorem zero_size (z : Array Value) (n : Nat) : (Builtin.zeroCells z n).size = n * z.size := by simp [Builtin.zeroCells]

set_option maxHeartbeats 1600000 in
theorem igrow_any (n : Nat) (h0 : 0 < n) (hn : n ≤ 1000) (w : World) :
    Calls Try.prog 149 #[.slice none 0 0, .int .i64 (n : Int)] w fun e w' => ∃ G cap, e = .returned (.slice (some ⟨G, 0, none⟩) 0 cap) ∧ Below w.heap.size w w' ∧ w'.ownsRow w.heap.size 34 3 (.slice (some ⟨G, 0, none⟩) 0 cap) 0 [] ∧ n ≤ cap := by
  obtain ⟨zi, hi, hz0, hz1, hz2⟩ := info_parts Try.infoForm
  have hap : ∀ (ty : TypeId) (w : World), (Builtin.append_ #[23, 3] ty #[.slice none 0 0, .int .i64 (n : Int)]).run Try.prog w = .ok (.slice (some ⟨w.heap.size, 0, none⟩) n (grownCap w n 0 34)) (w.drew.alloc (.cells (Builtin.zeroCells (Value.agg #[.slice none 0 0, .slice none 0 0, .int .i64 0]).cells n ++ Builtin.zeroCells (Value.agg #[.slice none 0 0, .slice none 0 0, .int .i64 0]).cells (grownCap w n 0 34 - n)) 34)) := fun ty w => run_append_made w _ _ ty _ zi _ Try.underlying23 (by kernel_rfl) hi hz0 n h0 (by rw [hz1]; omega) hn (by rw [hz2]; omega)
  have hpos : ¬ ((n : Int) < 0) := by omega
  have hpos2 : (0 : Int) < n := by omega
  have hge := grownCap_ge w n 0 34
  have hle := grownCap_le_maxLen w n 0 34 (by unfold maxLen; omega)
  go_enter Try.func149, Try.ntmps149
  go_wp2_with (at_builtin; go_must (refine wpList_append_made rfl (.tmp 20) (.tmp 21) 23 3 rfl _ _ _ _ rfl rfl (hap _ _) ?_))
  have B : Below w.heap.size w (w.drew.alloc (.cells (Builtin.zeroCells (Value.agg #[.slice none 0 0, .slice none 0 0, .int .i64 0]).cells n ++ Builtin.zeroCells (Value.agg #[.slice none 0 0, .slice none 0 0, .int .i64 0]).cells (grownCap w n 0 34 - n)) 34)) := ((Below.refl w.heap.size w).drew).alloc (Nat.le_refl _) _
  have O : (w.drew.alloc (.cells (Builtin.zeroCells (Value.agg #[.slice none 0 0, .slice none 0 0, .int .i64 0]).cells n ++ Builtin.zeroCells (Value.agg #[.slice none 0 0, .slice none 0 0, .int .i64 0]).cells (grownCap w n 0 34 - n)) 34)).ownsRow w.heap.size 34 3 (.slice (some ⟨w.heap.size, 0, none⟩) 0 (grownCap w n 0 34)) 0 [] := by
    refine ⟨rfl, .inr ⟨w.heap.size, _, _, rfl, Nat.le_refl _, heap_alloc_new w.drew _, Nat.zero_le _, hle, ?_, rfl⟩⟩
    rw [Array.size_append, zero_size, zero_size]
    show n * 3 + (grownCap w n 0 34 - n) * 3 = _
    omega
  go_wp2
  go_ret
  exact ⟨_, _, rfl, B, O, hge⟩

end Go.Proofs.Ytjggppnffkcmbaa
namespace Go.Proofs.Ytjggppnffkcmbaa
open Go.RowKit Go.Deep
set_option linter.unusedVariables false
set_option maxRecDepth 100000

/-- The cells of forms that can be read. -/
theorem FormsAt.cells {w : World} {b off : Nat} {fs : List Frm} (h : FormsAt w (some ⟨b, off, none⟩) fs) : ∀ k, k ≤ fs.length → ∃ xs : List Value, xs.length = k * 3 ∧ (∀ j u, xs[j]? = some u → w.cell? ⟨b, off + j, none⟩ = some u) ∧ (∀ u ∈ xs, u.oneCell' = true) ∧ (∀ G, w.heap.size ≤ G → TermsOk w G xs fs k) := by
  intro k
  induction k with
  | zero => intro _; exact ⟨[], rfl, fun j u hu => by simp at hu, fun u hu => by simp at hu, fun G _ j hj => by omega⟩
  | succ k ih =>
    intro hk
    obtain ⟨xs, h1, h2, h3, h4⟩ := ih (by omega)
    obtain ⟨b', off', e, a', c', ca, cc, c0, c1, c2, iC, iD⟩ := h k (by omega)
    simp only [Option.some.injEq, Addr.mk.injEq, and_true] at e
    obtain ⟨rfl, rfl⟩ := e
    refine ⟨xs ++ [.slice a' 3 ca, .slice c' 2 cc, .int .i64 (fs[k]?.getD ([], [], 0)).2.2], by rw [List.length_append, h1]; simp; omega, fun j u hu => ?_, fun u hu => ?_, fun G hG j hj => ?_⟩
    · by_cases hj : j < xs.length
      · rw [List.getElem?_append_left hj] at hu; exact h2 j u hu
      · rw [List.getElem?_append_right (by omega), h1] at hu
        obtain ⟨r, rfl⟩ : ∃ r, j = k * 3 + r := ⟨j - k * 3, by omega⟩
        rw [show k * 3 + r - k * 3 = r by omega] at hu
        match r with
        | 0 => simp only [List.getElem?_cons_zero, Option.some.injEq] at hu; subst hu; exact c0
        | 1 => simp only [List.getElem?_cons_zero, List.getElem?_cons_succ, Option.some.injEq] at hu; subst hu; exact c1
        | 2 => simp only [List.getElem?_cons_zero, List.getElem?_cons_succ, Option.some.injEq] at hu; subst hu; exact c2
        | r + 3 => simp at hu
    · rcases List.mem_append.1 hu with hu | hu
      · exact h3 u hu
      · simp only [List.mem_cons, List.not_mem_nil, or_false] at hu
        rcases hu with rfl | rfl | rfl <;> rfl
    · by_cases hjk : j < k
      · obtain ⟨a2, c2', x, y, e0, e1, e2, i1, i2, n1, n2⟩ := h4 G hG j hjk
        exact ⟨a2, c2', x, y, by rw [List.getElem?_append_left (by omega)]; exact e0, by rw [List.getElem?_append_left (by omega)]; exact e1, by rw [List.getElem?_append_left (by omega)]; exact e2, i1, i2, n1, n2⟩
      · obtain rfl : j = k := by omega
        refine ⟨a', c', ca, cc, ?_, ?_, ?_, iC, iD, fun b o e => by have := iC.blt (by omega) b o e; omega, fun b o e => by have := iD.blt (by omega) b o e; omega⟩
        · rw [List.getElem?_append_right (by omega), h1, Nat.sub_self]; rfl
        · rw [List.getElem?_append_right (by omega), h1, show j * 3 + 1 - j * 3 = 1 by omega]; rfl
        · rw [List.getElem?_append_right (by omega), h1, show j * 3 + 2 - j * 3 = 2 by omega]; rfl
theorem TermsOk.move {W W' : World} {G g : Nat} {xs : List Value} {T : List Frm} {n : Nat} (h : TermsOk W G xs T n) (t : Touch (fun x => x = G) W W') (hg : g = G ∨ W.heap.size ≤ g) : TermsOk W' g xs T n := fun j hj => by
  obtain ⟨a', c', ca, cc, e0, e1, e2, i1, i2, n1, n2⟩ := h j hj
  refine ⟨a', c', ca, cc, e0, e1, e2, i1.by t n1, i2.by t n2, fun b o e => ?_, fun b o e => ?_⟩
  · have := n1 b o e
    have := i1.blt (by omega) b o e
    omega
  · have := n2 b o e
    have := i2.blt (by omega) b o e
    omega
theorem TermsOk.join {W : World} {G : Nat} {xs ys : List Value} {T U : List Frm} {n m : Nat} (h : TermsOk W G xs T n) (h' : TermsOk W G ys U m) (hx : xs.length = n * 3) (hT : T.length = n) : TermsOk W G (xs ++ ys) (T ++ U) (n + m) := fun j hj => by
  by_cases hjn : j < n
  · obtain ⟨a', c', ca, cc, e0, e1, e2, r⟩ := h j hjn
    refine ⟨a', c', ca, cc, by rw [List.getElem?_append_left (by omega)]; exact e0, by rw [List.getElem?_append_left (by omega)]; exact e1, ?_, ?_⟩
    · rw [List.getElem?_append_left (by omega), List.getElem?_append_left (l₁ := T) (by omega)]; exact e2
    · rw [List.getElem?_append_left (l₁ := T) (by omega)]; exact r
  · obtain ⟨a', c', ca, cc, e0, e1, e2, r⟩ := h' (j - n) (by omega)
    refine ⟨a', c', ca, cc, ?_, ?_, ?_, ?_⟩
    · rw [List.getElem?_append_right (by omega), hx, show j * 3 - n * 3 = (j - n) * 3 by omega]; exact e0
    · rw [List.getElem?_append_right (by omega), hx, show j * 3 + 1 - n * 3 = (j - n) * 3 + 1 by omega]; exact e1
    · rw [List.getElem?_append_right (by omega), hx, show j * 3 + 2 - n * 3 = (j - n) * 3 + 2 by omega, List.getElem?_append_right (l₁ := T) (by omega), hT]; exact e2
    · rw [List.getElem?_append_right (l₁ := T) (by omega), hT]; exact r
theorem grown_touch {W W' : World} {G : Nat} (h : W.grownBy W' (some G)) : Touch (fun x => x = G) W W' := ⟨h.os, h.tape, h.output, h.size, fun z hz hn => h.block z hz (fun e => hn (by simpa using e))⟩

theorem igrow_at (x : Int) (n : Nat) (hx : x = (n : Int)) (h0 : 0 < n) (hn : n ≤ 1000) (w : World) :
    Calls Try.prog 149 #[.slice none 0 0, .int .i64 x] w fun e w' => ∃ G cap, e = .returned (.slice (some ⟨G, 0, none⟩) 0 cap) ∧ Below w.heap.size w w' ∧ w'.ownsRow w.heap.size 34 3 (.slice (some ⟨G, 0, none⟩) 0 cap) 0 [] ∧ n ≤ cap := by
  subst hx
  exact igrow_any n h0 hn w
theorem own_lo {W : World} {base g cap n : Nat} {xs : List Value} (h : W.ownsRow base 34 3 (.slice (some ⟨g, 0, none⟩) n cap) n xs) : base ≤ g ∧ g < W.heap.size ∧ n ≤ cap := by
  rcases h.2 with ⟨h', _⟩ | ⟨g', cap', cur, h', hb, hh, hc, _⟩
  · cases h'
  · simp only [Value.slice.injEq, Option.some.injEq, Addr.mk.injEq, and_true, true_and] at h'
    obtain ⟨rfl, rfl⟩ := h'
    exact ⟨hb, lt_of_block hh, hc⟩

set_option maxHeartbeats 3200000 in
theorem iconcat_any (Q : Nat) (ga : Option Addr) (ng gc : Nat) (fs : List Frm) (F fcap : Nat) (X : Frm) (w : World) (hQ : Cel w Q [.slice ga ng gc, .slice (some ⟨F, 0, none⟩) 1 fcap] 23) (hn : fs.length = ng) (hng : ng ≤ 100) (hG : FormsAt w ga fs) (hX : FormsAt w (some ⟨F, 0, none⟩) [X]) :
    Calls Try.prog 147 #[.slice (some ⟨Q, 0, none⟩) 2 2] w fun e w' => ∃ G cap, e = .returned (.slice (some ⟨G, 0, none⟩) (ng + 1) cap) ∧ Below w.heap.size w w' ∧ FormsAt w' (some ⟨G, 0, none⟩) (fs ++ [X]) := by
  have HN : Hid (fs.length = ng) := hn
  have HG : Hid (FormsAt w ga fs) := hG
  have HX : Hid (FormsAt w (some ⟨F, 0, none⟩) [X]) := hX
  have HQ : Hid (Cel w Q [.slice ga ng gc, .slice (some ⟨F, 0, none⟩) 1 fcap] 23) := hQ
  clear hn hG hX hQ
  obtain ⟨zi, hi, hz0, hz1, hz2⟩ := info_parts Try.infoForm
  go_enter Try.func147, Try.ntmps147
  go_wp2_with fail
  go_loopw [3, 5, 11] (fun s _ i wr => ∃ k : Nat, k ≤ 2 ∧ i = .int .i64 k ∧ (∃ x : Int, s = .int .i64 x ∧ ((k = 0 ∧ x = 0) ∨ (k = 1 ∧ x = ng) ∨ (k = 2 ∧ x = ng + 1))) ∧ wr = w) (fun _ _ i _ => 2 - (intOf i).toNat)
  case atStart => exact ⟨0, by omega, rfl, ⟨0, rfl, .inl ⟨rfl, rfl⟩⟩, rfl⟩
  case round =>
    obtain ⟨k, hk, rfl, ⟨x, rfl, hx⟩, hwr⟩ := hrel
    have hwr' : w = wr := hwr.symm
    subst hwr'
    have c0 : w.cell? ⟨Q, 0, none⟩ = some (.slice ga ng gc) := HQ.out.cell 0
    have c1 : w.cell? ⟨Q, 1, none⟩ = some (.slice (some ⟨F, 0, none⟩) 1 fcap) := HQ.out.cell 1
    rcases hx with ⟨rfl, rfl⟩ | ⟨rfl, rfl⟩ | ⟨rfl, rfl⟩
    · have p1 : ¬ ((ng : Int) < 0) := by omega
      go_wp2
      go_roundw
      case rel => exact ⟨1, by omega, rfl, ⟨_, rfl, .inr (.inl ⟨rfl, rfl⟩)⟩, trivial⟩
      case measure => simp [intOf]
    · have p1 : ¬ ((ng : Int) + 1 < 0) := by omega
      go_wp2
      go_roundw
      case rel => exact ⟨2, by omega, rfl, ⟨_, rfl, .inr (.inr ⟨rfl, rfl⟩)⟩, trivial⟩
      case measure => simp [intOf]
    · go_wp2_with fail
      refine (igrow_at _ (ng + 1) (by omega) (by omega) (by omega) _).mono ?_
      rintro e w1 ⟨G, cap, rfl, b1, o1, hcap⟩
      clear c0 c1
      go_wp2_with fail
      go_loopw [6, 8, 27] (fun r _ i w2 => ∃ (k n g cp : Nat) (xs : List Value) (T : List Frm), k ≤ 2 ∧ i = .int .i64 k ∧ r = .slice (some ⟨g, 0, none⟩) n cp ∧ T.length = n ∧ ((k = 0 ∧ n = 0 ∧ T = []) ∨ (k = 1 ∧ n = ng ∧ T = fs) ∨ (k = 2 ∧ n = ng + 1 ∧ T = fs ++ [X])) ∧ Below w.heap.size w w2 ∧ w2.ownsRow w.heap.size 34 3 (.slice (some ⟨g, 0, none⟩) n cp) n xs ∧ TermsOk w2 g xs T n) (fun _ _ i _ => 2 - (intOf i).toNat)
      case atStart => exact ⟨0, 0, G, cap, [], [], by omega, rfl, rfl, rfl, .inl ⟨rfl, rfl, rfl⟩, b1, o1, fun j hj => by omega⟩
      case round =>
        clear b1 o1 hcap
        obtain ⟨k, n, g, cp, xs, T, hk, rfl, rfl, hT, hx, hb, ho, ht⟩ := hrel
        have HT : Hid (T.length = n) := hT
        have HTT : Hid (TermsOk wr g xs T n) := ht
        have q := HQ.out.below hb
        have c0 : wr.cell? ⟨Q, 0, none⟩ = some (.slice ga ng gc) := q.cell 0
        have c1 : wr.cell? ⟨Q, 1, none⟩ = some (.slice (some ⟨F, 0, none⟩) 1 fcap) := q.cell 1
        obtain ⟨lo1, lo2, lo3⟩ := own_lo ho
        have sz := hb.size
        clear hT ht q
        rcases hx with ⟨rfl, rfl, rfl⟩ | ⟨rfl, rfl, rfl⟩ | ⟨rfl, rfl, rfl⟩
        · rcases Nat.eq_zero_or_pos ng with h0 | h0
          · have HNG : Hid (ng = 0) := h0
            clear h0
            have hs : ∀ w : World, Src Try.prog zi.size 23 (.slice ga ng gc) 0 [] w := fun w => by
              rw [HNG.out]
              cases ga with
              | none => exact Src.ofNil w Try.underlying23 gc
              | some a => exact Src.ofSlice w Try.underlying23 a 0 gc [] (by simp) (fun j u hu => by simp at hu) (fun u hu => by simp at hu)
            go_wp2_with (at_builtin; go_must (refine wpList_append_made rfl (.tmp 31) (.tmp 32) 23 23 rfl _ _ _ _ rfl rfl (run_append_nothing _ _ _ _ _ zi Try.underlying23 hi _ _ _ lo3 _ (hs _)) ?_))
            (try go_wp2)
            go_roundw
            case rel => exact ⟨1, 0, g, cp, xs, fs, by omega, rfl, rfl, HN.out.trans HNG.out, .inr (.inl ⟨rfl, HNG.out.symm, rfl⟩), hb, ho, fun j hj => by omega⟩
            case measure => simp [intOf]
          · obtain ⟨gb, go', rfl, -⟩ := HG.out 0 (by rw [HN.out]; exact h0)
            obtain ⟨ys, y1, y2, y3, y4⟩ := (HG.out.keep hb).cells ng (by rw [HN.out]; exact Nat.le_refl _)
            have HY2 : Hid (∀ j u, ys[j]? = some u → wr.cell? ((⟨gb, go', none⟩ : Addr).add j) = some u) := fun j u hu => by rw [addr_add]; exact y2 j u hu
            have HY3 : Hid _ := y3
            have HY1 : Hid (ys.length = ng * 3) := y1
            have HG2 := (HG.out.keep hb)
            obtain ⟨zs, z1, z2, z3, z4⟩ := HG.out.cells ng (by rw [HN.out]; exact Nat.le_refl _)
            have hxs : xs = [] := List.eq_nil_of_length_eq_zero (by have := ho.1; omega)
            subst hxs
            have HTG : Hid (TermsOk wr g ys fs ng) := fun j hj => by
              obtain ⟨a', c', ca, cc, e0, e1, e2, i1, i2, n1, n2⟩ := y4 wr.heap.size (Nat.le_refl _) j hj
              obtain ⟨b0, o0, e, a'', c'', ca', cc', k0, k1, k2, iC, iD⟩ := HG.out j (by rw [HN.out]; exact hj)
              simp only [Option.some.injEq, Addr.mk.injEq, and_true] at e
              obtain ⟨rfl, rfl⟩ := e
              have f0 := (hb.cell (p := ⟨gb, go' + j * 3, none⟩) (block_lt k0)).trans k0
              have f1 := (hb.cell (p := ⟨gb, go' + j * 3 + 1, none⟩) (block_lt k1)).trans k1
              have g0 := y2 (j * 3) _ e0
              have g1 := y2 (j * 3 + 1) _ e1
              rw [f0] at g0
              rw [show go' + (j * 3 + 1) = go' + j * 3 + 1 by omega, f1] at g1
              simp only [Option.some.injEq, Value.slice.injEq, true_and] at g0 g1
              obtain ⟨rfl, rfl⟩ := g0
              obtain ⟨rfl, rfl⟩ := g1
              exact ⟨a'', c'', ca', cc', e0, e1, e2, i1, i2, fun b o e => by have := iC.blt (by omega) b o e; omega, fun b o e => by have := iD.blt (by omega) b o e; omega⟩
            clear y1 y2 y3 y4 z1 z2 z3 z4 zs HG2
            go_wp2_with (at_builtin; go_must (refine wpList_append_lies _ rfl (.tmp 31) (.tmp 32) 23 rfl w.heap.size 34 zi _ 3 56 Try.underlying23 hi hz0 hz1 hz2 rfl (by decide) (.slice (some ⟨g, 0, none⟩) 0 cp) 0 [] rfl ho ⟨gb, go', none⟩ ng gc ys rfl HY1.out HY2.out HY3.out h0 (by unfold maxLen; omega) (by omega) sz _ rfl ?_); intro g2 cp2 w3 hown hgrow hat hlt1)
            have t3 : Touch (fun x => x = g) wr w3 := grown_touch hgrow
            have hat' : g2 = g ∨ wr.heap.size ≤ g2 := by
              rcases hat with h | h
              · have h' : some g = some g2 := h
                simp only [Option.some.injEq] at h'
                omega
              · omega
            have T3 := HTG.out.move t3 hat'
            have b3 := hb.trans (t3.below hb.size (fun k hk => by omega))
            have ow : w3.ownsRow w.heap.size 34 3 (.slice (some ⟨g2, 0, none⟩) ng cp2) ng ys := by
              have := hown
              rw [Nat.zero_add, List.nil_append] at this
              exact this
            clear hown hgrow hat t3 hat' HTG
            (try go_wp2)
            go_roundw
            case rel => exact ⟨1, ng, g2, cp2, ys, fs, by omega, rfl, rfl, HN.out, .inr (.inl ⟨rfl, rfl, rfl⟩), b3, ow, T3⟩
            case measure => simp [intOf]
        · obtain ⟨ys, y1, y2, y3, y4⟩ := (HX.out.keep hb).cells 1 (Nat.le_refl _)
          have HY2 : Hid (∀ j u, ys[j]? = some u → wr.cell? ((⟨F, 0, none⟩ : Addr).add j) = some u) := fun j u hu => by rw [addr_add]; exact y2 j u hu
          have HY3 : Hid _ := y3
          have HY1 : Hid (ys.length = 1 * 3) := y1
          have HTG : Hid (TermsOk wr g ys [X] 1) := fun j hj => by
            obtain ⟨a', c', ca, cc, e0, e1, e2, i1, i2, n1, n2⟩ := y4 wr.heap.size (Nat.le_refl _) j hj
            obtain ⟨b0, o0, e, a'', c'', ca', cc', k0, k1, k2, iC, iD⟩ := HX.out j hj
            simp only [Option.some.injEq, Addr.mk.injEq, and_true] at e
            obtain ⟨rfl, rfl⟩ := e
            have f0 := (hb.cell (p := ⟨F, 0 + j * 3, none⟩) (block_lt k0)).trans k0
            have f1 := (hb.cell (p := ⟨F, 0 + j * 3 + 1, none⟩) (block_lt k1)).trans k1
            have g0 := y2 (j * 3) _ e0
            have g1 := y2 (j * 3 + 1) _ e1
            rw [f0] at g0
            rw [show 0 + (j * 3 + 1) = 0 + j * 3 + 1 by omega, f1] at g1
            simp only [Option.some.injEq, Value.slice.injEq, true_and] at g0 g1
            obtain ⟨rfl, rfl⟩ := g0
            obtain ⟨rfl, rfl⟩ := g1
            exact ⟨a'', c'', ca', cc', e0, e1, e2, i1, i2, fun b o e => by have := iC.blt (by omega) b o e; omega, fun b o e => by have := iD.blt (by omega) b o e; omega⟩
          have HJ : Hid (TermsOk wr g (xs ++ ys) (T ++ [X]) (n + 1)) := HTT.out.join HTG.out ho.1 HT.out
          clear y1 y2 y3 y4
          go_wp2_with (at_builtin; go_must (refine wpList_append_lies _ rfl (.tmp 31) (.tmp 32) 23 rfl w.heap.size 34 zi _ 3 56 Try.underlying23 hi hz0 hz1 hz2 rfl (by decide) (.slice (some ⟨g, 0, none⟩) n cp) n xs rfl ho ⟨F, 0, none⟩ 1 fcap ys rfl HY1.out HY2.out HY3.out (by omega) (by unfold maxLen; omega) (by omega) sz _ rfl ?_); intro g2 cp2 w3 hown hgrow hat hlt1)
          have t3 : Touch (fun x => x = g) wr w3 := grown_touch hgrow
          have hat' : g2 = g ∨ wr.heap.size ≤ g2 := by
            rcases hat with h | h
            · have h' : some g = some g2 := h
              simp only [Option.some.injEq] at h'
              omega
            · omega
          have T3 := HJ.out.move t3 hat'
          have b3 := hb.trans (t3.below hb.size (fun k hk => by omega))
          clear hgrow hat t3 hat' HTG HJ
          (try go_wp2)
          go_roundw
          case rel => exact ⟨2, _, g2, cp2, _, T ++ [X], by omega, rfl, rfl, by rw [List.length_append, HT.out]; rfl, .inr (.inr ⟨rfl, rfl, rfl⟩), b3, hown, T3⟩
          case measure => simp [intOf]
        · go_wp2
          go_ret
          exact ⟨g, cp, rfl, hb, HTT.out.forms HT.out ho⟩

end Go.Proofs.Ytjggppnffkcmbaa
namespace Go.Proofs.Ytjggppnffkcmbaa
open Go.RowKit Go.Deep
set_option linter.unusedVariables false
set_option maxRecDepth 100000

/-- A block that holds no number holds no form. -/
theorem FormsAt.past2 {W W' : World} {X : Nat} {a : Option Addr} {fs : List Frm} (h : FormsAt W a fs) (hx : ∀ o q, W.cell? ⟨X, o, none⟩ ≠ some (.int .i64 q)) (t : Touch (fun z => z = X) W W') : FormsAt W' a fs := fun i hi => by
  obtain ⟨b, off, e, a', c', ca, cc, c0, c1, c2, iC, iD⟩ := h i hi
  have hne : b ≠ X := fun e2 => by subst e2; exact hx _ _ c2
  have hb := block_lt c0
  refine ⟨b, off, e, a', c', ca, cc, ?_, ?_, ?_, iC.past hx t, iD.past hx t⟩
  · simp only [World.cell?] at c0 ⊢; rw [t.block b hb hne]; exact c0
  · simp only [World.cell?] at c1 ⊢; rw [t.block b hb hne]; exact c1
  · simp only [World.cell?] at c2 ⊢; rw [t.block b hb hne]; exact c2

set_option maxHeartbeats 3200000 in
theorem iguard_any (X : Frm) (fs : List Frm) (ga : Option Addr) (ng gc : Nat) (pa : Option Addr) (cp : Nat) (ta : Option Addr) (nt tc : Nat) (st : Bool) (fa : Option Addr) (fc : Nat) (fd : Option Addr) (fe : Nat) (w : World) (hl : fs.length = ng) (hn : ng ≤ 100) (hG : FormsAt w ga fs) (hX1 : Ints w fa 3 X.1) (hX2 : Ints w fd 2 X.2.1) :
    Calls Try.prog 137 #[wayV ga ng gc pa cp ta nt tc st, formV fa 3 fc fd 2 fe X.2.2] w fun e w' => ∃ G cG, e = .returned (wayV (some ⟨G, 0, none⟩) (ng + 1) cG pa cp ta nt tc st) ∧ Below w.heap.size w w' ∧ FormsAt w' (some ⟨G, 0, none⟩) (fs ++ [X]) := by
  have HL : Hid (fs.length = ng) := hl
  clear hl
  have B3 : Below w.heap.size w (((w.alloc (.cells #[.slice ga ng gc, .slice pa 3 cp, .slice ta nt tc, .bool st] 143)).alloc (.cells #[.slice fa 3 fc, .slice fd 2 fe, .int .i64 X.2.2] 34)).alloc (.cells #[.slice none 0 0, .slice none 0 0, .slice none 0 0, .bool false] 143)) := (((Below.refl _ _).alloc (Nat.le_refl _) _).alloc (by simp) _).alloc (by simp; omega) _
  have B5 : Below w.heap.size w (((((w.alloc (.cells #[.slice ga ng gc, .slice pa 3 cp, .slice ta nt tc, .bool st] 143)).alloc (.cells #[.slice fa 3 fc, .slice fd 2 fe, .int .i64 X.2.2] 34)).alloc (.cells #[.slice none 0 0, .slice none 0 0, .slice none 0 0, .bool false] 143)).alloc (.cells #[.slice fa 3 fc, .slice fd 2 fe, .int .i64 X.2.2] 34)).alloc (.cells #[.slice ga ng gc, .slice (some ⟨w.heap.size + 1 + 1 + 1, 0, none⟩) 1 1] 23)) := (B3.alloc B3.size _).alloc (B3.alloc B3.size _).size _
  have q0 := ((((Cel.new w [.slice ga ng gc, .slice pa 3 cp, .slice ta nt tc, .bool st] 143).alloc (.cells #[.slice fa 3 fc, .slice fd 2 fe, .int .i64 X.2.2] 34)).alloc (.cells #[.slice none 0 0, .slice none 0 0, .slice none 0 0, .bool false] 143)).alloc (.cells #[.slice fa 3 fc, .slice fd 2 fe, .int .i64 X.2.2] 34)).alloc (.cells #[.slice ga ng gc, .slice (some ⟨w.heap.size + 1 + 1 + 1, 0, none⟩) 1 1] 23)
  have r0 := ((Cel.new (((w.alloc (.cells #[.slice ga ng gc, .slice pa 3 cp, .slice ta nt tc, .bool st] 143)).alloc (.cells #[.slice fa 3 fc, .slice fd 2 fe, .int .i64 X.2.2] 34))) [.slice none 0 0, .slice none 0 0, .slice none 0 0, .bool false] 143).alloc (.cells #[.slice fa 3 fc, .slice fd 2 fe, .int .i64 X.2.2] 34)).alloc (.cells #[.slice ga ng gc, .slice (some ⟨w.heap.size + 1 + 1 + 1, 0, none⟩) 1 1] 23)
  have f0 := (Cel.new ((((w.alloc (.cells #[.slice ga ng gc, .slice pa 3 cp, .slice ta nt tc, .bool st] 143)).alloc (.cells #[.slice fa 3 fc, .slice fd 2 fe, .int .i64 X.2.2] 34)).alloc (.cells #[.slice none 0 0, .slice none 0 0, .slice none 0 0, .bool false] 143))) [.slice fa 3 fc, .slice fd 2 fe, .int .i64 X.2.2] 34).alloc (.cells #[.slice ga ng gc, .slice (some ⟨w.heap.size + 1 + 1 + 1, 0, none⟩) 1 1] 23)
  have s0 := Cel.new (((((w.alloc (.cells #[.slice ga ng gc, .slice pa 3 cp, .slice ta nt tc, .bool st] 143)).alloc (.cells #[.slice fa 3 fc, .slice fd 2 fe, .int .i64 X.2.2] 34)).alloc (.cells #[.slice none 0 0, .slice none 0 0, .slice none 0 0, .bool false] 143)).alloc (.cells #[.slice fa 3 fc, .slice fd 2 fe, .int .i64 X.2.2] 34))) [.slice ga ng gc, .slice (some ⟨w.heap.size + 1 + 1 + 1, 0, none⟩) 1 1] 23
  simp only [World.size_alloc] at r0 f0 s0
  have hF : FormsAt ((((((w.alloc (.cells #[.slice ga ng gc, .slice pa 3 cp, .slice ta nt tc, .bool st] 143)).alloc (.cells #[.slice fa 3 fc, .slice fd 2 fe, .int .i64 X.2.2] 34)).alloc (.cells #[.slice none 0 0, .slice none 0 0, .slice none 0 0, .bool false] 143)).alloc (.cells #[.slice fa 3 fc, .slice fd 2 fe, .int .i64 X.2.2] 34)).alloc (.cells #[.slice ga ng gc, .slice (some ⟨w.heap.size + 1 + 1 + 1, 0, none⟩) 1 1] 23))) (some ⟨w.heap.size + 1 + 1 + 1, 0, none⟩) [X] := fun i hi => by
    simp only [List.length_cons, List.length_nil] at hi
    obtain rfl : i = 0 := by omega
    exact ⟨_, 0, rfl, fa, fd, fc, fe, f0.cell 0, f0.cell 1, f0.cell 2, hX1.below B5, hX2.below B5⟩
  have hG5 := hG.keep B5
  go_enter Try.func137, Try.ntmps137
  go_wp2_with fail
  refine (iconcat_any _ _ _ _ fs _ _ X _ s0 HL.out hn hG5 hF).mono ?_
  rintro e w1 ⟨G, cG, rfl, b1, F1⟩
  have B1 := B5.trans (b1.mono B5.size)
  have q1 := q0.below b1
  have r1 := r0.below b1
  have lq := q1.lt
  have lr := r1.lt
  clear q0 r0 f0 s0 hF hG5 b1
  obtain ⟨c0, c1, c2, c3⟩ := q1.four
  have y0 := q1.free 0
  have T1 : Touch (fun k => k = w.heap.size) w1 (w1.setCell ⟨w.heap.size, 0, none⟩ (.slice (some ⟨G, 0, none⟩) (ng + 1) cG)) := Touch.setCell (S := fun k => k = w.heap.size) (Touch.refl _ _) rfl _
  have q2 := q1.set 0 (.slice (some ⟨G, 0, none⟩) (ng + 1) cG)
  simp only [List.set_cons_zero] at q2
  have r2 := r1.touch T1 (fun h => by have := h; omega)
  have F2 := F1.past2 (boxNo q1) T1
  have B2 := B1.trans (T1.below B1.size (fun k hk => by omega))
  go_upto_region 2 with fail
  clear q1 r1 F1 T1 B1 c0 c1 c2 c3 y0
  generalize (w1.setCell ⟨w.heap.size, 0, none⟩ (.slice (some ⟨G, 0, none⟩) (ng + 1) cG)) = w2 at *
  obtain ⟨c0, c1, c2, c3⟩ := q2.four
  obtain ⟨l0, l1, l2, l3⟩ := r2.four
  have fy0 := r2.free 0
  have fy1 := r2.free 1
  have fy2 := r2.free 2
  have fy3 := r2.free 3
  obtain ⟨x', T'⟩ := put4 r2 rfl (.slice (some ⟨G, 0, none⟩) (ng + 1) cG) (.slice pa 3 cp) (.slice ta nt tc) (.bool st)
  have F3 := F2.past2 (boxNo r2) T'
  have BB := B2.trans (T'.below B2.size (fun k hk => by omega))
  obtain ⟨e0, e1, e2, e3⟩ := x'.four
  have lr2 := r2.lt
  clear F2 r2 T' x' q2
  go_wp2
  refine bodyPost_ret (v := wayV (some ⟨G, 0, none⟩) (ng + 1) cG pa cp ta nt tc st) (by simp [results, Try.results137, go_sem, e0, e1, e2, e3]) rfl ?_
  exact ⟨G, cG, rfl, BB, F3⟩

set_option maxHeartbeats 3200000 in
theorem itell_any (X : Frm) (fs : List Frm) (ga : Option Addr) (ng gc : Nat) (pa : Option Addr) (cp : Nat) (ta : Option Addr) (nt tc : Nat) (st : Bool) (fa : Option Addr) (fc : Nat) (fd : Option Addr) (fe : Nat) (w : World) (hl : fs.length = nt) (hn : nt ≤ 100) (hG : FormsAt w ta fs) (hX1 : Ints w fa 3 X.1) (hX2 : Ints w fd 2 X.2.1) :
    Calls Try.prog 140 #[wayV ga ng gc pa cp ta nt tc st, formV fa 3 fc fd 2 fe X.2.2] w fun e w' => ∃ G cG, e = .returned (wayV ga ng gc pa cp (some ⟨G, 0, none⟩) (nt + 1) cG st) ∧ Below w.heap.size w w' ∧ FormsAt w' (some ⟨G, 0, none⟩) (fs ++ [X]) := by
  have HL : Hid (fs.length = nt) := hl
  clear hl
  have B3 : Below w.heap.size w (((w.alloc (.cells #[.slice ga ng gc, .slice pa 3 cp, .slice ta nt tc, .bool st] 143)).alloc (.cells #[.slice fa 3 fc, .slice fd 2 fe, .int .i64 X.2.2] 34)).alloc (.cells #[.slice none 0 0, .slice none 0 0, .slice none 0 0, .bool false] 143)) := (((Below.refl _ _).alloc (Nat.le_refl _) _).alloc (by simp) _).alloc (by simp; omega) _
  have B5 : Below w.heap.size w (((((w.alloc (.cells #[.slice ga ng gc, .slice pa 3 cp, .slice ta nt tc, .bool st] 143)).alloc (.cells #[.slice fa 3 fc, .slice fd 2 fe, .int .i64 X.2.2] 34)).alloc (.cells #[.slice none 0 0, .slice none 0 0, .slice none 0 0, .bool false] 143)).alloc (.cells #[.slice fa 3 fc, .slice fd 2 fe, .int .i64 X.2.2] 34)).alloc (.cells #[.slice ta nt tc, .slice (some ⟨w.heap.size + 1 + 1 + 1, 0, none⟩) 1 1] 23)) := (B3.alloc B3.size _).alloc (B3.alloc B3.size _).size _
  have q0 := ((((Cel.new w [.slice ga ng gc, .slice pa 3 cp, .slice ta nt tc, .bool st] 143).alloc (.cells #[.slice fa 3 fc, .slice fd 2 fe, .int .i64 X.2.2] 34)).alloc (.cells #[.slice none 0 0, .slice none 0 0, .slice none 0 0, .bool false] 143)).alloc (.cells #[.slice fa 3 fc, .slice fd 2 fe, .int .i64 X.2.2] 34)).alloc (.cells #[.slice ta nt tc, .slice (some ⟨w.heap.size + 1 + 1 + 1, 0, none⟩) 1 1] 23)
  have r0 := ((Cel.new (((w.alloc (.cells #[.slice ga ng gc, .slice pa 3 cp, .slice ta nt tc, .bool st] 143)).alloc (.cells #[.slice fa 3 fc, .slice fd 2 fe, .int .i64 X.2.2] 34))) [.slice none 0 0, .slice none 0 0, .slice none 0 0, .bool false] 143).alloc (.cells #[.slice fa 3 fc, .slice fd 2 fe, .int .i64 X.2.2] 34)).alloc (.cells #[.slice ta nt tc, .slice (some ⟨w.heap.size + 1 + 1 + 1, 0, none⟩) 1 1] 23)
  have f0 := (Cel.new ((((w.alloc (.cells #[.slice ga ng gc, .slice pa 3 cp, .slice ta nt tc, .bool st] 143)).alloc (.cells #[.slice fa 3 fc, .slice fd 2 fe, .int .i64 X.2.2] 34)).alloc (.cells #[.slice none 0 0, .slice none 0 0, .slice none 0 0, .bool false] 143))) [.slice fa 3 fc, .slice fd 2 fe, .int .i64 X.2.2] 34).alloc (.cells #[.slice ta nt tc, .slice (some ⟨w.heap.size + 1 + 1 + 1, 0, none⟩) 1 1] 23)
  have s0 := Cel.new (((((w.alloc (.cells #[.slice ga ng gc, .slice pa 3 cp, .slice ta nt tc, .bool st] 143)).alloc (.cells #[.slice fa 3 fc, .slice fd 2 fe, .int .i64 X.2.2] 34)).alloc (.cells #[.slice none 0 0, .slice none 0 0, .slice none 0 0, .bool false] 143)).alloc (.cells #[.slice fa 3 fc, .slice fd 2 fe, .int .i64 X.2.2] 34))) [.slice ta nt tc, .slice (some ⟨w.heap.size + 1 + 1 + 1, 0, none⟩) 1 1] 23
  simp only [World.size_alloc] at r0 f0 s0
  have hF : FormsAt ((((((w.alloc (.cells #[.slice ga ng gc, .slice pa 3 cp, .slice ta nt tc, .bool st] 143)).alloc (.cells #[.slice fa 3 fc, .slice fd 2 fe, .int .i64 X.2.2] 34)).alloc (.cells #[.slice none 0 0, .slice none 0 0, .slice none 0 0, .bool false] 143)).alloc (.cells #[.slice fa 3 fc, .slice fd 2 fe, .int .i64 X.2.2] 34)).alloc (.cells #[.slice ta nt tc, .slice (some ⟨w.heap.size + 1 + 1 + 1, 0, none⟩) 1 1] 23))) (some ⟨w.heap.size + 1 + 1 + 1, 0, none⟩) [X] := fun i hi => by
    simp only [List.length_cons, List.length_nil] at hi
    obtain rfl : i = 0 := by omega
    exact ⟨_, 0, rfl, fa, fd, fc, fe, f0.cell 0, f0.cell 1, f0.cell 2, hX1.below B5, hX2.below B5⟩
  have hG5 := hG.keep B5
  go_enter Try.func140, Try.ntmps140
  go_wp2_with fail
  refine (iconcat_any _ _ _ _ fs _ _ X _ s0 HL.out hn hG5 hF).mono ?_
  rintro e w1 ⟨G, cG, rfl, b1, F1⟩
  have B1 := B5.trans (b1.mono B5.size)
  have q1 := q0.below b1
  have r1 := r0.below b1
  have lq := q1.lt
  have lr := r1.lt
  clear q0 r0 f0 s0 hF hG5 b1
  obtain ⟨c0, c1, c2, c3⟩ := q1.four
  have y0 := q1.free 2
  have T1 : Touch (fun k => k = w.heap.size) w1 (w1.setCell ⟨w.heap.size, 2, none⟩ (.slice (some ⟨G, 0, none⟩) (nt + 1) cG)) := Touch.setCell (S := fun k => k = w.heap.size) (Touch.refl _ _) rfl _
  have q2 := q1.set 2 (.slice (some ⟨G, 0, none⟩) (nt + 1) cG)
  simp only [List.set_cons_zero, List.set_cons_succ] at q2
  have r2 := r1.touch T1 (fun h => by have := h; omega)
  have F2 := F1.past2 (boxNo q1) T1
  have B2 := B1.trans (T1.below B1.size (fun k hk => by omega))
  go_upto_region 2 with fail
  clear q1 r1 F1 T1 B1 c0 c1 c2 c3 y0
  generalize (w1.setCell ⟨w.heap.size, 2, none⟩ (.slice (some ⟨G, 0, none⟩) (nt + 1) cG)) = w2 at *
  obtain ⟨c0, c1, c2, c3⟩ := q2.four
  obtain ⟨l0, l1, l2, l3⟩ := r2.four
  have fy0 := r2.free 0
  have fy1 := r2.free 1
  have fy2 := r2.free 2
  have fy3 := r2.free 3
  obtain ⟨x', T'⟩ := put4 r2 rfl (.slice ga ng gc) (.slice pa 3 cp) (.slice (some ⟨G, 0, none⟩) (nt + 1) cG) (.bool st)
  have F3 := F2.past2 (boxNo r2) T'
  have BB := B2.trans (T'.below B2.size (fun k hk => by omega))
  obtain ⟨e0, e1, e2, e3⟩ := x'.four
  have lr2 := r2.lt
  clear F2 r2 T' x' q2
  go_wp2
  refine bodyPost_ret (v := wayV ga ng gc pa cp (some ⟨G, 0, none⟩) (nt + 1) cG st) (by simp [results, Try.results140, go_sem, e0, e1, e2, e3]) rfl ?_
  exact ⟨G, cG, rfl, BB, F3⟩

end Go.Proofs.Ytjggppnffkcmbaa
namespace Go.Proofs.Ytjggppnffkcmbaa
open Go.RowKit Go.Deep
set_option linter.unusedVariables false
set_option maxRecDepth 100000

/-- A block of just three bools. -/
def OwnBB (W : World) (G : Nat) (f : Nat → Bool) : Prop := Cel W G [.bool (f 0), .bool (f 1), .bool (f 2)] 4
theorem OwnBB.at {W : World} {G : Nat} {f : Nat → Bool} (h : OwnBB W G f) {v : Nat} (hv : v < 3) : W.cell? ⟨G, v, none⟩ = some (.bool (f v)) ∧ W.frozen? ⟨G, v, none⟩ = false := by
  refine ⟨(Cel.cell h v).trans ?_, Cel.free h v⟩
  match v, hv with
  | 0, _ => rfl
  | 1, _ => rfl
  | 2, _ => rfl
theorem OwnBB.no {W : World} {G : Nat} {f : Nat → Bool} (h : OwnBB W G f) : ∀ o q, W.cell? ⟨G, o, none⟩ ≠ some (.int .i64 q) := fun o q e => by
  have := Cel.cell h o
  rw [e] at this
  match o with
  | 0 => simp at this
  | 1 => simp at this
  | 2 => simp at this
  | o + 3 => simp at this
theorem OwnBB.set {W : World} {G : Nat} {f : Nat → Bool} (h : OwnBB W G f) {u : Nat} (hu : u < 3) (x : Bool) : OwnBB (W.setCell ⟨G, u, none⟩ (.bool x)) G (fun v => if v = u then x else f v) := by
  have := Cel.set h u (.bool x)
  unfold OwnBB
  match u, hu with
  | 0, _ => simpa using this
  | 1, _ => simpa using this
  | 2, _ => simpa using this
theorem OwnBB.ext {W : World} {G : Nat} {f g : Nat → Bool} (h : OwnBB W G f) (e : ∀ v, v < 3 → f v = g v) : OwnBB W G g := by
  unfold OwnBB at *
  rw [← e 0 (by omega), ← e 1 (by omega), ← e 2 (by omega)]; exact h
theorem OwnBB.below {W W' : World} {G : Nat} {f : Nat → Bool} (h : OwnBB W G f) (b : Below W.heap.size W W') : OwnBB W' G f := Cel.below h b

set_option maxHeartbeats 3200000 in
theorem imarkpots_any (G cG : Nat) (r : Nat → Bool) (ad : Option Addr) (N cap : Nat) (fs : List Frm) (w : World) (hO : OwnBB w G r) (hN : fs.length = N) (hF : FormsAt w ad fs) (hfit : ∀ k, k < N → fitX 10000000 (fs[k]?.getD ([], [], 0))) (hN1 : N ≤ 1048576) :
    Calls Try.prog 91 #[.slice (some ⟨G, 0, none⟩) 3 cG, .slice ad N cap] w fun e w' => (∃ v, e = .returned v) ∧ Touch (fun k => k = G) w w' ∧ OwnBB w' G (readsF r fs) := by
  have HN : Hid (fs.length = N) := hN
  have HF : Hid (FormsAt w ad fs) := hF
  have HFT : Hid _ := hfit
  have HO : Hid (OwnBB w G r) := hO
  have lG0 := Cel.lt hO
  clear hN hF hfit hO
  go_enter Try.func91, Try.ntmps91
  go_wp2_with fail
  go_loopw [5, 6, 7, 10] (fun _ _ _ i wr => ∃ k : Nat, k ≤ N ∧ i = .int .i64 k ∧ Touch (fun k => k = G) w wr ∧ OwnBB wr G (readsF r (fs.take k))) (fun _ _ _ i _ => N - (intOf i).toNat)
  case atStart => exact ⟨0, Nat.zero_le _, rfl, Touch.refl _ _, HO.out.ext (fun v _ => by simp [readsF])⟩
  case round =>
    obtain ⟨k, hk, rfl, ht, o⟩ := hrel
    by_cases hlt : k < N
    · have hlt' : (k : Int) < N := by omega
      have hkl : k < fs.length := by rw [HN.out]; exact hlt
      have HS : Hid (∀ v, readsF r (fs.take (k + 1)) v = (readsF r (fs.take k) v || hasP (fs[k]?.getD ([], [], 0)) v)) := fun v => readsF_snoc r fs k hkl v
      have hfit := HFT.out k hlt
      obtain ⟨b, off, rfl, a', c', ca, cc, c0, c1, c2, iC, iD⟩ := (HF.out.past2 HO.out.no ht) k hkl
      generalize fs[k]?.getD ([], [], 0) = q at *
      obtain ⟨qC, qD, qK⟩ := q
      simp only at c2 iC iD
      have A : Below wr.heap.size wr (wr.alloc (.cells #[.slice a' 3 ca, .slice c' 2 cc, .int .i64 qK] 34)) := (Below.refl _ _).alloc (Nat.le_refl _) _
      have HIC : Hid (Ints (wr.alloc (.cells #[.slice a' 3 ca, .slice c' 2 cc, .int .i64 qK] 34)) a' 3 qC) := iC.below A
      have oA := o.below A
      have HNO : Hid _ := oA.no
      have o' : OwnBB (wr.alloc (.cells #[.slice a' 3 ca, .slice c' 2 cc, .int .i64 qK] 34)) G (fun v => if v < 0 then readsF r (fs.take (k + 1)) v else readsF r (fs.take k) v) := oA.ext (fun v hv => by simp)
      have tA : Touch (fun k => k = G) w (wr.alloc (.cells #[.slice a' 3 ca, .slice c' 2 cc, .int .i64 qK] 34)) := ht.trans (Touch.of A)
      have HTA : Hid _ := tA
      clear o iC iD oA tA A ht
      go_wp2_with fail
      obtain ⟨W1, hW1⟩ : ∃ W1, W1 = wr.alloc (.cells #[.slice a' 3 ca, .slice c' 2 cc, .int .i64 qK] 34) := ⟨_, rfl⟩
      rw [← hW1] at HIC HNO o' HTA ⊢
      clear hW1 c0 c1 c2
      go_loopw [6, 7, 17] (fun _ _ v w2 => ∃ u : Nat, u ≤ 3 ∧ v = .int .i64 u ∧ Touch (fun k => k = G) W1 w2 ∧ OwnBB w2 G (fun v => if v < u then readsF r (fs.take (k + 1)) v else readsF r (fs.take k) v)) (fun _ _ v _ => 3 - (intOf v).toNat)
      case atStart => exact ⟨0, by omega, rfl, Touch.refl _ _, o'⟩
      case round =>
        clear o'
        obtain ⟨u, hu, rfl, t, o⟩ := hrel
        by_cases hu3 : u < 3
        · have hu' : (u : Int) < 3 := by omega
          obtain ⟨cb, co, rfl, cv⟩ := (HIC.out.past HNO.out t).2 u hu3
          have hval : qC.getD u 0 = qC[u]?.getD 0 := by rw [List.getD_eq_getElem?_getD]
          rw [hval] at cv
          have HH : Hid (hasP (qC, qD, qK) u = (qC[u]?.getD 0 != 0)) := rfl
          generalize qC[u]?.getD 0 = z at *
          obtain ⟨g0, fz⟩ := o.at hu3
          rw [if_neg (Nat.lt_irrefl u)] at g0
          obtain ⟨bo, hbo⟩ : ∃ bo, bo = readsF r (fs.take k) u := ⟨_, rfl⟩
          have HBO : Hid _ := hbo
          rw [← hbo] at g0
          have o2 := o.set hu3 (bo || (z != 0))
          have O2 : Hid (OwnBB (wr.setCell ⟨G, u, none⟩ (.bool (bo || (z != 0)))) G (fun v => if v < u + 1 then readsF r (fs.take (k + 1)) v else readsF r (fs.take k) v)) := o2.ext (fun v hv => by
            by_cases e : v = u
            · subst e; simp only [if_true, Nat.lt_succ_self]; rw [HS.out, HH.out, HBO.out]
            · simp only [e, if_false]
              by_cases e2 : v < u
              · rw [if_pos e2, if_pos (by omega)]
              · rw [if_neg e2, if_neg (by omega)])
          have T2 : Touch (fun k => k = G) W1 (wr.setCell ⟨G, u, none⟩ (.bool (bo || (z != 0)))) := t.setCell (B := G) rfl _
          clear o2 o hbo t
          cases bo with
          | true =>
            simp only [Bool.true_or] at O2 T2
            go_wp2
            go_roundw
            case rel => exact ⟨u + 1, by omega, by go_num, T2, O2.out⟩
            case measure => simp [intOf]; omega
          | false =>
            simp only [Bool.false_or] at O2 T2
            by_cases hz : z = 0
            · have hz' : (z != 0) = false := by simp [hz]
              rw [hz'] at O2 T2
              go_wp2
              go_roundw
              case rel => exact ⟨u + 1, by omega, by go_num, T2, O2.out⟩
              case measure => simp [intOf]; omega
            · have hz' : (z != 0) = true := by simp [hz]
              rw [hz'] at O2 T2
              go_wp2
              go_roundw
              case rel => exact ⟨u + 1, by omega, by go_num, T2, O2.out⟩
              case measure => simp [intOf]; omega
        · obtain rfl : u = 3 := by omega
          have O3 : Hid (OwnBB wr G (readsF r (fs.take (k + 1)))) := o.ext (fun v hv => by simp only [hv, if_true])
          have T3 := HTA.out.trans t
          clear o t
          go_wp2
          go_roundw
          case rel => exact ⟨k + 1, by omega, by go_num, T3, O3.out⟩
          case measure => simp [intOf]; omega
    · obtain rfl : k = N := by omega
      have O3 : OwnBB wr G (readsF r fs) := by
        have : fs.take k = fs := List.take_of_length_le (by rw [HN.out]; exact Nat.le_refl _)
        rw [this] at o; exact o
      go_wp2
      go_end0
      exact ⟨⟨_, rfl⟩, ht, O3⟩

end Go.Proofs.Ytjggppnffkcmbaa
namespace Go.Proofs.Ytjggppnffkcmbaa
open Go.RowKit
set_option linter.unusedVariables false

section
variable {F : Fence} {n : Nat} {P : Program} {ops : Array Oper} {Q : Exit → Act → World → Prop} {md : Region.Mode} {S : World → Prop}

/-- What an operation leaves of an activation: its own slot alone, and calls put off. -/
def Left (o : Oper) (a a' : Act) : Prop := ∃ u ds, a' = ({ a with defers := ds } : Act).put o.dst u
theorem wpIn_left {o : Oper} {a : Act} {w : World} {K : Act → World → Prop} (h : o.wpIn F n P a w K Q) : o.wpIn F n P a w (fun a' w' => Left o a a' ∧ K a' w') Q := by
  unfold Oper.wpIn at *
  refine ⟨h.1, ?_⟩
  have h := h.2
  generalize (o.semAt F.round a.eval).run P w = r at *
  cases r with
  | ok x w' =>
    cases x <;> simp only [Oper.uponIn] at h ⊢ <;>
      first
        | exact ⟨⟨_, _, rfl⟩, h⟩
        | exact ⟨h.1, CallsIn.mono h.2 (fun e w'' he => by cases e <;> first | exact ⟨⟨_, _, rfl⟩, he⟩ | exact he)⟩
        | exact ⟨h.1, RowsIn.mono h.2 (fun _ _ he => ⟨⟨_, _, rfl⟩, he⟩)⟩
        | exact ⟨h.1, RoundIn.mono h.2 (fun e w'' he => by cases e <;> first | exact ⟨⟨_, _, rfl⟩, he⟩ | exact he)⟩
        | exact h
  | halt x w' => cases x <;> simp only [Oper.uponIn] at h ⊢ <;> exact h
theorem wpOpIn_left {j : Nat} {oj : Oper} (hj : ops[j]? = some oj) {a : Act} {w : World} {K : Act → World → Prop} (h : wpOpIn F n P ops Q j K a w) : wpOpIn F n P ops Q j (fun a' w' => Left oj a a' ∧ K a' w') a w := by
  unfold wpOpIn at *
  simp only [hj] at *
  split
  · rename_i hw
    simp only [hw, if_true] at h
    exact wpIn_left h
  · rename_i hw
    simp only [hw] at h
    exact ⟨h.1, ⟨undef, a.defers, rfl⟩, h.2⟩

/-- Yields where S holds, and makes no call. -/
def YieldsS (P : Program) (ops : Array Oper) (S : World → Prop) (o : Oper) (v : Value) (a : Act) : Prop := YieldsIf P ops S o v a ∧ ∀ w, o.about P w a.eval = none
theorem YieldsS.left {oi oj : Oper} {v : Value} {a a' : Act} (hy : YieldsS P ops S oi v a) (hap : oi.apart ops oj = true) (hsi : ∀ cs b, oi.op ≠ .select cs b) (h : Left oj a a') : YieldsS P ops S oi v a' := by
  obtain ⟨u, ds, rfl⟩ := h
  obtain ⟨h1, h2, h3⟩ := Oper.apart_spec hap
  refine ⟨YieldsIf.of_same (a := ({ a with defers := ds } : Act)) (YieldsIf.of_same hy.1 rfl rfl) (execOp_put oi hsi _ oj.dst u h3) (wanted_put oi _ oj.dst u h3), fun w => ?_⟩
  rw [about_put oi w _ oj.dst u h3]
  exact hy.2 w
theorem YieldsS.wpOpIn {i : Nat} {o : Oper} {v : Value} {a : Act} (hro : F.round = none) (hi : ops[i]? = some o) (hy : YieldsS P ops S o v a) {K : Act → World → Prop} {w : World} (hS : S w) (h : K (a.put o.dst v) w) : wpOpIn F n P ops Q i K a w := by
  unfold Go.wpOpIn
  simp only [hi]
  have hab : ∀ f, o.about P w a.eval = some f → F.fn f := fun f hf => by rw [hy.2 w] at hf; cases hf
  rcases hy.1 with ⟨hw, hv⟩ | ⟨hw, rfl⟩
  · simp only [hw, if_true, Oper.wpIn, hro, Oper.semAt_none, hv w hS, Oper.uponIn]; exact ⟨hab, h⟩
  · simp only [hw, Bool.false_eq_true, if_false]; exact ⟨hab, h⟩
/-- The same slot, filled by a constant. -/
def still (oi : Oper) (v : Value) : Oper := { oi with op := .move (.const v), guard := none, after := #[] }
theorem still_yields (oi : Oper) (v : Value) (a : Act) : YieldsFenced P ops (still oi v) v a := by
  refine ⟨.inl ⟨rfl, fun w => ?_⟩, fun w => rfl⟩
  simp [still, execOp, Act.eval]

theorem still_apart {oi oj : Oper} {v : Value} (h : oi.apart ops oj = true) : (still oi v).apart ops oj = true := by
  simp only [Oper.apart, Bool.and_eq_true] at h ⊢
  refine ⟨h.1, ?_⟩
  cases oj.dst with
  | none => rfl
  | some d => simp [still, Oper.looksAt, Op.operands]
theorem wpOpIn_putS {j : Nat} {oi oj : Oper} {v : Value} (hro : F.round = none) (hj : ops[j]? = some oj) (hap : oi.apart ops oj = true)
    (hsi : ∀ cs b, oi.op ≠ .select cs b) (hsj : ∀ cs b, oj.op ≠ .select cs b)
    (hQ : ∀ c a w, Q (.panic c) (a.put oi.dst v) w → Q (.panic c) a w) {K : Act → World → Prop} {a : Act} {w : World}
    (hy : YieldsS P ops S oi v a) (h : wpOpIn F n P ops Q j K (a.put oi.dst v) w) :
    wpOpIn F n P ops Q j (fun a' w' => YieldsS P ops S oi v a' ∧ K (a'.put oi.dst v) w') a w :=
  wpOpIn_mono (fun a' w' hh => ⟨hy.left hap hsi hh.1, hh.2.2⟩) (wpOpIn_left hj (wpOpIn_put (oi := still oi v) hro hj (still_apart hap) (fun cs b e => by cases e) hsj hQ (still_yields oi v a) h))

/-- Whatever order is picked from here on; S holds behind every operation. -/
def wpAnyS (F : Fence) (n : Nat) (P : Program) (md : Region.Mode) (ops : Array Oper) (Q : Exit → Act → World → Prop) (S : World → Prop) : Nat → Array Bool → Act → World → Prop
  | 0, listed, a, w => Region.ready md ops listed = [] ∧ Q .normal a w
  | fuel + 1, listed, a, w =>
    (Region.ready md ops listed = [] → Q .normal a w) ∧
    ∀ i ∈ Region.ready md ops listed, wpOpIn F n P ops Q i (fun a' w' => S w' ∧ wpAnyS F n P md ops Q S fuel (listed.setIfInBounds i true) a' w') a w
theorem wpAnyIn_of_S : ∀ (fuel : Nat) (listed : Array Bool) (a : Act) (w : World), wpAnyS F n P md ops Q S fuel listed a w → wpAnyIn F n P md ops Q fuel listed a w
  | 0, _, _, _, h => h
  | fuel + 1, _, _, _, h => ⟨h.1, fun i hi => wpOpIn_mono (fun a' w' h' => wpAnyIn_of_S fuel _ a' w' h'.2) (h.2 i hi)⟩
theorem wpAnyS_first {i : Nat} {oi : Oper} {v : Value} (hro : F.round = none) (hi : ops[i]? = some oi) (hsel : ∀ (j : Nat) (o : Oper) cs b, ops[j]? = some o → o.op ≠ .select cs b)
    (hQ : ∀ c a w, Q (.panic c) (a.put oi.dst v) w → Q (.panic c) a w) :
    ∀ (fuel : Nat) (listed : Array Bool) (a : Act) (w : World),
      (∀ j oj, ops[j]? = some oj → j ≠ i → listed.getD j true = false → (∀ e ∈ oj.after, Region.binds md e = true → e.on ≠ i) → oi.apart ops oj = true) →
      i ∈ Region.ready md ops listed → YieldsS P ops S oi v a → S w →
      wpAnyS F n P md ops Q S fuel (listed.setIfInBounds i true) (a.put oi.dst v) w → wpAnyS F n P md ops Q S (fuel + 1) listed a w := by
  intro fuel
  induction fuel with
  | zero =>
    intro listed a w _ hr hy hS H
    refine ⟨fun h => (by rw [h] at hr; cases hr), fun j hj => ?_⟩
    by_cases hji : j = i
    · subst hji; exact hy.wpOpIn hro hi hS ⟨hS, H⟩
    · have := ready_mono hj hji
      rw [H.1] at this
      cases this
  | succ fuel ih =>
    intro listed a w hfree hr hy hS H
    refine ⟨fun h => (by rw [h] at hr; cases hr), fun j hj => ?_⟩
    by_cases hji : j = i
    · subst hji; exact hy.wpOpIn hro hi hS ⟨hS, H⟩
    · have h1 := H.2 j (ready_mono hj hji)
      obtain ⟨hjun, oj, hoj, hall⟩ := mem_ready.1 hj
      have h2 := wpOpIn_putS hro hoj (hfree j oj hoj hji hjun (not_waits (i := i) (j := j) hr hall)) (fun cs b => hsel i oi cs b hi) (fun cs b => hsel j oj cs b hoj) hQ hy h1
      have hfree' : ∀ k ok, ops[k]? = some ok → k ≠ i → (listed.setIfInBounds j true).getD k true = false →
          (∀ e ∈ ok.after, Region.binds md e = true → e.on ≠ i) → oi.apart ops ok = true := fun k ok hk hki hun hno => by
        refine hfree k ok hk hki ?_ hno
        by_cases hjk : j = k
        · subst hjk; exact hjun
        · rw [getD_set_ne true hjk] at hun; exact hun
      refine wpOpIn_mono (fun a' w' h3 => ⟨h3.2.1, ih (listed.setIfInBounds j true) a' w' hfree' (ready_mono hr (Ne.symm hji)) h3.1 h3.2.1 ?_⟩) h2
      rw [Array.setIfInBounds_comm _ _ hji]
      exact h3.2.2
theorem wpAnyS_take {i : Nat} {oi : Oper} {v : Value} {fuel : Nat} {listed : Array Bool} {a : Act} {w : World} (hro : F.round = none) (hi : ops[i]? = some oi)
    (hs : Region.noSelect ops = true) (hf : Region.free md ops listed i = true) (hr : (Region.ready md ops listed).contains i = true)
    (hQ : ∀ c a w, Q (.panic c) (a.put oi.dst v) w → Q (.panic c) a w) (hy : YieldsIf P ops S oi v a) (hab : ∀ w, oi.about P w a.eval = none) (hS : S w)
    (h : wpAnyS F n P md ops Q S fuel (listed.setIfInBounds i true) (a.put oi.dst v) w) : wpAnyS F n P md ops Q S (fuel + 1) listed a w :=
  wpAnyS_first hro hi (Region.noSelect_spec hs) hQ fuel listed a w (Region.free_spec hi hf) (by simpa using hr) ⟨hy, hab⟩ hS h
/-- One operation alone may come up. -/
theorem wpAnyS_one {i : Nat} {o : Oper} {fuel : Nat} {listed : Array Bool} {a : Act} {w : World} (hr : Region.ready md ops listed = [i]) (ho : ops[i]? = some o)
    (h : ∀ K' : Act → World → Prop, Shut (∀ a w, S w → wpAnyS F n P md ops Q S fuel (listed.setIfInBounds i true) a w → K' a w) → if Region.wanted o (yielded ops a.tmps) = true then Oper.wpIn F n P o a w K' Q else (∀ f, o.about P w a.eval = some f → F.fn f) ∧ K' (a.put o.dst undef) w) : wpAnyS F n P md ops Q S (fuel + 1) listed a w := by
  refine ⟨fun h0 => (by rw [hr] at h0; cases h0), fun j hj => ?_⟩
  rw [hr] at hj
  rcases List.mem_cons.1 hj with rfl | hj
  · exact wpOpIn_step ho (fun K' hK => h K' (fun a w hS hW => hK a w ⟨hS, hW⟩))
  · cases hj
theorem wpAnyS_done {listed : Array Bool} {a : Act} {w : World} (hr : Region.ready md ops listed = []) (h : Q .normal a w) : ∀ fuel, wpAnyS F n P md ops Q S fuel listed a w
  | 0 => ⟨hr, h⟩
  | _ + 1 => ⟨fun _ => h, by rw [hr]; simp⟩
theorem wpIn_region_S {id : Nat} {a : Act} {w : World} (S : World → Prop) (hm : P.follows .mixedOrders = true)
    (h : wpAnyS F n P .any ops Q S ops.size (Array.replicate ops.size false) a w.drew) : (Code.region id ops true).wpIn F n P Q a w :=
  wpIn_region_any hm (wpAnyIn_of_S _ _ _ _ h)

end
end Go.Proofs.Ytjggppnffkcmbaa
namespace Go.Proofs.Ytjggppnffkcmbaa
open Go.RowKit
set_option linter.unusedVariables false

section
variable {P : Program} {n : Nat} {α : Type}

/-- How a round is left: it goes on. -/
def roundOn (B : Nat) (Kp : World → World → Prop) (I : List α → World → Prop) (xs : List α) (W : World) : Exit → Act → World → Prop
  | .normal, _, W' => KeepsFrom B W W' ∧ Kp W W' ∧ I xs W'
  | _, _, _ => False

theorem wpIn_rows {g : Operand} {ps : Array Tmp} {assign body : Code} {Q : Exit → Act → World → Prop} {a : Act} {w : World} {gf : Nat} {lb : Array Value}
    (hg : a.eval g = .func (.func gf) #[] lb) (eg : ∀ args w, (callFunc gf args).run P w = .ok (.enter gf args) w)
    {encs : α → Array Value} (hps : ∀ x, (encs x).size = ps.size) (A : List α → α → World → Prop) (Kp : World → World → Prop) (Sx : List α → Prop) (I : List α → World → Prop)
    (hI : ∀ pre X Y, I pre X → Below X.heap.size X Y → I pre Y) (hIb : ∀ pre X l r r', I pre X → X.heap[l]? = some (.loop r) → w.heap.size < l → I pre (X.putObj l (.loop r')))
    (hKb : ∀ X l r r', X.heap[l]? = some (.loop r) → Kp X (X.putObj l (.loop r'))) (hKt : ∀ X Y Z, Kp X Y → Kp Y Z → Kp X Z) (h0 : I [] w)
    (hseq : ∀ (l : Nat) (J : List α → World → Prop) (W : World), (∀ pre X Y, J pre X → Below X.heap.size X Y → J pre Y) → Below w.heap.size w W → J [] W →
      (∀ m pre x X, J pre X → A pre x X → YieldAt Fence.wide m P l (encs x) X fun e Y => e = .returned (.bool true) ∧ J (pre ++ [x]) Y ∧ Kp X Y) →
      CallsIn Fence.wide (n - 1) P gf (#[.func (.yield l) #[] #[]] ++ lb) W fun e Y => (∃ v, e = .returned v) ∧ ∃ xs, Sx xs ∧ J xs Y)
    (hround : ∀ (m l : Nat) (pre : List α) (x : α) (X : World) (r : Loop), I pre X → A pre x X → X.heap[l]? = some (.loop r) → w.heap.size < l →
      assign.wpIn (Fence.wide.inRound l) m P (Exit.then (fun a' Y => KeepsFrom w.heap.size X Y ∧ Kp X Y ∧ body.wpIn (Fence.wide.inRound l) m P (roundOn w.heap.size Kp I (pre ++ [x]) (Y.putObj l (.loop { r with state := .busy }))) a' (Y.putObj l (.loop { r with state := .busy }))) (fun _ _ _ => False))
        { tmps := (ps.zip (encs x)).foldl (fun t (p, v) => t.setIfInBounds p v) a.tmps, defers := [] } X)
    (hdone : ∀ (D : Nat) (xs : List α) (W : World), w.heap.size ≤ D → Sx xs → I xs W → W.heap[D]? = some (.deferred (some [])) → Q .normal { a with defers := { target := .collected D, args := #[] } :: a.defers } W) :
    (Code.rangeFunc g ps assign body).wpIn Fence.wide n P Q a w := by
  refine wpIn_rangeFunc ?_
  intro fn _
  obtain ⟨r0, hr0⟩ : ∃ r0 : Loop, r0 = { state := .ready, pending := none, fn, tmps := a.tmps, params := ps, assign, body, defers := w.heap.size } := ⟨_, rfl⟩
  obtain ⟨W1, hW1⟩ : ∃ W1, W1 = (w.alloc (.deferred (some []))).alloc (.loop r0) := ⟨_, rfl⟩
  have b1 : Below w.heap.size w W1 := by rw [hW1]; exact ((Below.refl _ w).alloc (Nat.le_refl _) _).alloc (by simp) _
  have hL : W1.heap[w.heap.size + 1]? = some (.loop r0) := by
    rw [hW1]; have := World.alloc_heap_new (w.alloc (.deferred (some []))) (.loop r0); rwa [World.size_alloc] at this
  have hD : W1.heap[w.heap.size]? = some (.deferred (some [])) := by
    rw [hW1]; exact (Below.heap_alloc _ _ _ (by simp)).trans (World.alloc_heap_new w _)
  refine ⟨w.heap.size + 1, [{ target := .collected w.heap.size, args := #[] }], W1, { target := .fn (.func gf) lb, args := #[.func (.yield (w.heap.size + 1)) #[] #[]] }, W1, gf, #[.func (.yield (w.heap.size + 1)) #[] #[]] ++ lb, W1, ?_, ?_, ?_, ?_, ?_, ?_⟩
  · rw [hW1, hr0]; exact run_enterLoop_outer _ _ _ _ _
  · simp only [resolve, hg]
    simp [go_sem]
  · intro f' _; trivial
  · simp [invoke, go_sem, eg]
  · intro h; simp [Fence.wide] at h
  · refine (hseq (w.heap.size + 1) (fun pre W => I pre W ∧ W.heap[w.heap.size + 1]? = some (.loop r0) ∧ W.heap[w.heap.size]? = some (.deferred (some []))) W1 ?_ b1 ⟨hI _ _ _ h0 b1, hL, hD⟩ ?_).mono ?_
    · rintro pre X Y ⟨i1, i2, i3⟩ hb
      exact ⟨hI _ _ _ i1 hb, (hb.block _ (Array.getElem?_eq_some_iff.1 i2).1).trans i2, (hb.block _ (Array.getElem?_eq_some_iff.1 i3).1).trans i3⟩
    · rintro m pre x X ⟨i1, i2, i3⟩ hA
      have hy := run_yield (P := P) (args := encs x) i2 (by rw [hr0]; exact hps x)
      rw [hr0] at hy
      refine ⟨fn, _, assign, body, hy, roundIn_of_wpIn trivial (wpIn_mono (hround m _ pre x X r0 i1 hA i2 (by omega)) ?_)⟩
      rintro e a' Y hp
      cases e with
      | normal =>
        obtain ⟨k1, k2, hb⟩ := hp
        have j2 := k1.same _ _ (by omega) i2 rfl
        have j3 := k1.same _ _ (Nat.le_refl _) i3 rfl
        refine ⟨_, run_beginRound j2 (by rw [hr0]), wpIn_mono hb ?_⟩
        rintro e a'' Z hq
        cases e with
        | normal =>
          obtain ⟨q1, q2, q3⟩ := hq
          have hl : w.heap.size + 1 < Y.heap.size := (Array.getElem?_eq_some_iff.1 j2).1
          have m2 := q1.same _ _ (by omega) (World.putObj_heap_same (o := .loop { r0 with state := .busy }) hl) rfl
          have m3 := q1.same _ _ (Nat.le_refl _) ((World.putObj_heap_other (by omega)).trans j3) rfl
          have hz : w.heap.size + 1 < Z.heap.size := (Array.getElem?_eq_some_iff.1 m2).1
          refine ⟨_, _, run_endRound none m2, rfl, ⟨hIb _ _ _ _ _ q3 m2 (by omega), ?_, (World.putObj_heap_other (by omega)).trans m3⟩, hKt _ _ _ (hKt _ _ _ (hKt _ _ _ k2 (hKb _ _ _ _ j2)) q2) (hKb _ _ _ _ m2)⟩
          rw [World.putObj_heap_same hz, hr0]
          rfl
        | ret => exact hq.elim
        | exit id => exact hq.elim
        | goto t => exact hq.elim
        | panic c => exact hq.elim
        | outgrown => exact hq.elim
      | ret => exact hp.elim
      | exit id => exact hp.elim
      | goto t => exact hp.elim
      | panic c => exact hp.elim
      | outgrown => exact hp.elim
    · rintro e W2 ⟨⟨v, rfl⟩, xs, hS, i1, i2, i3⟩
      exact ⟨none, _, by have := run_endLoop (P := P) i2 (by rw [hr0]; simp); rw [hr0] at this; rw [hr0] at i2; exact this, hdone _ xs _ (Nat.le_refl _) hS (hIb _ _ _ _ _ i1 i2 (by omega)) ((World.putObj_heap_other (by omega)).trans i3)⟩

end
end Go.Proofs.Ytjggppnffkcmbaa
