/-
  For all bytes FnTrtBounds returns true, and what came in reads behind the call as it did. No condition. (what one site knows is so for all)
-/
import Derived.Test.YtpnldfembbfgdaaJTrtBoundsB
import Derived.Test.YtpnldfembbfgdaaJTrtBoundsC
import Derived.Test.YtpnldfembbfgdaaOpen
namespace Go.Proofs.Ytpnldfembbfgdaa.fnTrtBounds
open Go.ChangeShapes Go.WideShapes Go.ChangeAt Go.RowKit
set_option linter.unusedVariables false
set_option maxRecDepth 100000

theorem open_bytesT {H : Type} {enc : TypeId × Value → H} {W : World} {r : Reach} {b0 : Nat} {v : Value} {d : DataW H} {p : List MemPlace}
    (hv : Value.okWide Try.prog W r b0 22 v) (h : DataW.Trod enc Try.prog W 0 (fun _ => true) true 22 v d p) : ∃ a n cap zs, v = .slice a n cap ∧ BInts W a n zs ∧ (n ≤ cap ∧ cap ≤ maxLen) := by
  obtain ⟨a0, len0, cap0, rfl⟩ := okWide_slice Try.underlying22 hv
  obtain ⟨fuel, hf⟩ := h
  rcases open_ints Try.underlying22 Try.underlying5 (by kernel_rfl) hf with ⟨hcs, _⟩ | ⟨x, l, c, zs, hcs, _, hl, hm, hz, _, hcell, hwz⟩
  · simp [Value.cells] at hcs
    obtain ⟨rfl, rfl, rfl⟩ := hcs
    exact ⟨none, 0, 0, [], rfl, ⟨rfl, fun i hi => by omega, fun i => by simp⟩, by omega, by unfold maxLen; omega⟩
  · simp [Value.cells] at hcs
    obtain ⟨rfl, rfl, rfl⟩ := hcs
    have hz' : zs.length = cap0 := by simpa using hz
    refine ⟨some x, len0, cap0, zs.take len0, rfl, ⟨by rw [List.length_take]; omega, fun i hi => ?_, fun i => ?_⟩, hl, hm⟩
    · obtain ⟨b, off, spot⟩ := x
      have hc0 := hcell 0 (by omega)
      have hspot : spot = none := by simpa [Addr.add] using World.cell?_spot hc0
      subst hspot
      refine ⟨b, off, rfl, ?_⟩
      have hc := hcell i (by omega)
      have : W.cell? ⟨b, off + i, none⟩ = some (.int .u8 (zs.getD i 0)) := by
        by_cases h0 : i = 0
        · subst h0; simpa [Addr.add] using hc
        · simpa [Addr.add, h0] using hc
      rw [this]
      simp [hi]
    · by_cases hi : i < (zs.take len0).length
      · rw [List.getElem?_eq_getElem hi]
        have := hwz _ (List.mem_of_mem_take (List.getElem_mem hi))
        simpa [Lit.wf, IntKind.min, IntKind.max, IntKind.signed, IntKind.bits] using this
      · rw [List.getElem?_eq_none (by omega)]
        simp

theorem bans_no {n m : Nat} {C D : List Int} {ss : List IV} {s : Int} {k : Nat} {E : List Int} {fn fm : Nat} {FC FD : List Int} {FK : Int} {l : Nat} {U : List Int} {lo hi : Int} (h : bansB n m C D ss s k E fn fm FC FD FK l U = (lo, hi, false)) : lo = 0 ∧ hi = 0 := by
  unfold bansB at h
  split at h
  · unfold bnds at h
    split at h
    · simp at h
    · split at h
      · simp only [Prod.mk.injEq] at h
        exact ⟨h.1.symm, h.2.1.symm⟩
      · simp at h
  · simp only [Prod.mk.injEq] at h
    exact ⟨h.1.symm, h.2.1.symm⟩
theorem bans_yes {n m : Nat} {C D : List Int} {ss : List IV} {s : Int} {k : Nat} {E : List Int} {fn fm : Nat} {FC FD : List Int} {FK : Int} {l : Nat} {U : List Int} {lo hi : Int} (h : bansB n m C D ss s k E fn fm FC FD FK l U = (lo, hi, true)) : n = 3 ∧ 1 ≤ m ∧ m ≤ 3 ∧ 0 ≤ s ∧ s < m ∧ k = 3 ∧ bnd 10000 C ∧ bnd 20000 E := by
  unfold bansB at h
  split at h
  · rename_i hb
    unfold bokB at hb
    simp only [Bool.and_eq_true] at hb
    obtain ⟨a, b, c, d, _, e, f, g, i, _⟩ := viewB_elim hb.1
    exact ⟨a, c, d, e, f, g, b, i⟩
  · simp at h
/-- What the first sites have added, so far. -/
def AddK (es : List IV) (k u : Nat) (E : List Int) : Prop := (∀ i, i < k → bnd 20000 (es[i]?.getD noI).x) ∧ (u < k → (es[u]?.getD noI).x = E)
theorem AddK.nil (u : Nat) (E : List Int) : AddK [] 0 u E := ⟨fun i hi => by omega, fun h => by omega⟩
theorem AddK.app {es : List IV} {k u : Nat} {E : List Int} {y : IV} (h : AddK es k u E) (hk : es.length = k) (hb : bnd 20000 y.x) (hu : k = u → y.x = E) : AddK (es ++ [y]) (k + 1) u E := by
  have e : ∀ i, i < k → (es ++ [y])[i]?.getD noI = es[i]?.getD noI := fun i hi => by rw [List.getElem?_append_left (by omega)]
  have e2 : (es ++ [y])[k]?.getD noI = y := by rw [List.getElem?_append_right (by omega), hk, Nat.sub_self]; rfl
  refine ⟨fun i hi => ?_, fun hi => ?_⟩
  · by_cases h1 : i < k
    · rw [e i h1]; exact h.1 i h1
    · have : i = k := by omega
      rw [this, e2]; exact hb
  · by_cases h1 : u < k
    · rw [e u h1]; exact h.2 h1
    · have : u = k := by omega
      rw [this, e2]; exact hu this.symm
theorem lit3 {W : World} {B : Nat} {x y z : Int} (h : Cel W B [.int .i64 x, .int .i64 y, .int .i64 z] 3) : Ints W (some ⟨B, 0, none⟩) 3 [x, y, z] := ⟨rfl, fun i hi => ⟨B, 0, rfl, by
  rw [Nat.zero_add, h.cell i]
  match i, hi with
  | 0, _ => rfl
  | 1, _ => rfl
  | 2, _ => rfl⟩⟩
theorem bnd3 {M x y z : Int} (h0 : 0 ≤ M) (hx : -M ≤ x ∧ x ≤ M) (hy : -M ≤ y ∧ y ≤ M) (hz : -M ≤ z ∧ z ≤ M) : bnd M [x, y, z] := fun i => by
  match i with
  | 0 => exact hx
  | 1 => exact hy
  | 2 => exact hz
  | i + 3 => simp; omega
theorem wt {x d e : Int} (h1 : 0 < d) (h2 : d ≤ 9) (e0 : 0 ≤ e) (e4 : e ≤ 4) : -20 ≤ IntKind.i64.wrap (x.tmod d - e) ∧ IntKind.i64.wrap (x.tmod d - e) ≤ 20 := by
  have a := Int.tmod_lt_of_pos x h1
  have b := Int.lt_tmod_of_pos x h1
  rw [wrap_id (by omega) (by omega)]
  omega
theorem cellA {W : World} {b i : Nat} {v : Value} (o : Obj) (h : W.cell? ⟨b, i, none⟩ = some v) : (W.alloc o).cell? ⟨b, i, none⟩ = some v := by
  rw [((Below.refl W.heap.size W).alloc (Nat.le_refl _) o).cell (p := ⟨b, i, none⟩) (block_lt h)]
  exact h
theorem bnd_up {M M' : Int} {xs : List Int} (h : bnd M xs) (hM : M ≤ M') : bnd M' xs := fun i => by have := h i; omega

set_option maxHeartbeats 25600000 in
theorem walk (w : World) (a : Option Addr) (n cap : Nat) (A0 : List Int) (hA0 : BInts w a n A0) (hn : n ≤ cap ∧ cap ≤ maxLen) (c : Option Addr) (m cap' : Nat) (B0 : List Int) (hB0 : BInts w c m B0) (hm : m ≤ cap' ∧ cap' ≤ maxLen) :
    Calls Try.prog 7 #[.slice a n cap, .slice c m cap'] w fun e w' => e = .returned (.bool true) ∧ Below w.heap.size w w' := by
  obtain ⟨hn2, hn3⟩ := hn
  obtain ⟨hm2, hm3⟩ := hm
  by_cases hn1 : n ≤ 1048576
  · by_cases hm1 : m ≤ 1048576
    · go_enter Try.func7, Try.ntmps7
      go_wp2_with fail
      refine (dBounds _ _ _ A0 _ hA0 hn2 hn1 hn3).mono ?_
      rintro ee w1 ⟨ba, bn, bc, ga, gn, gc, B, G, pa, pn, pc, ts, s, ea, en, ec, E, fa, fn, fc, fb, fm, fd, F, ua, un, uc, U, rfl, b1, hB, hG, hbn, hgn, _, hP, hpn, hpn1, hE, hen, hF, hU, hun, hs0, hs2⟩
      have BB := b1
      replace hB0 := hB0.below b1
      clear b1
      have HP : Hid (ts.length = pn) := hpn
      clear hpn
      obtain ⟨lo, hw, ok, hA⟩ : ∃ lo hi ok, bansB bn gn B G ts s en E fn fm F.1 F.2.1 F.2.2 un U = (lo, hi, ok) := by (rcases hq : bansB bn gn B G ts s en E fn fm F.1 F.2.1 F.2.2 un U with ⟨x, y, z⟩; exact ⟨x, y, z, rfl⟩)
      have HA : Hid (bansB bn gn B G ts s en E fn fm F.1 F.2.1 F.2.2 un U = (lo, hw, ok)) := hA
      clear hA
      have hLL : (lo != lo) = false := by simp
      have hHH : (hw != hw) = false := by simp
      have hOO : (ok != ok) = false := by cases ok <;> rfl
      have al := (Below.refl (w1).heap.size (w1)).alloc (Nat.le_refl _) (.cells #[.slice ba bn bc, .slice ga gn gc] 45)
      replace BB := BB.trans (al.mono BB.size)
      replace hB0 := hB0.below al
      replace hB := hB.below al
      replace hG := hG.below al
      replace hP := hP.below al
      replace hE := hE.below al
      replace hF := hF.below al
      replace hU := hU.below al
      clear al
      have q5 := Cel.new (w1) [.slice ba bn bc, .slice ga gn gc] 45
      have al := (Below.refl ((w1).alloc (.cells #[.slice ba bn bc, .slice ga gn gc] 45)).heap.size ((w1).alloc (.cells #[.slice ba bn bc, .slice ga gn gc] 45))).alloc (Nat.le_refl _) (.cells #[.slice fa fn fc, .slice fb fm fd, .int .i64 F.2.2] 34)
      replace BB := BB.trans (al.mono BB.size)
      replace hB0 := hB0.below al
      replace hB := hB.below al
      replace hG := hG.below al
      replace hP := hP.below al
      replace hE := hE.below al
      replace hF := hF.below al
      replace hU := hU.below al
      replace q5 := q5.below al
      clear al
      have q9 := Cel.new ((w1).alloc (.cells #[.slice ba bn bc, .slice ga gn gc] 45)) [.slice fa fn fc, .slice fb fm fd, .int .i64 F.2.2] 34
      simp only [World.size_alloc] at q9
      have g5_0 := q5.cell 0
      have g5_1 := q5.cell 1
      have g9_0 := q9.cell 0
      have g9_1 := q9.cell 1
      have g9_2 := q9.cell 2
      simp only [List.getElem?_cons_zero, List.getElem?_cons_succ] at g5_0 g5_1 g9_0 g9_1 g9_2
      go_wp2_with fail
      obtain ⟨W2, hW2⟩ : ∃ W, W = ((w1).alloc (.cells #[.slice ba bn bc, .slice ga gn gc] 45)).alloc (.cells #[.slice fa fn fc, .slice fb fm fd, .int .i64 F.2.2] 34) := ⟨_, rfl⟩
      rw [← hW2]
      rw [← hW2] at hB0 hB hG hP hE hF hU q5 q9 BB g5_0 g5_1 g9_0 g9_1 g9_2
      clear hW2
      obtain ⟨X9, hX9⟩ : ∃ x, x = w1.heap.size + 1 := ⟨_, rfl⟩
      rw [← hX9]
      rw [← hX9] at q9 g9_0 g9_1 g9_2
      clear hX9
      obtain ⟨X5, hX5⟩ : ∃ x, x = w1.heap.size := ⟨_, rfl⟩
      rw [← hX5]
      rw [← hX5] at q5 g5_0 g5_1
      clear hX5
      refine (ibounds_any _ _ _ _ _ _ _ _ _ s _ _ _ _ _ _ _ _ _ F.2.2 _ _ _ B G E F.1 F.2.1 U ts _ hB hG hE hF.C hF.D hU HP.out hP (by omega) (by omega) (by omega) hF.hn hF.hm (by omega) (by omega)).mono ?_
      rintro ee w3 ⟨rfl, b2⟩
      rw [HA.out]
      simp only [ansV]
      clear g5_0 g5_1 g9_0 g9_1 g9_2
      replace BB := BB.trans (b2.mono BB.size)
      replace hB0 := hB0.below b2
      replace hB := hB.below b2
      replace hG := hG.below b2
      replace hP := hP.below b2
      replace hE := hE.below b2
      replace hF := hF.below b2
      replace hU := hU.below b2
      replace q5 := q5.below b2
      replace q9 := q9.below b2
      clear b2
      have g5_0 := q5.cell 0
      have g5_1 := q5.cell 1
      have g9_0 := q9.cell 0
      have g9_1 := q9.cell 1
      have g9_2 := q9.cell 2
      simp only [List.getElem?_cons_zero, List.getElem?_cons_succ] at g5_0 g5_1 g9_0 g9_1 g9_2
      go_wp2_with fail
      refine (sbounds_any _ _ _ _ _ _ _ _ _ s _ _ _ _ _ _ _ _ _ F.2.2 _ _ _ B G E F.1 F.2.1 U ts _ hB hG hE hF.C hF.D hU HP.out hP (by omega) (by omega) (by omega) hF.hn hF.hm (by omega) (by omega)).mono ?_
      rintro ee w4 ⟨rfl, b2⟩
      rw [HA.out]
      simp only [ansV]
      clear g5_0 g5_1 g9_0 g9_1 g9_2
      replace BB := BB.trans (b2.mono BB.size)
      replace hB0 := hB0.below b2
      replace hB := hB.below b2
      replace hG := hG.below b2
      replace hP := hP.below b2
      replace hE := hE.below b2
      replace hF := hF.below b2
      replace hU := hU.below b2
      replace q5 := q5.below b2
      replace q9 := q9.below b2
      clear b2
      cases ok
      · obtain ⟨rfl, rfl⟩ := bans_no HA.out
        clear HA hLL hHH hOO
        have g5_0 := q5.cell 0
        have g5_1 := q5.cell 1
        have g9_0 := q9.cell 0
        have g9_1 := q9.cell 1
        have g9_2 := q9.cell 2
        simp only [List.getElem?_cons_zero, List.getElem?_cons_succ] at g5_0 g5_1 g9_0 g9_1 g9_2
        go_wp2_with fail
        refine (coHolds_any _).mono ?_
        rintro ee w5 ⟨rfl, bh⟩
        clear g5_0 g5_1 g9_0 g9_1 g9_2
        replace BB := BB.trans (bh.mono BB.size)
        replace hB0 := hB0.below bh
        replace hB := hB.below bh
        replace hG := hG.below bh
        replace hP := hP.below bh
        replace hE := hE.below bh
        replace hF := hF.below bh
        replace hU := hU.below bh
        replace q5 := q5.below bh
        replace q9 := q9.below bh
        clear bh
        go_wp2
        go_ret
        exact ⟨rfl, BB⟩
      · obtain ⟨e1, e2, e3, e4, e5, e6, e7, e8⟩ := bans_yes HA.out
        subst e1
        subst e6
        obtain ⟨u, rfl⟩ := Int.eq_ofNat_of_zero_le e4
        clear hs0 hs2 e4 hbn hen
        have hug : u < gn := by omega
        have HE7 : Hid (bnd 10000 B) := e7
        have HE8 : Hid (bnd 20000 E) := e8
        clear e7 e8
        obtain ⟨i0, hi, hz0, hz1, hz2⟩ := info_parts Try.infoI
        have g5_0 := q5.cell 0
        have g5_1 := q5.cell 1
        have g9_0 := q9.cell 0
        have g9_1 := q9.cell 1
        have g9_2 := q9.cell 2
        simp only [List.getElem?_cons_zero, List.getElem?_cons_succ] at g5_0 g5_1 g9_0 g9_1 g9_2
        go_upto_region 10 with fail
        clear hLL hHH hOO
        clear g5_0 g5_1 g9_0 g9_1 g9_2
        obtain ⟨wb, hwb⟩ : ∃ x, x = w4 := ⟨_, rfl⟩
        rw [← hwb]
        rw [← hwb] at hB0 hB hG hP hE hF hU q5 q9 BB
        clear hwb
        have HEA : Hid (∀ b o, ea = some ⟨b, o, none⟩ → b < wb.heap.size) := fun b o e => by (have h := hE; rw [e] at h; exact h.blk (by omega))
        go_wp2_with fail
        go_loopw [17, 18] (fun v i wr => ∃ (k : Nat) (es : List IV) (G1 c1 : Nat), k ≤ gn ∧ i = .int .i64 k ∧ v = .slice (some ⟨G1, 0, none⟩) k c1 ∧ es.length = k ∧ JP wb G1 c1 es wr ∧ AddK es k u E) (fun _ i _ => gn - (intOf i).toNat)
        case atStart => exact ⟨0, [], _, _, by omega, rfl, rfl, rfl, JP.nil wb wb (Below.refl _ _), AddK.nil u E⟩
        case round =>
          obtain ⟨k, es, G1, c1, hk, rfl, rfl, hes, j, ak⟩ := hrel
          have HES : Hid (es.length = k) := hes
          clear hes
          have hb := j.b
          replace BB := BB.trans (hb.mono BB.size)
          replace hB0 := hB0.below hb
          replace hB := hB.below hb
          replace hG := hG.below hb
          replace hP := hP.below hb
          replace hE := hE.below hb
          replace hF := hF.below hb
          replace hU := hU.below hb
          replace q5 := q5.below hb
          replace q9 := q9.below hb
          clear hb
          by_cases hlt : k < gn
          · have hlt' : (k : Int) < (gn : Int) := by omega
            obtain ⟨wo, hwo⟩ : ∃ x, x = wr := ⟨_, rfl⟩
            rw [← hwo]
            rw [← hwo] at j hB0 hB hG hP hE hF hU q5 q9 BB
            clear hwo
            have JG : Hid (G1 < wo.heap.size) := j.lt.2
            have g5_0 := q5.cell 0
            have g5_1 := q5.cell 1
            have g9_0 := q9.cell 0
            have g9_1 := q9.cell 1
            have g9_2 := q9.cell 2
            simp only [List.getElem?_cons_zero, List.getElem?_cons_succ] at g5_0 g5_1 g9_0 g9_1 g9_2
            go_wp2_with fail
            clear g5_0 g5_1 g9_0 g9_1 g9_2
            go_loopw [19, 20] (fun x jx wx => ∃ (j2 xa : Nat) (xs : List Int), j2 ≤ 32 ∧ jx = .int .i64 j2 ∧ x = .slice (some ⟨xa, 0, none⟩) 3 3 ∧ Ints wx (some ⟨xa, 0, none⟩) 3 xs ∧ bnd 20 xs ∧ wo.heap.size ≤ xa ∧ Below wo.heap.size wo wx) (fun _ jx _ => 40 - (intOf jx).toNat)
            case atStart => exact ⟨0, _, _, by omega, rfl, rfl, lit3 (Cel.new wo _ _), bnd3 (by omega) (by omega) (by omega) (by omega), Nat.le_refl _, (Below.refl _ _).alloc (Nat.le_refl _) _⟩
            case round =>
              obtain ⟨j2, xa, xs, hj2, rfl, rfl, hX, bX, lX, hb⟩ := hrel
              have hb0 := hb
              have HBX : Hid (bnd 20 xs) := bX
              clear bX
              replace BB := BB.trans (hb.mono BB.size)
              replace hB0 := hB0.below hb
              replace hB := hB.below hb
              replace hG := hG.below hb
              replace hP := hP.below hb
              replace hE := hE.below hb
              replace hF := hF.below hb
              replace hU := hU.below hb
              replace q5 := q5.below hb
              replace q9 := q9.below hb
              clear hb
              go_upto_region 16 with fail
              go_cut [105] from 97 to 140 (fun v wx => v = .bool (decide (j2 + 2 < m) && decide (j2 < 30)) ∧ wx = wr)
              case first =>
                clear hB0 hB hG hP hE hF hU hX q5 q9 BB j
                by_cases h1 : j2 + 2 < m
                · have h1' : (j2 : Int) + 2 < (m : Int) := by omega
                  have HD1 : Hid (decide (j2 + 2 < m) = true) := decide_eq_true h1
                  by_cases h2 : j2 < 30
                  · have h2' : (j2 : Int) < 30 := by omega
                    have HD2 : Hid (decide (j2 < 30) = true) := decide_eq_true h2
                    go_wp2
                    go_meet
                    case rel => exact ⟨by rw [HD1.out, HD2.out]; rfl, rfl⟩
                  · have h2' : ¬ (j2 : Int) < 30 := by omega
                    have HD2 : Hid (decide (j2 < 30) = false) := decide_eq_false h2
                    go_wp2
                    go_meet
                    case rel => exact ⟨by rw [HD1.out, HD2.out]; rfl, rfl⟩
                · have h1' : ¬ (j2 : Int) + 2 < (m : Int) := by omega
                  have HD1 : Hid (decide (j2 + 2 < m) = false) := decide_eq_false h1
                  go_wp2
                  go_meet
                  case rel => exact ⟨by rw [HD1.out]; rfl, rfl⟩
              case rest =>
                obtain ⟨rfl, rfl⟩ := hcut
                cases hgo : (decide (j2 + 2 < m) && decide (j2 < 30))
                · clear hgo
                  replace j := j.below hb0
                  have jlt := j.lt
                  have j1 := j
                  clear j
                  by_cases hks : k = u
                  · have hks' : ((k : Int) == (u : Int)) = true := by rw [hks]; simp
                    clear hks hX
                    have hGx : ∀ b o, (ea : Option Addr) = some ⟨b, o, none⟩ → b ≠ G1 := fun b o e => by (have h := HEA.out b o e; have := jlt.1; omega)
                    have al := (Below.refl wc.heap.size wc).alloc (Nat.le_refl _) (.cells #[.slice ea 3 ec] 26)
                    have oj := own_below j1.o al
                    rw [HES.out] at oj
                    have hsz := (j1.below al).b.size
                    clear al
                    go_wp2_with (at_builtin; refine wpList_append_lies _ rfl (.tmp 145) (.tmp 147) 46 rfl wb.heap.size 26 i0 _ 1 24 Try.underlying46 hi hz0 hz1 hz2 rfl (by omega) (.slice (some ⟨G1, 0, none⟩) k c1) k (es.map IV.v) (by rfl) oj ⟨wc.heap.size, 0, none⟩ 1 1 [.slice ea 3 ec] (by rfl) (by rfl) (World.news_of_block (cs := #[.slice ea 3 ec]) (t := 26) (fr := (0, 0)) (heap_alloc_new wc _)) (by simp [Value.oneCell']) (by omega) (by unfold maxLen; omega) (by omega) hsz (wc.heap.size + 1) (by rw [World.size_alloc]) ?_)
                    intro g9 cp9 w9 hown hgrow hat9 _
                    have jn := j1.app (s := ⟨ea, 3, ec, E⟩) HES.out rfl hE hGx hown hgrow (by rcases hat9 with h | h; exact .inl (by simpa [Value.ownBlock] using h.symm); exact .inr (by omega))
                    clear hown hgrow j1 oj
                    go_wp2
                    go_roundw
                    case rel => exact ⟨k + 1, _, g9, cp9, by omega, by go_num, rfl, by rw [List.length_append, HES.out]; rfl, jn, ak.app HES.out HE8.out (fun _ => rfl)⟩
                    case measure => simp [intOf]; omega
                  · have hks' : ((k : Int) == (u : Int)) = false := by simp; omega
                    have hGx : ∀ b o, ((some ⟨xa, 0, none⟩) : Option Addr) = some ⟨b, o, none⟩ → b ≠ G1 := fun b o e => by (have e' : (some ⟨xa, 0, none⟩ : Option Addr) = some ⟨b, o, none⟩ := e; simp only [Option.some.injEq, Addr.mk.injEq] at e'; have := JG.out; omega)
                    have al := (Below.refl wc.heap.size wc).alloc (Nat.le_refl _) (.cells #[.slice (some ⟨xa, 0, none⟩) 3 3] 26)
                    have oj := own_below j1.o al
                    rw [HES.out] at oj
                    have hsz := (j1.below al).b.size
                    clear al
                    go_wp2_with (at_builtin; refine wpList_append_lies _ rfl (.tmp 145) (.tmp 147) 46 rfl wb.heap.size 26 i0 _ 1 24 Try.underlying46 hi hz0 hz1 hz2 rfl (by omega) (.slice (some ⟨G1, 0, none⟩) k c1) k (es.map IV.v) (by rfl) oj ⟨wc.heap.size, 0, none⟩ 1 1 [.slice (some ⟨xa, 0, none⟩) 3 3] (by rfl) (by rfl) (World.news_of_block (cs := #[.slice (some ⟨xa, 0, none⟩) 3 3]) (t := 26) (fr := (0, 0)) (heap_alloc_new wc _)) (by simp [Value.oneCell']) (by omega) (by unfold maxLen; omega) (by omega) hsz (wc.heap.size + 1) (by rw [World.size_alloc]) ?_)
                    intro g9 cp9 w9 hown hgrow hat9 _
                    have jn := j1.app (s := ⟨(some ⟨xa, 0, none⟩), 3, 3, xs⟩) HES.out rfl hX hGx hown hgrow (by rcases hat9 with h | h; exact .inl (by simpa [Value.ownBlock] using h.symm); exact .inr (by omega))
                    clear hown hgrow j1 oj
                    go_wp2
                    go_roundw
                    case rel => exact ⟨k + 1, _, g9, cp9, by omega, by go_num, rfl, by rw [List.length_append, HES.out]; rfl, jn, ak.app HES.out (bnd_up HBX.out (by omega)) (fun h => absurd h hks)⟩
                    case measure => simp [intOf]; omega
                · have hg2 : j2 + 2 < m ∧ j2 < 30 := by simpa using hgo
                  obtain ⟨hg2, hg3⟩ := hg2
                  clear hgo
                  obtain ⟨mb, mo, rfl, hcm⟩ := hB0.pos (by omega)
                  have d0 := hcm j2 (by omega)
                  have d1 := hcm (j2 + 1) (by omega)
                  have d2 := hcm (j2 + 2) (by omega)
                  have v0 := hB0.2.2 j2
                  have v1 := hB0.2.2 (j2 + 1)
                  have v2 := hB0.2.2 (j2 + 2)
                  clear hcm
                  obtain ⟨q0, hq0⟩ : ∃ q, q = B0.getD j2 0 := ⟨_, rfl⟩
                  obtain ⟨q1, hq1⟩ : ∃ q, q = B0.getD (j2 + 1) 0 := ⟨_, rfl⟩
                  obtain ⟨q2, hq2⟩ : ∃ q, q = B0.getD (j2 + 2) 0 := ⟨_, rfl⟩
                  rw [← hq0] at d0
                  rw [← hq1] at d1
                  rw [← hq2] at d2
                  rw [← List.getD_eq_getElem?_getD, ← hq0] at v0
                  rw [← List.getD_eq_getElem?_getD, ← hq1] at v1
                  rw [← List.getD_eq_getElem?_getD, ← hq2] at v2
                  clear hq0 hq1 hq2
                  have a1 : (j2 : Int) < (m : Int) := by omega
                  have a2 : (j2 : Int) + 1 < (m : Int) := by omega
                  have a3 : (j2 : Int) + 2 < (m : Int) := by omega
                  go_upto_region 18 with fail
                  go_cut [21] from 97 to 140 (fun v wx => ∃ (y0 y1 y2 : Int) (Y : Nat), v = .slice (some ⟨Y, 0, none⟩) 3 3 ∧ Cel wx Y [.int .i64 y0, .int .i64 y1, .int .i64 y2] 3 ∧ (-20 ≤ y0 ∧ y0 ≤ 20) ∧ (-20 ≤ y1 ∧ y1 ≤ 20) ∧ (-20 ≤ y2 ∧ y2 ≤ 20) ∧ wc.heap.size ≤ Y ∧ Below wc.heap.size wc wx)
                  case first =>
                    clear hB0 hB hG hP hE hF hU hX q5 q9 BB j
                    have i1 : IntKind.i64.wrap ((j2 : Int) + 1) = (j2 : Int) + 1 := wrap_id (by omega) (by omega)
                    have i2 : IntKind.i64.wrap ((j2 : Int) + 2) = (j2 : Int) + 2 := wrap_id (by omega) (by omega)
                    have n1 : ((j2 : Int) + 1).toNat = j2 + 1 := by omega
                    have n2 : ((j2 : Int) + 2).toNat = j2 + 2 := by omega
                    have p1 : 0 ≤ (j2 : Int) + 1 := by omega
                    have p2 : 0 ≤ (j2 : Int) + 2 := by omega
                    refine wp_region_ends (fun X => X.cell? ⟨mb, mo + j2, none⟩ = some (.int .u8 q0) ∧ X.cell? ⟨mb, mo + (j2 + 1), none⟩ = some (.int .u8 q1) ∧ X.cell? ⟨mb, mo + (j2 + 2), none⟩ = some (.int .u8 q2)) (fun _ => True) 28 (by kernel_rfl) ?_
                    have dr : Below wc.heap.size wc wc.drew := (Below.refl _ _).drew
                    have hSS : (fun X : World => X.cell? ⟨mb, mo + j2, none⟩ = some (.int .u8 q0) ∧ X.cell? ⟨mb, mo + (j2 + 1), none⟩ = some (.int .u8 q1) ∧ X.cell? ⟨mb, mo + (j2 + 2), none⟩ = some (.int .u8 q2)) wc.drew ∧ True := ⟨⟨d0, d1, d2⟩, trivial⟩
                    obtain ⟨V, hV⟩ : ∃ V, V = wc.drew := ⟨_, rfl⟩
                    rw [← hV]
                    rw [← hV] at hSS dr
                    clear hV d0 d1 d2
                    refine tkL (i := 0) rfl hSS ?_
                    refine tkL (i := 1) rfl hSS ?_
                    refine tkL (i := 2) rfl hSS ?_
                    simp only [Act.put, List.setIfInBounds_toArray, List.set_cons_succ, List.set_cons_zero, List.getElem_toArray, List.getElem_cons_succ, List.getElem_cons_zero]
                    refine tkL (i := 3) rfl hSS ?_
                    refine tkL (i := 4) rfl hSS ?_
                    refine tkL (i := 5) rfl hSS ?_
                    simp only [Act.put, List.setIfInBounds_toArray, List.set_cons_succ, List.set_cons_zero, List.getElem_toArray, List.getElem_cons_succ, List.getElem_cons_zero]
                    refine tkL (i := 6) rfl hSS ?_
                    refine tkL (i := 7) rfl hSS ?_
                    refine tkL (i := 8) rfl hSS ?_
                    simp only [Act.put, List.setIfInBounds_toArray, List.set_cons_succ, List.set_cons_zero, List.getElem_toArray, List.getElem_cons_succ, List.getElem_cons_zero]
                    refine tkL (i := 9) rfl hSS ?_
                    refine tkL (i := 10) rfl hSS ?_
                    refine tkL (i := 11) rfl hSS ?_
                    simp only [Act.put, List.setIfInBounds_toArray, List.set_cons_succ, List.set_cons_zero, List.getElem_toArray, List.getElem_cons_succ, List.getElem_cons_zero]
                    refine tkL (i := 12) rfl hSS ?_
                    refine tkL (i := 13) rfl hSS ?_
                    refine tkL (i := 14) rfl hSS ?_
                    simp only [Act.put, List.setIfInBounds_toArray, List.set_cons_succ, List.set_cons_zero, List.getElem_toArray, List.getElem_cons_succ, List.getElem_cons_zero]
                    refine tkL (i := 15) rfl hSS ?_
                    refine tkL (i := 16) rfl hSS ?_
                    refine tkL (i := 17) rfl hSS ?_
                    simp only [Act.put, List.setIfInBounds_toArray, List.set_cons_succ, List.set_cons_zero, List.getElem_toArray, List.getElem_cons_succ, List.getElem_cons_zero]
                    refine tkL (i := 18) rfl hSS ?_
                    refine tkL (i := 19) rfl hSS ?_
                    refine tkL (i := 20) rfl hSS ?_
                    simp only [Act.put, List.setIfInBounds_toArray, List.set_cons_succ, List.set_cons_zero, List.getElem_toArray, List.getElem_cons_succ, List.getElem_cons_zero]
                    refine tkL (i := 21) rfl hSS ?_
                    refine tkL (i := 22) rfl hSS ?_
                    refine tkL (i := 23) rfl hSS ?_
                    simp only [Act.put, List.setIfInBounds_toArray, List.set_cons_succ, List.set_cons_zero, List.getElem_toArray, List.getElem_cons_succ, List.getElem_cons_zero]
                    refine tkL (i := 24) rfl hSS ?_
                    refine tkL (i := 25) rfl hSS ?_
                    refine wpAnyE_one (i := 26) (by kernel_rfl) rfl (fun Kn hK => ?_)
                    go_simp
                    refine hK.out _ _ ⟨⟨cellA _ hSS.1.1, cellA _ hSS.1.2.1, cellA _ hSS.1.2.2⟩, fun _ => trivial⟩ ?_
                    clear hK
                    refine wpAnyE_one (i := 27) (by kernel_rfl) rfl (fun Kn hK => ?_)
                    go_simp
                    refine hK.out _ _ ⟨⟨cellA _ hSS.1.1, cellA _ hSS.1.2.1, cellA _ hSS.1.2.2⟩, fun _ => trivial⟩ ?_
                    clear hK
                    refine wpAnyE_done (by kernel_rfl) ?_ _
                    have zd := dr.size
                    go_wp2_with fail
                    go_meet
                    case rel => exact ⟨_, _, _, _, rfl, Cel.new V _ _, wt (by omega) (by omega) (by omega) (by omega), wt (by omega) (by omega) (by omega) (by omega), wt (by omega) (by omega) (by omega) (by omega), zd, dr.alloc zd _⟩
                  case rest =>
                    obtain ⟨y0, y1, y2, Y, rfl, cY, hy0, hy1, hy2, lY, b7⟩ := hcut
                    have hY := lit3 cY
                    have hYl := Nat.le_trans hb0.size lY
                    clear cY lY d0 d1 d2
                    replace BB := BB.trans (b7.mono BB.size)
                    replace hb0 := hb0.trans (b7.mono hb0.size)
                    replace hB0 := hB0.below b7
                    replace hB := hB.below b7
                    replace hG := hG.below b7
                    replace hP := hP.below b7
                    replace hE := hE.below b7
                    replace hF := hF.below b7
                    replace hU := hU.below b7
                    replace hX := hX.below b7
                    replace q5 := q5.below b7
                    replace q9 := q9.below b7
                    clear b7
                    have g5_0 := q5.cell 0
                    have g5_1 := q5.cell 1
                    have g9_0 := q9.cell 0
                    have g9_1 := q9.cell 1
                    have g9_2 := q9.cell 2
                    simp only [List.getElem?_cons_zero, List.getElem?_cons_succ] at g5_0 g5_1 g9_0 g9_1 g9_2
                    go_wp2_with fail
                    refine (ikeep_any _ _ _ _ _ _ _ _ _ (k : Int) _ _ _ B G [y0, y1, y2] ts _ hB hG hY HP.out hP (by omega) (by omega) (by omega) (by omega)).mono ?_
                    rintro ee w5 ⟨rfl, b8⟩
                    clear g5_0 g5_1 g9_0 g9_1 g9_2
                    replace BB := BB.trans (b8.mono BB.size)
                    replace hb0 := hb0.trans (b8.mono hb0.size)
                    replace hB0 := hB0.below b8
                    replace hB := hB.below b8
                    replace hG := hG.below b8
                    replace hP := hP.below b8
                    replace hE := hE.below b8
                    replace hF := hF.below b8
                    replace hU := hU.below b8
                    replace hX := hX.below b8
                    replace hY := hY.below b8
                    replace q5 := q5.below b8
                    replace q9 := q9.below b8
                    clear b8
                    cases hkk : keepB 3 gn B G ts (k : Int) 3 [y0, y1, y2]
                    · clear hkk hB0 hB hG hP hE hF hU hY q5 q9
                      go_wp2
                      go_roundw
                      case rel => exact ⟨j2 + 3, xa, xs, by omega, by go_num, rfl, hX, HBX.out, lX, hb0⟩
                      case measure => simp [intOf]; omega
                    · clear hkk hB0 hB hG hP hE hF hU hX q5 q9
                      go_wp2
                      go_roundw
                      case rel => exact ⟨j2 + 3, Y, _, by omega, by go_num, rfl, hY, bnd3 (by omega) hy0 hy1 hy2, hYl, hb0⟩
                      case measure => simp [intOf]; omega
          · obtain rfl : k = gn := by omega
            have hlt' : ¬ (k : Int) < (k : Int) := by omega
            have hES := j.g
            have H3 : Hid (∀ i, i < k → (es[i]?.getD noI).n = 3) := fun i hi => (j.k i (by rw [HES.out]; exact hi)).1
            have HX3 : Hid (∀ i, i < k → (es[i]?.getD noI).x.length = 3) := fun i hi => (j.k i (by rw [HES.out]; exact hi)).2.1.1
            have HLn : Hid (B.length = 3 ∧ G.length = k ∧ E.length = 3 ∧ F.1.length = fn) := ⟨hB.1, hG.1, hE.1, hF.C.1⟩
            have HBA : Hid _ := bounds_all HLn.out.1 HLn.out.2.1 HLn.out.2.2.1 HLn.out.2.2.2 HES.out HX3.out hug (ak.2 hug) HA.out
            clear j
            have g5_0 := q5.cell 0
            have g5_1 := q5.cell 1
            have g9_0 := q9.cell 0
            have g9_1 := q9.cell 1
            have g9_2 := q9.cell 2
            simp only [List.getElem?_cons_zero, List.getElem?_cons_succ] at g5_0 g5_1 g9_0 g9_1 g9_2
            go_wp2_with fail
            refine (cosum_any _ _ B _ _ _ es _ hB hES HES.out (by omega) H3.out HE7.out ak.1).mono ?_
            rintro ee w5 ⟨vg, vc, rfl, hV, b4⟩
            clear g5_0 g5_1 g9_0 g9_1 g9_2
            replace BB := BB.trans (b4.mono BB.size)
            replace hB0 := hB0.below b4
            replace hB := hB.below b4
            replace hG := hG.below b4
            replace hP := hP.below b4
            replace hE := hE.below b4
            replace hF := hF.below b4
            replace hU := hU.below b4
            replace hES := hES.below b4
            replace q5 := q5.below b4
            replace q9 := q9.below b4
            clear b4
            have g5_0 := q5.cell 0
            have g5_1 := q5.cell 1
            have g9_0 := q9.cell 0
            have g9_1 := q9.cell 1
            have g9_2 := q9.cell 2
            simp only [List.getElem?_cons_zero, List.getElem?_cons_succ] at g5_0 g5_1 g9_0 g9_1 g9_2
            go_wp2_with fail
            refine (pAt F (sumT B es k) U _ _ _ _ _ _ _ _ _ _ _ _ _ hF hV hU (by omega) (by omega)).mono ?_
            rintro ee w6 ⟨rfl, b5⟩
            clear g5_0 g5_1 g9_0 g9_1 g9_2
            replace BB := BB.trans (b5.mono BB.size)
            replace hB0 := hB0.below b5
            replace hB := hB.below b5
            replace hG := hG.below b5
            replace hP := hP.below b5
            replace hE := hE.below b5
            replace hF := hF.below b5
            replace hU := hU.below b5
            replace hES := hES.below b5
            replace hV := hV.below b5
            replace q5 := q5.below b5
            replace q9 := q9.below b5
            clear b5
            obtain ⟨hlh, himp⟩ := HBA.out
            have HI : Hid _ := himp
            clear himp
            have g5_0 := q5.cell 0
            have g5_1 := q5.cell 1
            have g9_0 := q9.cell 0
            have g9_1 := q9.cell 1
            have g9_2 := q9.cell 2
            simp only [List.getElem?_cons_zero, List.getElem?_cons_succ] at g5_0 g5_1 g9_0 g9_1 g9_2
            go_wp2_with fail
            refine (iall_any _ _ _ _ _ _ _ _ _ _ _ _ B G ts es _ hB hG HP.out hP HES.out hES (by omega) (by omega) (by omega) (by omega)).mono ?_
            rintro ee w7 ⟨rfl, b6⟩
            clear g5_0 g5_1 g9_0 g9_1 g9_2
            replace BB := BB.trans (b6.mono BB.size)
            replace hB0 := hB0.below b6
            replace hB := hB.below b6
            replace hG := hG.below b6
            replace hP := hP.below b6
            replace hE := hE.below b6
            replace hF := hF.below b6
            replace hU := hU.below b6
            replace hES := hES.below b6
            replace hV := hV.below b6
            replace q5 := q5.below b6
            replace q9 := q9.below b6
            clear b6
            cases hq : allKeepB 3 k B G ts es k
            · clear hq
              have g5_0 := q5.cell 0
              have g5_1 := q5.cell 1
              have g9_0 := q9.cell 0
              have g9_1 := q9.cell 1
              have g9_2 := q9.cell 2
              simp only [List.getElem?_cons_zero, List.getElem?_cons_succ] at g5_0 g5_1 g9_0 g9_1 g9_2
              go_wp2
              go_ret
              exact ⟨rfl, BB⟩
            · cases hfi : atB F (sumT B es k) U
              · clear hq
                have g5_0 := q5.cell 0
                have g5_1 := q5.cell 1
                have g9_0 := q9.cell 0
                have g9_1 := q9.cell 1
                have g9_2 := q9.cell 2
                simp only [List.getElem?_cons_zero, List.getElem?_cons_succ] at g5_0 g5_1 g9_0 g9_1 g9_2
                go_wp2
                go_ret
                exact ⟨rfl, BB⟩
              · have hat : atP F (sumT B es k) U = atV F.1 F.2.1 F.2.2 (sumT B es k) U := atN_yes hfi
                have hx := HI.out hq
                rw [← hat] at hx
                obtain ⟨hx1, hx2⟩ := hx
                clear hat hq
                have g5_0 := q5.cell 0
                have g5_1 := q5.cell 1
                have g9_0 := q9.cell 0
                have g9_1 := q9.cell 1
                have g9_2 := q9.cell 2
                simp only [List.getElem?_cons_zero, List.getElem?_cons_succ] at g5_0 g5_1 g9_0 g9_1 g9_2
                go_wp2
                go_ret
                exact ⟨rfl, BB⟩
    · go_enter Try.func7, Try.ntmps7
      go_wp2
      go_ret
      exact ⟨rfl, Below.refl _ _⟩
  · go_enter Try.func7, Try.ntmps7
    go_wp2
    go_ret
    exact ⟨rfl, Below.refl _ _⟩

/-! ### The row's step -/
set_option maxRecDepth 100000 in
theorem lifted (os : Os) (started : os.Started) (H : Type) (enc : TypeId × Value → H) :
    ReturnsInHanded {} Try.checked os 7 .any (Rows.fnTrtBoundsSpec.pre6 enc Try.prog Try.f7 Rows.fnTrtBoundsRow.domain false) (Rows.fnTrtBoundsSpec.post enc Try.prog Try.f7 false true false false) := by
  refine returnsInHanded_of_change (C := Try.checked) own started (by kernel_rfl) Try.func7
    (ChangeSpec.witness6 (enc := enc) (C := Try.checked) false ⟨#[], #[.slice none 0 0, .slice none 0 0], []⟩ 8 (by kernel_rfl) (by kernel_rfl) (by kernel_rfl) (by kernel_rfl)) ?_
  intro W base args ds gs before hval0 hW hcnd _
  have hval : ∀ (j : Nat) t v, Try.f7.params[j]? = some t → args[j]? = some v → Value.okWide Try.prog W .any base t v := hval0
  have hW' := hW
  obtain ⟨p, q, hA0, hV, rfl, hfz, hnd⟩ := hW
  have hA : DataW.TrodAll enc Try.prog W 0 (fun _ => true) true Try.f7.params.toList args.toList ds p := hA0
  rw [Try.params7] at hA hval
  obtain ⟨v0, vs0, d0, ds0, p0, q0, hargs, rfl, rfl, h0, r0⟩ := trodAll_cons hA
  obtain ⟨v1, vs1, d1, ds1, p1, q1, rfl, rfl, rfl, h1, r1⟩ := trodAll_cons r0
  obtain ⟨rfl, rfl, rfl⟩ := trodAll_nil r1
  obtain rfl : args = #[v0, v1] := by cases args; simp_all
  obtain ⟨rfl, rfl⟩ := trodVars_none hV
  have k0 := h0
  have lt0 : ∀ x ∈ p0, x.block < W.heap.size := by obtain ⟨m, hm⟩ := k0; exact DataW.trod_lt m _ _ _ hm
  obtain ⟨a0, n0, cap0, C0, rfl, hC0, hn0⟩ := open_bytesT (hval 0 22 v0 rfl rfl) h0
  have k1 := h1
  have lt1 : ∀ x ∈ p1, x.block < W.heap.size := by obtain ⟨m, hm⟩ := k1; exact DataW.trod_lt m _ _ _ hm
  obtain ⟨a1, n1, cap1, C1, rfl, hC1, hn1⟩ := open_bytesT (hval 1 22 v1 rfl rfl) h1
  clear hA0 hval0
  refine (walk W a0 n0 cap0 C0 hC0 hn0 a1 n1 cap1 C1 hC1 hn1).mono fun e W' ⟨he, bel⟩ => ?_
  subst he
  exact ⟨_, rfl, _, _, _, [], _, [], hW', trodAll_mk1 (shut_bool Try.underlying4 _), (trodAll_cons_mk (Below.trod laidOut (by kernel_rfl) (of_decide_eq_true (by kernel_rfl)) k0 bel lt0) (trodAll_cons_mk (Below.trod laidOut (by kernel_rfl) (of_decide_eq_true (by kernel_rfl)) k1 bel lt1) trodAll_mk0)), rfl, bel.frame _, fun h => by cases h⟩

theorem over : Rows.fnTrtBoundsRow.holds Try.pinned (OpenSpec.ofChange Rows.fnTrtBoundsSpec) :=
  OpenClaim.holds_of_wide 7 Try.f7 rfl rfl rfl rfl rfl rfl rfl ⟨rfl, rfl, rfl, rfl, rfl⟩ rfl rfl rfl rfl rfl (by kernel_rfl) Try.func7 (by kernel_rfl)
    (of_decide_eq_true (by kernel_rfl)) (by unfold Func.isWrapper; first | (rw [if_pos (by decide +kernel)]; kernel_rfl) | (rw [if_neg (by decide +kernel)]; exact ⟨rfl, rfl⟩))
    (fun os started H enc _ => lifted os started H enc)

end Go.Proofs.Ytpnldfembbfgdaa.fnTrtBounds
namespace Go.Proofs.Ytpnldfembbfgdaa
/-- The statement. -/
theorem fnTrtBounds_holds : Rows.FnTrtBoundsSaid := fnTrtBounds.over
#print axioms fnTrtBounds_holds
end Go.Proofs.Ytpnldfembbfgdaa
