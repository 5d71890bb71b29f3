/-
  For all bytes FnTrtAlone returns true, and what came in reads behind the call as it did. No condition. (who is alone knows all)
-/
import Derived.Test.YtjggppnffkcmbaaJTrtAloneB
import Derived.Test.YtjggppnffkcmbaaJTrtAloneC
import Derived.Test.YtjggppnffkcmbaaOpen
namespace Go.Proofs.Ytjggppnffkcmbaa.fnTrtAlone
open Go.ChangeShapes Go.WideShapes Go.ChangeAt Go.RowKit
set_option linter.unusedVariables false
set_option maxRecDepth 100000

theorem open_bytesT {H : Type} {enc : TypeId × Value → H} {W : World} {r : Reach} {b0 : Nat} {v : Value} {d : DataW H} {p : List MemPlace}
    (hv : Value.okWide Try.prog W r b0 22 v) (h : DataW.Trod enc Try.prog W 0 (fun _ => true) true 22 v d p) : ∃ a n cap zs, v = .slice a n cap ∧ BInts W a n zs ∧ (n ≤ cap ∧ cap ≤ maxLen) := by
  obtain ⟨a0, len0, cap0, rfl⟩ := okWide_slice Try.underlying22 hv
  obtain ⟨fuel, hf⟩ := h
  rcases open_ints Try.underlying22 Try.underlying5 (by kernel_rfl) hf with ⟨hcs, _⟩ | ⟨x, l, c, zs, hcs, _, hl, hm, hz, _, hcell, hwz⟩
  · simp [Value.cells] at hcs
    obtain ⟨rfl, rfl, rfl⟩ := hcs
    exact ⟨none, 0, 0, [], rfl, ⟨rfl, fun i hi => by omega, fun i => by simp⟩, by omega, by unfold maxLen; omega⟩
  · simp [Value.cells] at hcs
    obtain ⟨rfl, rfl, rfl⟩ := hcs
    have hz' : zs.length = cap0 := by simpa using hz
    refine ⟨some x, len0, cap0, zs.take len0, rfl, ⟨by rw [List.length_take]; omega, fun i hi => ?_, fun i => ?_⟩, hl, hm⟩
    · obtain ⟨b, off, spot⟩ := x
      have hc0 := hcell 0 (by omega)
      have hspot : spot = none := by simpa [Addr.add] using World.cell?_spot hc0
      subst hspot
      refine ⟨b, off, rfl, ?_⟩
      have hc := hcell i (by omega)
      have : W.cell? ⟨b, off + i, none⟩ = some (.int .u8 (zs.getD i 0)) := by
        by_cases h0 : i = 0
        · subst h0; simpa [Addr.add] using hc
        · simpa [Addr.add, h0] using hc
      rw [this]
      simp [hi]
    · by_cases hi : i < (zs.take len0).length
      · rw [List.getElem?_eq_getElem hi]
        have := hwz _ (List.mem_of_mem_take (List.getElem_mem hi))
        simpa [Lit.wf, IntKind.min, IntKind.max, IntKind.signed, IntKind.bits] using this
      · rw [List.getElem?_eq_none (by omega)]
        simp

theorem bans_no {n m : Nat} {C D : List Int} {ss : List IV} {s : Int} {k : Nat} {E : List Int} {fn fm : Nat} {FC FD : List Int} {FK : Int} {l : Nat} {U : List Int} {lo hi : Int} (h : bansB n m C D ss s k E fn fm FC FD FK l U = (lo, hi, false)) : lo = 0 ∧ hi = 0 := by
  unfold bansB at h
  split at h
  · unfold bnds at h
    split at h
    · simp at h
    · split at h
      · simp only [Prod.mk.injEq] at h
        exact ⟨h.1.symm, h.2.1.symm⟩
      · simp at h
  · simp only [Prod.mk.injEq] at h
    exact ⟨h.1.symm, h.2.1.symm⟩
theorem bans_yes {n m : Nat} {C D : List Int} {ss : List IV} {s : Int} {k : Nat} {E : List Int} {fn fm : Nat} {FC FD : List Int} {FK : Int} {l : Nat} {U : List Int} {lo hi : Int} (h : bansB n m C D ss s k E fn fm FC FD FK l U = (lo, hi, true)) : n = 3 ∧ 1 ≤ m ∧ m ≤ 3 ∧ 0 ≤ s ∧ s < m ∧ k = 3 ∧ bnd 10000 C ∧ bnd 20000 E := by
  unfold bansB at h
  split at h
  · rename_i hb
    unfold bokB at hb
    simp only [Bool.and_eq_true] at hb
    obtain ⟨a, b, c, d, _, e, f, g, i, _⟩ := viewB_elim hb.1
    exact ⟨a, c, d, e, f, g, b, i⟩
  · simp at h
theorem ints_off0 {S : Nat → Prop} {W W' : World} {a : Option Addr} {n : Nat} {zs : List Int} (h : Ints W a n zs) (t : Touch S W W') (hs : 0 < n → ∀ b o, a = some ⟨b, o, none⟩ → ¬ S b) : Ints W' a n zs := by
  by_cases h0 : 0 < n
  · exact h.off t (fun b o e k => hs h0 b o e k)
  · exact ⟨h.1, fun i hi => by omega⟩
/-- What the first sites give is nothing, but for one. -/
def Alo (G : List Int) (s : Int) (k : Nat) : Prop := ∀ i : Nat, i < k → (i : Int) ≠ s → G[i]?.getD 0 = 0
theorem alo_set {G : List Int} {s : Int} {k : Nat} (h : Alo G s k) (hk : k < G.length) : Alo (G.set k 0) s (k + 1) := fun i hi hs => by
  by_cases e : i = k
  · subst e; rw [List.getElem?_set_self hk]; rfl
  · rw [List.getElem?_set_ne (fun x => e x.symm)]; exact h i (by omega) hs
theorem alo_own {G : List Int} {s : Int} {k : Nat} (h : Alo G s k) (hk : (k : Int) = s) : Alo G s (k + 1) := fun i hi hs => h i (by omega) hs
theorem alo_others {G : List Int} {s : Int} : ∀ k, Alo G s k → others G s k = 0
  | 0, _ => rfl
  | k + 1, h => by
    rw [others, alo_others k (fun i hi => h i (by omega))]
    split
    · rfl
    · rename_i hs
      rw [h k (by omega) hs]
      exact IntWalk.wrap64_in _ ⟨by omega, by omega⟩
theorem alone_of {n m : Nat} {C D : List Int} {ss : List IV} {s : Int} {k : Nat} {E : List Int} {fn fm : Nat} {FC FD : List Int} {FK : Int} {l : Nat} {U : List Int} {lo hi : Int}
    (hD : Alo D s m) (h : bansB n m C D ss s k E fn fm FC FD FK l U = (lo, hi, true)) : lo = hi ∧ lo = atV FC FD FK (List.zipWith (· + ·) C E) U := by
  unfold bansB at h
  split at h
  · unfold bnds at h
    rw [alo_others m hD] at h
    split at h
    · simp only [Prod.mk.injEq] at h
      omega
    · split at h
      · simp at h
      · simp only [Prod.mk.injEq] at h
        omega
  · simp at h
theorem one_isg {W : World} {B : Nat} {a : Option Addr} {n c : Nat} {x : List Int} (h : W.cell? ⟨B, 0, none⟩ = some (.slice a n c)) (hI : Ints W a n x) (hn : n ≤ 1048576) : ISG W (some ⟨B, 0, none⟩) [⟨a, n, c, x⟩] := fun i hi => by
  have : i = 0 := by simpa using hi
  subst this
  exact ⟨B, 0, rfl, h, hI, hn⟩

set_option maxHeartbeats 12800000 in
theorem walk (w : World) (a : Option Addr) (n cap : Nat) (A0 : List Int) (hA0 : BInts w a n A0) (hn : n ≤ cap ∧ cap ≤ maxLen) :
    Calls Try.prog 5 #[.slice a n cap] w fun e w' => e = .returned (.bool true) ∧ Below w.heap.size w w' := by
  obtain ⟨hn2, hn3⟩ := hn
  by_cases hn1 : n ≤ 1048576
  · go_enter Try.func5, Try.ntmps5
    go_wp2_with fail
    refine (dBounds _ _ _ A0 _ hA0 hn2 hn1 hn3).mono ?_
    rintro ee w1 ⟨ba, bn, bc, ga, gn, gc, B, G, pa, pn, pc, ts, s, ea, en, ec, E, fa, fn, fc, fb, fm, fd, F, ua, un, uc, U, rfl, b1, hB, hG, hbn, hgn, _, hP, hpn, hpn1, hE, hen, hF, hU, hun, hs0, hs2, gb, hO, hoff⟩
    have BB := b1
    clear b1
    have HP : Hid (ts.length = pn) := hpn
    clear hpn hG
    have HOF : Hid (0 < gn → OffG gb ba pa ts ea fa fn fb fm ua) := fun h0 => (hoff h0).2
    have HW : Hid (0 < gn → w.heap.size ≤ gb) := fun h0 => (hoff h0).1
    clear hoff
    have al := (Below.refl (w1).heap.size (w1)).alloc (Nat.le_refl _) (.cells #[.slice ba bn bc, .slice ga gn gc] 45)
    replace BB := BB.trans (al.mono BB.size)
    replace hB := hB.below al
    replace hO := hO.below al
    replace hP := hP.below al
    replace hE := hE.below al
    replace hF := hF.below al
    replace hU := hU.below al
    clear al
    have q3 := Cel.new (w1) [.slice ba bn bc, .slice ga gn gc] 45
    have al := (Below.refl ((w1).alloc (.cells #[.slice ba bn bc, .slice ga gn gc] 45)).heap.size ((w1).alloc (.cells #[.slice ba bn bc, .slice ga gn gc] 45))).alloc (Nat.le_refl _) (.cells #[.slice fa fn fc, .slice fb fm fd, .int .i64 F.2.2] 34)
    replace BB := BB.trans (al.mono BB.size)
    replace hB := hB.below al
    replace hO := hO.below al
    replace hP := hP.below al
    replace hE := hE.below al
    replace hF := hF.below al
    replace hU := hU.below al
    replace q3 := q3.below al
    clear al
    have q7 := Cel.new ((w1).alloc (.cells #[.slice ba bn bc, .slice ga gn gc] 45)) [.slice fa fn fc, .slice fb fm fd, .int .i64 F.2.2] 34
    simp only [World.size_alloc] at q7
    have g3_0 := q3.cell 0
    have g3_1 := q3.cell 1
    have g7_0 := q7.cell 0
    have g7_1 := q7.cell 1
    have g7_2 := q7.cell 2
    simp only [List.getElem?_cons_zero, List.getElem?_cons_succ] at g3_0 g3_1 g7_0 g7_1 g7_2
    go_wp2_with fail
    obtain ⟨W2, hW2⟩ : ∃ W, W = ((w1).alloc (.cells #[.slice ba bn bc, .slice ga gn gc] 45)).alloc (.cells #[.slice fa fn fc, .slice fb fm fd, .int .i64 F.2.2] 34) := ⟨_, rfl⟩
    rw [← hW2]
    rw [← hW2] at hB hO hP hE hF hU q3 q7 BB g3_0 g3_1 g7_0 g7_1 g7_2
    clear hW2
    obtain ⟨X7, hX7⟩ : ∃ x, x = w1.heap.size + 1 := ⟨_, rfl⟩
    rw [← hX7]
    rw [← hX7] at q7 g7_0 g7_1 g7_2
    clear hX7
    obtain ⟨X3, hX3⟩ : ∃ x, x = w1.heap.size := ⟨_, rfl⟩
    rw [← hX3]
    rw [← hX3] at q3 g3_0 g3_1
    clear hX3
    clear g3_0 g3_1 g7_0 g7_1 g7_2
    have HGB : Hid (0 < gn → gb < W2.heap.size ∧ X3 ≠ gb ∧ X7 ≠ gb) := fun h0 => ⟨hO.lt h0, fun e => by (have h1 := (hO.pos h0).2.1 0 h0; have h2 := q3.cell 0; rw [e] at h2; rw [h1] at h2; simp at h2), fun e => by (have h1 := (hO.pos h0).2.1 0 h0; have h2 := q7.cell 0; rw [e] at h2; rw [h1] at h2; simp at h2)⟩
    go_loopw [9] (fun i wr => ∃ (k : Nat) (D : List Int), k ≤ gn ∧ i = .int .i64 k ∧ OwnX wr ga gb gn D ∧ Alo D s k ∧ Ints wr ba bn B ∧ ISG wr pa ts ∧ Ints wr ea en E ∧ FA wr fa fn fb fm F ∧ Ints wr ua un U ∧ Cel wr X3 [.slice ba bn bc, .slice ga gn gc] 45 ∧ Cel wr X7 [.slice fa fn fc, .slice fb fm fd, .int .i64 F.2.2] 34 ∧ Below w.heap.size w wr) (fun i _ => gn - (intOf i).toNat)
    case atStart => exact ⟨0, G, by omega, rfl, hO, fun i hi => by omega, hB, hP, hE, hF, hU, q3, q7, BB⟩
    case round =>
      clear hB hO hP hE hF hU q3 q7 BB
      obtain ⟨k, D, hk, rfl, hO, hal, hB, hP, hE, hF, hU, q3, q7, BB⟩ := hrel
      by_cases hlt : k < gn
      · have hlt' : (k : Int) < (gn : Int) := by omega
        have h0 : 0 < gn := by omega
        obtain ⟨rfl, hc, hf⟩ := hO.pos h0
        have d0 := hc k hlt
        have d1 := hf k
        have HD : Hid (D.length = gn) := hO.1
        clear hc hf
        by_cases hs : (k : Int) = s
        · subst hs
          have hss : ((k : Int) != (k : Int)) = false := by simp
          clear d0 d1
          have g3_0 := q3.cell 0
          have g3_1 := q3.cell 1
          simp only [List.getElem?_cons_zero, List.getElem?_cons_succ] at g3_0 g3_1
          go_wp2
          go_roundw
          case rel => exact ⟨k + 1, D, by omega, by go_num, hO, alo_own hal rfl, hB, hP, hE, hF, hU, q3, q7, BB⟩
          case measure => simp [intOf]; omega
        · have hss : ((k : Int) != s) = true := by simpa using hs
          have g3_0 := q3.cell 0
          have g3_1 := q3.cell 1
          simp only [List.getElem?_cons_zero, List.getElem?_cons_succ] at g3_0 g3_1
          have TX : Touch (fun z => z = gb) wr (wr.setCell ⟨gb, k, none⟩ (.int .i64 0)) := Touch.setCell (S := fun z => z = gb) (Touch.refl _ _) rfl _
          have OF := HOF.out h0
          have GB := HGB.out h0
          have hO2 := hO.set (i := k) hlt 0
          have lw := HW.out h0
          have hB2 := hB.off TX (fun b o e h => OF.b b o e h)
          have hP2 := hP.off TX (fun _ b o e h => OF.p b o e h) (fun i hi b o e h => OF.q i hi b o e h)
          have hE2 := hE.off TX (fun b o e h => OF.e b o e h)
          have hU2 := hU.off TX (fun b o e h => OF.u b o e h)
          have hF2 : FA (wr.setCell ⟨gb, k, none⟩ (.int .i64 0)) fa fn fb fm F := ⟨ints_off0 hF.C TX (fun h b o e hh => OF.f h b o e hh), ints_off0 hF.D TX (fun h b o e hh => OF.g h b o e hh), hF.hn, hF.hm⟩
          have q32 := q3.touch TX (fun h => GB.2.1 h)
          have q72 := q7.touch TX (fun h => GB.2.2 h)
          have BB2 := BB.setCell (p := ⟨gb, k, none⟩) (by simp only []; omega) (.int .i64 0)
          clear TX OF GB hB hP hE hU hF q3 q7 BB
          go_wp2
          go_roundw
          case rel => exact ⟨k + 1, _, by omega, by go_num, hO2, alo_set hal (by rw [HD.out]; exact hlt), hB2, hP2, hE2, hF2, hU2, q32, q72, BB2⟩
          case measure => simp [intOf]; omega
      · have hlt' : ¬ (k : Int) < (gn : Int) := by omega
        obtain rfl : k = gn := by omega
        obtain ⟨wq, hwq⟩ : ∃ x, x = wr := ⟨_, rfl⟩
        subst hwq
        have hG := hO.ints
        clear hO HOF HGB HW
        have HAL : Hid (Alo D s k) := hal
        clear hal
        obtain ⟨lo, hw, ok, hA⟩ : ∃ lo hi ok, bansB bn k B D ts s en E fn fm F.1 F.2.1 F.2.2 un U = (lo, hi, ok) := by (rcases hq : bansB bn k B D ts s en E fn fm F.1 F.2.1 F.2.2 un U with ⟨x, y, z⟩; exact ⟨x, y, z, rfl⟩)
        have HA : Hid (bansB bn k B D ts s en E fn fm F.1 F.2.1 F.2.2 un U = (lo, hw, ok)) := hA
        clear hA
        have hLL : (lo != lo) = false := by simp
        have hHH : (hw != hw) = false := by simp
        have hOO : (ok != ok) = false := by cases ok <;> rfl
        have g3_0 := q3.cell 0
        have g3_1 := q3.cell 1
        have g7_0 := q7.cell 0
        have g7_1 := q7.cell 1
        have g7_2 := q7.cell 2
        simp only [List.getElem?_cons_zero, List.getElem?_cons_succ] at g3_0 g3_1 g7_0 g7_1 g7_2
        go_wp2_with fail
        refine (ibounds_any _ _ _ _ _ _ _ _ _ s _ _ _ _ _ _ _ _ _ F.2.2 _ _ _ B D E F.1 F.2.1 U ts _ hB hG hE hF.C hF.D hU HP.out hP (by omega) (by omega) (by omega) hF.hn hF.hm (by omega) (by omega)).mono ?_
        rintro ee w3 ⟨rfl, b2⟩
        rw [HA.out]
        simp only [ansV]
        clear g3_0 g3_1 g7_0 g7_1 g7_2
        replace BB := BB.trans (b2.mono BB.size)
        replace hB := hB.below b2
        replace hG := hG.below b2
        replace hP := hP.below b2
        replace hE := hE.below b2
        replace hF := hF.below b2
        replace hU := hU.below b2
        replace q3 := q3.below b2
        replace q7 := q7.below b2
        clear b2
        have g3_0 := q3.cell 0
        have g3_1 := q3.cell 1
        have g7_0 := q7.cell 0
        have g7_1 := q7.cell 1
        have g7_2 := q7.cell 2
        simp only [List.getElem?_cons_zero, List.getElem?_cons_succ] at g3_0 g3_1 g7_0 g7_1 g7_2
        go_wp2_with fail
        refine (sbounds_any _ _ _ _ _ _ _ _ _ s _ _ _ _ _ _ _ _ _ F.2.2 _ _ _ B D E F.1 F.2.1 U ts _ hB hG hE hF.C hF.D hU HP.out hP (by omega) (by omega) (by omega) hF.hn hF.hm (by omega) (by omega)).mono ?_
        rintro ee w4 ⟨rfl, b2⟩
        rw [HA.out]
        simp only [ansV]
        clear g3_0 g3_1 g7_0 g7_1 g7_2
        replace BB := BB.trans (b2.mono BB.size)
        replace hB := hB.below b2
        replace hG := hG.below b2
        replace hP := hP.below b2
        replace hE := hE.below b2
        replace hF := hF.below b2
        replace hU := hU.below b2
        replace q3 := q3.below b2
        replace q7 := q7.below b2
        clear b2
        cases ok
        · obtain ⟨rfl, rfl⟩ := bans_no HA.out
          clear HA hLL hHH hOO
          have g3_0 := q3.cell 0
          have g3_1 := q3.cell 1
          have g7_0 := q7.cell 0
          have g7_1 := q7.cell 1
          have g7_2 := q7.cell 2
          simp only [List.getElem?_cons_zero, List.getElem?_cons_succ] at g3_0 g3_1 g7_0 g7_1 g7_2
          go_wp2_with fail
          refine (coHolds_any _).mono ?_
          rintro ee w5 ⟨rfl, bh⟩
          clear g3_0 g3_1 g7_0 g7_1 g7_2
          replace BB := BB.trans (bh.mono BB.size)
          replace hB := hB.below bh
          replace hG := hG.below bh
          replace hP := hP.below bh
          replace hE := hE.below bh
          replace hF := hF.below bh
          replace hU := hU.below bh
          replace q3 := q3.below bh
          replace q7 := q7.below bh
          clear bh
          go_wp2
          go_ret
          exact ⟨rfl, BB⟩
        · obtain ⟨e1, e2, e3, e4, e5, e6, e7, e8⟩ := bans_yes HA.out
          have HZ := alone_of HAL.out HA.out
          obtain ⟨rfl, hlo⟩ := HZ
          subst e1
          subst e6
          have HLO : Hid (lo = atV F.1 F.2.1 F.2.2 (List.zipWith (· + ·) B E) U) := hlo
          have HE7 : Hid (bnd 10000 B) := e7
          have HE8 : Hid (bnd 20000 E) := e8
          clear hlo e7 e8 HA HAL hHH
          go_upto_region 15 with fail
          refine wp_region_ends (fun X => X.cell? ⟨X3, 0, none⟩ = some (.slice ba 3 bc) ∧ X.cell? ⟨X3, 1, none⟩ = some (.slice ga k gc) ∧ X.cell? ⟨X7, 0, none⟩ = some (.slice fa fn fc) ∧ X.cell? ⟨X7, 1, none⟩ = some (.slice fb fm fd) ∧ X.cell? ⟨X7, 2, none⟩ = some (.int .i64 F.2.2)) (fun _ => True) 12 (by kernel_rfl) ?_
          have dr : Below w4.heap.size w4 w4.drew := (Below.refl _ _).drew
          replace BB := BB.trans (dr.mono BB.size)
          replace hB := hB.below dr
          replace hG := hG.below dr
          replace hP := hP.below dr
          replace hE := hE.below dr
          replace hF := hF.below dr
          replace hU := hU.below dr
          replace q3 := q3.below dr
          replace q7 := q7.below dr
          clear dr
          obtain ⟨V, hV⟩ : ∃ V, V = w4.drew := ⟨_, rfl⟩
          rw [← hV]
          rw [← hV] at hB hG hP hE hF hU q3 q7 BB
          clear hV
          have hSS : (V.cell? ⟨X3, 0, none⟩ = some (.slice ba 3 bc) ∧ V.cell? ⟨X3, 1, none⟩ = some (.slice ga k gc) ∧ V.cell? ⟨X7, 0, none⟩ = some (.slice fa fn fc) ∧ V.cell? ⟨X7, 1, none⟩ = some (.slice fb fm fd) ∧ V.cell? ⟨X7, 2, none⟩ = some (.int .i64 F.2.2)) ∧ True := ⟨⟨q3.cell 0, q3.cell 1, q7.cell 0, q7.cell 1, q7.cell 2⟩, trivial⟩
          refine tkL (i := 0) rfl hSS ?_
          refine tkL (i := 1) rfl hSS ?_
          refine tkL (i := 2) rfl hSS ?_
          refine tkL (i := 3) rfl hSS ?_
          refine tkL (i := 6) rfl hSS ?_
          simp only [Act.put, List.setIfInBounds_toArray, List.set_cons_succ, List.set_cons_zero, List.getElem_toArray, List.getElem_cons_succ, List.getElem_cons_zero]
          refine wpAnyE_one (i := 4) (by kernel_rfl) rfl (fun Kn hK => ?_)
          go_simp
          have al := (Below.refl V.heap.size V).alloc (Nat.le_refl _) (.cells #[.slice ea 3 ec] 26)
          have cl := Cel.new V [.slice ea 3 ec] 26
          replace BB := BB.trans (al.mono BB.size)
          replace hB := hB.below al
          replace hG := hG.below al
          replace hP := hP.below al
          replace hE := hE.below al
          replace hF := hF.below al
          replace hU := hU.below al
          replace q3 := q3.below al
          replace q7 := q7.below al
          clear al
          have hQ1 := one_isg (cl.cell 0) hE (by omega)
          clear cl
          obtain ⟨V1, hV1⟩ : ∃ W, W = V.alloc (.cells #[.slice ea 3 ec] 26) := ⟨_, rfl⟩
          rw [← hV1]
          rw [← hV1] at hB hG hP hE hF hU hQ1 q3 q7 BB
          clear hV1
          clear hSS
          have hSS : (V1.cell? ⟨X3, 0, none⟩ = some (.slice ba 3 bc) ∧ V1.cell? ⟨X3, 1, none⟩ = some (.slice ga k gc) ∧ V1.cell? ⟨X7, 0, none⟩ = some (.slice fa fn fc) ∧ V1.cell? ⟨X7, 1, none⟩ = some (.slice fb fm fd) ∧ V1.cell? ⟨X7, 2, none⟩ = some (.int .i64 F.2.2)) ∧ True := ⟨⟨q3.cell 0, q3.cell 1, q7.cell 0, q7.cell 1, q7.cell 2⟩, trivial⟩
          refine hK.out _ _ ⟨hSS.1, fun _ => trivial⟩ ?_
          clear hK
          refine wpAnyE_one (i := 5) (by kernel_rfl) rfl (fun Kn hK => ?_)
          go_simp
          refine (cosum_any _ _ B _ 1 _ [⟨ea, 3, ec, E⟩] _ hB hQ1 rfl (by omega) (fun i hi => by (have : i = 0 := by omega); subst this; rfl) HE7.out (fun i hi => by (have : i = 0 := by omega); subst this; exact HE8.out)).mono ?_
          rintro ee V2 ⟨vg, vc, rfl, hV, b4⟩
          replace BB := BB.trans (b4.mono BB.size)
          replace hB := hB.below b4
          replace hG := hG.below b4
          replace hP := hP.below b4
          replace hE := hE.below b4
          replace hF := hF.below b4
          replace hU := hU.below b4
          replace hQ1 := hQ1.below b4
          replace q3 := q3.below b4
          replace q7 := q7.below b4
          clear b4
          dsimp only
          clear hSS
          have hSS : (V2.cell? ⟨X3, 0, none⟩ = some (.slice ba 3 bc) ∧ V2.cell? ⟨X3, 1, none⟩ = some (.slice ga k gc) ∧ V2.cell? ⟨X7, 0, none⟩ = some (.slice fa fn fc) ∧ V2.cell? ⟨X7, 1, none⟩ = some (.slice fb fm fd) ∧ V2.cell? ⟨X7, 2, none⟩ = some (.int .i64 F.2.2)) ∧ True := ⟨⟨q3.cell 0, q3.cell 1, q7.cell 0, q7.cell 1, q7.cell 2⟩, trivial⟩
          refine hK.out _ _ ⟨hSS.1, fun _ => trivial⟩ ?_
          clear hK
          refine wpAnyE_one (i := 7) (by kernel_rfl) rfl (fun Kn hK => ?_)
          go_simp
          refine (pAt F (sumT B [⟨ea, 3, ec, E⟩] 1) U _ _ _ _ _ _ _ _ _ _ _ _ _ hF hV hU (by omega) (by omega)).mono ?_
          rintro ee V3 ⟨rfl, b5⟩
          replace BB := BB.trans (b5.mono BB.size)
          replace hB := hB.below b5
          replace hG := hG.below b5
          replace hP := hP.below b5
          replace hE := hE.below b5
          replace hF := hF.below b5
          replace hU := hU.below b5
          replace hQ1 := hQ1.below b5
          replace hV := hV.below b5
          replace q3 := q3.below b5
          replace q7 := q7.below b5
          clear b5
          dsimp only
          clear hSS
          have hSS : (V3.cell? ⟨X3, 0, none⟩ = some (.slice ba 3 bc) ∧ V3.cell? ⟨X3, 1, none⟩ = some (.slice ga k gc) ∧ V3.cell? ⟨X7, 0, none⟩ = some (.slice fa fn fc) ∧ V3.cell? ⟨X7, 1, none⟩ = some (.slice fb fm fd) ∧ V3.cell? ⟨X7, 2, none⟩ = some (.int .i64 F.2.2)) ∧ True := ⟨⟨q3.cell 0, q3.cell 1, q7.cell 0, q7.cell 1, q7.cell 2⟩, trivial⟩
          refine hK.out _ _ ⟨hSS.1, fun _ => trivial⟩ ?_
          clear hK
          refine tkL (i := 8) rfl hSS ?_
          refine tkL (i := 9) rfl hSS ?_
          refine tkL (i := 10) rfl hSS ?_
          refine tkL (i := 11) rfl hSS ?_
          refine wpAnyE_one (i := 12) (by kernel_rfl) rfl (fun Kn hK => ?_)
          go_simp
          clear hSS
          have hSS : (V3.cell? ⟨X3, 0, none⟩ = some (.slice ba 3 bc) ∧ V3.cell? ⟨X3, 1, none⟩ = some (.slice ga k gc) ∧ V3.cell? ⟨X7, 0, none⟩ = some (.slice fa fn fc) ∧ V3.cell? ⟨X7, 1, none⟩ = some (.slice fb fm fd) ∧ V3.cell? ⟨X7, 2, none⟩ = some (.int .i64 F.2.2)) ∧ True := ⟨⟨q3.cell 0, q3.cell 1, q7.cell 0, q7.cell 1, q7.cell 2⟩, trivial⟩
          refine hK.out _ _ ⟨hSS.1, fun _ => trivial⟩ ?_
          clear hK
          refine wpAnyE_done (by kernel_rfl) ?_ _
          clear hSS
          have hsum : sumT B [⟨ea, 3, ec, E⟩] 1 = List.zipWith (· + ·) B E := rfl
          rw [hsum]
          clear hB hG hP hE hF hU hQ1 hV q3 q7
          cases hfi : atB F (List.zipWith (· + ·) B E) U
          · clear hfi
            go_wp2
            go_ret
            exact ⟨rfl, BB⟩
          · have hat : atP F (List.zipWith (· + ·) B E) U = lo := (atN_yes hfi).trans HLO.out.symm
            rw [hat]
            go_wp2
            go_ret
            exact ⟨rfl, BB⟩
  · go_enter Try.func5, Try.ntmps5
    go_wp2
    go_ret
    exact ⟨rfl, Below.refl _ _⟩

/-! ### The row's step -/
set_option maxRecDepth 100000 in
theorem lifted (os : Os) (started : os.Started) (H : Type) (enc : TypeId × Value → H) :
    ReturnsInHanded {} Try.checked os 5 .any (Rows.fnTrtAloneSpec.pre6 enc Try.prog Try.f5 Rows.fnTrtAloneRow.domain false) (Rows.fnTrtAloneSpec.post enc Try.prog Try.f5 false true false false) := by
  refine returnsInHanded_of_change (C := Try.checked) own started (by kernel_rfl) Try.func5
    (ChangeSpec.witness6 (enc := enc) (C := Try.checked) false ⟨#[], #[.slice none 0 0], []⟩ 8 (by kernel_rfl) (by kernel_rfl) (by kernel_rfl) (by kernel_rfl)) ?_
  intro W base args ds gs before hval0 hW hcnd _
  have hval : ∀ (j : Nat) t v, Try.f5.params[j]? = some t → args[j]? = some v → Value.okWide Try.prog W .any base t v := hval0
  have hW' := hW
  obtain ⟨p, q, hA0, hV, rfl, hfz, hnd⟩ := hW
  have hA : DataW.TrodAll enc Try.prog W 0 (fun _ => true) true Try.f5.params.toList args.toList ds p := hA0
  rw [Try.params5] at hA hval
  obtain ⟨v0, vs0, d0, ds0, p0, q0, hargs, rfl, rfl, h0, r0⟩ := trodAll_cons hA
  obtain ⟨rfl, rfl, rfl⟩ := trodAll_nil r0
  obtain rfl : args = #[v0] := by cases args; simp_all
  obtain ⟨rfl, rfl⟩ := trodVars_none hV
  have k0 := h0
  have lt0 : ∀ x ∈ p0, x.block < W.heap.size := by obtain ⟨m, hm⟩ := k0; exact DataW.trod_lt m _ _ _ hm
  obtain ⟨a0, n0, cap0, C0, rfl, hC0, hn0⟩ := open_bytesT (hval 0 22 v0 rfl rfl) h0
  clear hA0 hval0
  refine (walk W a0 n0 cap0 C0 hC0 hn0).mono fun e W' ⟨he, bel⟩ => ?_
  subst he
  exact ⟨_, rfl, _, _, _, [], _, [], hW', trodAll_mk1 (shut_bool Try.underlying4 _), (trodAll_cons_mk (Below.trod laidOut (by kernel_rfl) (of_decide_eq_true (by kernel_rfl)) k0 bel lt0) trodAll_mk0), rfl, bel.frame _, fun h => by cases h⟩

theorem over : Rows.fnTrtAloneRow.holds Try.pinned (OpenSpec.ofChange Rows.fnTrtAloneSpec) :=
  OpenClaim.holds_of_wide 5 Try.f5 rfl rfl rfl rfl rfl rfl rfl ⟨rfl, rfl, rfl, rfl, rfl⟩ rfl rfl rfl rfl rfl (by kernel_rfl) Try.func5 (by kernel_rfl)
    (of_decide_eq_true (by kernel_rfl)) (by unfold Func.isWrapper; first | (rw [if_pos (by decide +kernel)]; kernel_rfl) | (rw [if_neg (by decide +kernel)]; exact ⟨rfl, rfl⟩))
    (fun os started H enc _ => lifted os started H enc)

end Go.Proofs.Ytjggppnffkcmbaa.fnTrtAlone
namespace Go.Proofs.Ytjggppnffkcmbaa
/-- The statement. -/
theorem fnTrtAlone_holds : Rows.FnTrtAloneSaid := fnTrtAlone.over
#print axioms fnTrtAlone_holds
end Go.Proofs.Ytjggppnffkcmbaa
