/-
  For all bytes FnFrmPot returns true, and what came in reads behind the call as it did. No condition. (a pot is what it has)
-/
import Derived.Test.YtjhbapgpeimlhaaDrL
import Derived.Test.YtjhbapgpeimlhaaOpen
namespace Go.Proofs.Ytjhbapgpeimlhaa.fnFrmPot
open Go.ChangeShapes Go.WideShapes Go.ChangeAt Go.RowKit
set_option linter.unusedVariables false
set_option maxRecDepth 100000

theorem open_bytesT {H : Type} {enc : TypeId × Value → H} {W : World} {r : Reach} {b0 : Nat} {v : Value} {d : DataW H} {p : List MemPlace}
    (hv : Value.okWide Try.prog W r b0 22 v) (h : DataW.Trod enc Try.prog W 0 (fun _ => true) true 22 v d p) : ∃ a n cap zs, v = .slice a n cap ∧ BInts W a n zs ∧ (n ≤ cap ∧ cap ≤ maxLen) := by
  obtain ⟨a0, len0, cap0, rfl⟩ := okWide_slice Try.underlying22 hv
  obtain ⟨fuel, hf⟩ := h
  rcases open_ints Try.underlying22 Try.underlying5 (by kernel_rfl) hf with ⟨hcs, _⟩ | ⟨x, l, c, zs, hcs, _, hl, hm, hz, _, hcell, hwz⟩
  · simp [Value.cells] at hcs
    obtain ⟨rfl, rfl, rfl⟩ := hcs
    exact ⟨none, 0, 0, [], rfl, ⟨rfl, fun i hi => by omega, fun i => by simp⟩, by omega, by unfold maxLen; omega⟩
  · simp [Value.cells] at hcs
    obtain ⟨rfl, rfl, rfl⟩ := hcs
    have hz' : zs.length = cap0 := by simpa using hz
    refine ⟨some x, len0, cap0, zs.take len0, rfl, ⟨by rw [List.length_take]; omega, fun i hi => ?_, fun i => ?_⟩, hl, hm⟩
    · obtain ⟨b, off, spot⟩ := x
      have hc0 := hcell 0 (by omega)
      have hspot : spot = none := by simpa [Addr.add] using World.cell?_spot hc0
      subst hspot
      refine ⟨b, off, rfl, ?_⟩
      have hc := hcell i (by omega)
      have : W.cell? ⟨b, off + i, none⟩ = some (.int .u8 (zs.getD i 0)) := by
        by_cases h0 : i = 0
        · subst h0; simpa [Addr.add] using hc
        · simpa [Addr.add, h0] using hc
      rw [this]
      simp [hi]
    · by_cases hi : i < (zs.take len0).length
      · rw [List.getElem?_eq_getElem hi]
        have := hwz _ (List.mem_of_mem_take (List.getElem_mem hi))
        simpa [Lit.wf, IntKind.min, IntKind.max, IntKind.signed, IntKind.bits] using this
      · rw [List.getElem?_eq_none (by omega)]
        simp

theorem two_of {A : List Int} (h : A.length = 2) : ∃ x y, A = [x, y] := by
  match A, h with
  | [x, y], _ => exact ⟨x, y, rfl⟩
theorem three_of {A : List Int} (h : A.length = 3) : ∃ x y z, A = [x, y, z] := by
  match A, h with
  | [x, y, z], _ => exact ⟨x, y, z, rfl⟩
theorem pot_in {V A : List Int} {k p q : Nat} (hp : V.length = p) (hq : A.length = q) (hk : k ≤ 2) (h1 : okN 3 10000 p V = true) (h2 : okN 2 9 q A = true) : atB (potP (k : Int)) V A = true ∧ atP (potP (k : Int)) V A = V[k]?.getD 0 := by
  subst hp
  subst hq
  obtain ⟨x, y, z, rfl⟩ := three_of (A := V) (by have := (okN_elim (by omega) h1).1; omega)
  obtain ⟨s, t, rfl⟩ := two_of (A := A) (by have := (okN_elim (by omega) h2).1; omega)
  have hb : atB (potP (k : Int)) [x, y, z] [s, t] = true := by
    unfold atB atOk
    rw [h1, h2]
    rcases k with _ | _ | _ | k
    · rfl
    · rfl
    · rfl
    · omega
  refine ⟨hb, ?_⟩
  unfold atP
  rw [atN_yes hb]
  rcases k with _ | _ | _ | k
  · simp [potP, potC, potD, atV, dot]
  · simp [potP, potC, potD, atV, dot]
  · simp [potP, potC, potD, atV, dot]
  · omega
theorem pot_no {V A : List Int} {v : Int} {p q : Nat} (hp : V.length = p) (hq : A.length = q) (h : okN 3 10000 p V = false ∨ okN 2 9 q A = false ∨ ¬ (0 ≤ v ∧ v ≤ 2)) : atB (potP v) V A = false := by
  subst hp
  subst hq
  unfold atB atOk
  rcases h with h | h | h
  · rw [h]; simp
  · rw [h]; simp
  · simp [potP, potC_out v h, potD_out v h, formB, okN]

set_option maxHeartbeats 6400000 in
theorem walk (w : World) (a : Option Addr) (n cap : Nat) (A0 : List Int) (hA0 : BInts w a n A0) (hn : n ≤ cap ∧ cap ≤ maxLen) (c : Option Addr) (m cap' : Nat) (B0 : List Int) (hB0 : BInts w c m B0) (hm : m ≤ cap' ∧ cap' ≤ maxLen) :
    Calls Try.prog 6 #[.slice a n cap, .slice c m cap'] w fun e w' => e = .returned (.bool true) ∧ Below w.heap.size w w' := by
  obtain ⟨hn2, hn3⟩ := hn
  obtain ⟨hm2, hm3⟩ := hm
  by_cases hn1 : n ≤ 1048576
  · by_cases hm1 : m ≤ 1048576
    · go_enter Try.func6, Try.ntmps6
      go_wp2_with fail
      refine (dPot _ _ _ A0 _ hA0 hn2 hn1 hn3).mono ?_
      rintro e w1 ⟨v, rfl, v0, v1, b1⟩
      go_wp2_with fail
      refine (dAt _ _ _ B0 _ (hB0.below b1) hm2 hm1 hm3).mono ?_
      rintro e w2 ⟨a1, n1, c1, a2, n2, c2, f0, va, p, cv, V, ua, q, cu, A, rfl, b2, _, hV, hA, hp, hq⟩
      have BB := b1.trans (b2.mono b1.size)
      clear hA0 hB0 b1 b2
      have al := (Below.refl w2.heap.size w2).alloc (Nat.le_refl _) (.cells #[.slice a1 n1 c1, .slice a2 n2 c2, .int .i64 f0.2.2] 25)
      replace BB := BB.trans (al.mono BB.size)
      replace hV := hV.below al
      replace hA := hA.below al
      clear al
      go_wp2_with fail
      refine (pPot v _).mono ?_
      rintro e w3 ⟨a3, n3, c3, a4, n4, c4, rfl, F, b3⟩
      replace BB := BB.trans (b3.mono BB.size)
      replace hV := hV.below b3
      replace hA := hA.below b3
      clear b3
      have al := (Below.refl w3.heap.size w3).alloc (Nat.le_refl _) (.cells #[.slice a3 n3 c3, .slice a4 n4 c4, .int .i64 (potP v).2.2] 25)
      have q9 := Cel.new w3 [.slice a3 n3 c3, .slice a4 n4 c4, .int .i64 (potP v).2.2] 25
      replace BB := BB.trans (al.mono BB.size)
      replace hV := hV.below al
      replace hA := hA.below al
      replace F := F.below al
      clear al
      go_upto_region 6 with fail
      obtain ⟨W4, hW4⟩ : ∃ W, W = w3.alloc (.cells #[.slice a3 n3 c3, .slice a4 n4 c4, .int .i64 (potP v).2.2] 25) := ⟨_, rfl⟩
      obtain ⟨X9, hX9⟩ : ∃ x, x = w3.heap.size := ⟨_, rfl⟩
      rw [← hW4, ← hX9]
      rw [← hW4] at q9 BB hV hA F
      rw [← hX9] at q9
      clear hW4 hX9
      have HV : Hid (V.length = p) := hV.1
      have HA : Hid (A.length = q) := hA.1
      have D0 : Below W4.heap.size W4 W4.drew := (Below.refl _ _).drew
      have KP : Hid (∀ X, Below W4.heap.size W4 X → X.cell? ⟨X9, 0, none⟩ = some (.slice a3 n3 c3) ∧ X.cell? ⟨X9, 1, none⟩ = some (.slice a4 n4 c4) ∧ X.cell? ⟨X9, 2, none⟩ = some (.int .i64 (potP v).2.2)) := fun X hX => by have h := q9.below hX; exact ⟨h.cell 0, h.cell 1, h.cell 2⟩
      have hSS := And.intro (KP.out _ D0) True.intro
      have e1 : (okN 3 10000 p V != okN 3 10000 p V) = false := by simp
      have e2 : (okN 2 9 q A != okN 2 9 q A) = false := by simp
      refine wp_region_ends (fun X => X.cell? ⟨X9, 0, none⟩ = some (.slice a3 n3 c3) ∧ X.cell? ⟨X9, 1, none⟩ = some (.slice a4 n4 c4) ∧ X.cell? ⟨X9, 2, none⟩ = some (.int .i64 (potP v).2.2)) (fun _ => True) 18 (by kernel_rfl) ?_
      refine wpAnyE_take0 (i := 0) (v := ?kv0) rfl (by kernel_rfl) (by kernel_rfl) (by kernel_rfl) (by decide) (fun _ _ _ h => h) (Or.inl ⟨by rfl, ?khy0⟩) hSS ?_
      case khy0 => (intro wz hSw; (try dsimp only at hSw); go_simp; try (with_reducible rfl))
      refine wpAnyE_take0 (i := 1) (v := ?kv1) rfl (by kernel_rfl) (by kernel_rfl) (by kernel_rfl) (by decide) (fun _ _ _ h => h) (Or.inl ⟨by rfl, ?khy1⟩) hSS ?_
      case khy1 => (intro wz hSw; (try dsimp only at hSw); go_simp; try (with_reducible rfl))
      refine wpAnyE_one (i := 2) (by kernel_rfl) rfl (fun K hK => ?_)
      go_simp
      refine (qPot v _).mono ?_
      rintro ee w5 ⟨a5, n5, c5, a6, n6, c6, rfl, G, b6⟩
      have D1 := D0.trans (b6.mono D0.size)
      (try dsimp only)
      replace hSS := And.intro (KP.out _ D1) True.intro
      refine hK.out _ _ ⟨hSS.1, fun _ => trivial⟩ ?_
      clear hK K
      refine wpAnyE_one (i := 3) (by kernel_rfl) rfl (fun K hK => ?_)
      go_simp
      refine (coF_any (potP v) (potP v) _ _ _ _ _ _ _ _ _ _ _ _ _ (F.below D1) G).mono ?_
      rintro ee w6 ⟨rfl, b7⟩
      rw [coP_same]
      have D2 := D1.trans (b7.mono D1.size)
      (try dsimp only)
      replace hSS := And.intro (KP.out _ D2) True.intro
      refine hK.out _ _ ⟨hSS.1, fun _ => trivial⟩ ?_
      clear hK K
      refine wpAnyE_take0 (i := 4) (v := ?kv4) rfl (by kernel_rfl) (by kernel_rfl) (by kernel_rfl) (by decide) (fun _ _ _ h => h) (Or.inl ⟨by rfl, ?khy4⟩) hSS ?_
      case khy4 => (intro wz hSw; (try dsimp only at hSw); go_simp; try (with_reducible rfl))
      refine wpAnyE_take0 (i := 5) (v := ?kv5) rfl (by kernel_rfl) (by kernel_rfl) (by kernel_rfl) (by decide) (fun _ _ _ h => h) (Or.inl ⟨by rfl, ?khy5⟩) hSS ?_
      case khy5 => (intro wz hSw; (try dsimp only at hSw); go_simp; try (with_reducible rfl))
      refine wpAnyE_take0 (i := 6) (v := ?kv6) rfl (by kernel_rfl) (by kernel_rfl) (by kernel_rfl) (by decide) (fun _ _ _ h => h) (Or.inl ⟨by rfl, ?khy6⟩) hSS ?_
      case khy6 => (intro wz hSw; (try dsimp only at hSw); go_simp; try (with_reducible rfl))
      refine wpAnyE_take0 (i := 8) (v := ?kv8) rfl (by kernel_rfl) (by kernel_rfl) (by kernel_rfl) (by decide) (fun _ _ _ h => h) (Or.inl ⟨by rfl, ?khy8⟩) hSS ?_
      case khy8 => (intro wz hSw; (try dsimp only at hSw); go_simp; try (with_reducible rfl))
      simp only [Act.put, List.setIfInBounds_toArray, List.set_cons_succ, List.set_cons_zero, List.getElem_toArray, List.getElem_cons_succ, List.getElem_cons_zero]
      refine wpAnyE_one (i := 7) (by kernel_rfl) rfl (fun K hK => ?_)
      go_simp
      refine (ival_any _ _ _ V _ (hV.below D2) (by omega)).mono ?_
      rintro ee wz ⟨rfl, rfl⟩
      (try dsimp only)
      refine hK.out _ _ ⟨hSS.1, fun _ => trivial⟩ ?_
      clear hK K
      refine wpAnyE_one (i := 9) (by kernel_rfl) rfl (fun K hK => ?_)
      go_simp
      refine (sval_any _ _ _ V _ (hV.below D2) (by omega)).mono ?_
      rintro ee wz ⟨rfl, rfl⟩
      (try dsimp only)
      refine hK.out _ _ ⟨hSS.1, fun _ => trivial⟩ ?_
      clear hK K
      refine wpAnyE_take0 (i := 10) (v := ?kv10) rfl (by kernel_rfl) (by kernel_rfl) (by kernel_rfl) (by decide) (fun _ _ _ h => h) (Or.inl ⟨by rfl, ?khy10⟩) hSS ?_
      case khy10 => (intro wz hSw; (try dsimp only at hSw); go_simp; try (with_reducible rfl))
      refine wpAnyE_take0 (i := 11) (v := ?kv11) rfl (by kernel_rfl) (by kernel_rfl) (by kernel_rfl) (by decide) (fun _ _ _ h => h) (Or.inl ⟨by rfl, ?khy11⟩) hSS ?_
      case khy11 => (intro wz hSw; (try dsimp only at hSw); go_simp; try (with_reducible rfl))
      refine wpAnyE_take0 (i := 12) (v := ?kv12) rfl (by kernel_rfl) (by kernel_rfl) (by kernel_rfl) (by decide) (fun _ _ _ h => h) (Or.inl ⟨by rfl, ?khy12⟩) hSS ?_
      case khy12 => (intro wz hSw; (try dsimp only at hSw); go_simp; try (with_reducible rfl))
      refine wpAnyE_take0 (i := 13) (v := ?kv13) rfl (by kernel_rfl) (by kernel_rfl) (by kernel_rfl) (by decide) (fun _ _ _ h => h) (Or.inl ⟨by rfl, ?khy13⟩) hSS ?_
      case khy13 => (intro wz hSw; (try dsimp only at hSw); go_simp; try (with_reducible rfl))
      simp only [Act.put, List.setIfInBounds_toArray, List.set_cons_succ, List.set_cons_zero, List.getElem_toArray, List.getElem_cons_succ, List.getElem_cons_zero]
      refine wpAnyE_take0 (i := 15) (v := ?kv15) rfl (by kernel_rfl) (by kernel_rfl) (by kernel_rfl) (by decide) (fun _ _ _ h => h) (Or.inl ⟨by rfl, ?khy15⟩) hSS ?_
      case khy15 => (intro wz hSw; (try dsimp only at hSw); go_simp; try (with_reducible rfl))
      refine wpAnyE_one (i := 14) (by kernel_rfl) rfl (fun K hK => ?_)
      go_simp
      refine (iarg_any _ _ _ A _ (hA.below D2) (by omega)).mono ?_
      rintro ee wz ⟨rfl, rfl⟩
      (try dsimp only)
      refine hK.out _ _ ⟨hSS.1, fun _ => trivial⟩ ?_
      clear hK K
      refine wpAnyE_one (i := 16) (by kernel_rfl) rfl (fun K hK => ?_)
      go_simp
      refine (sarg_any _ _ _ A _ (hA.below D2) (by omega)).mono ?_
      rintro ee wz ⟨rfl, rfl⟩
      (try dsimp only)
      refine hK.out _ _ ⟨hSS.1, fun _ => trivial⟩ ?_
      clear hK K
      refine wpAnyE_take0 (i := 17) (v := ?kv17) rfl (by kernel_rfl) (by kernel_rfl) (by kernel_rfl) (by decide) (fun _ _ _ h => h) (Or.inl ⟨by rfl, ?khy17⟩) hSS ?_
      case khy17 => (intro wz hSw; (try dsimp only at hSw); go_simp; try (with_reducible rfl))
      refine wpAnyE_one (i := 18) (by kernel_rfl) rfl (fun K hK => ?_)
      go_simp
      refine hK.out _ _ ⟨hSS.1, fun _ => trivial⟩ ?_
      clear hK K
      refine wpAnyE_done (by kernel_rfl) ?_ _
      clear hSS
      obtain ⟨g0, g1, g2, _, _, _⟩ := (q9.below D2).trio
      have BD := BB.trans (D2.mono BB.size)
      replace hV := hV.below D2
      replace hA := hA.below D2
      have F2 := F.below D2
      clear e1 e2 KP F
      go_wp2_with fail
      refine (pAt (potP v) V A _ _ _ _ _ _ _ _ _ _ _ _ _ F2 hV hA (by omega) (by omega)).mono ?_
      rintro e w8 ⟨rfl, b8⟩
      have BE := BD.trans (b8.mono BD.size)
      obtain ⟨g0, g1, g2, _, _, _⟩ := ((q9.below D2).below b8).trio
      replace hV := hV.below b8
      replace hA := hA.below b8
      by_cases hv : 0 ≤ v ∧ v ≤ 2
      · obtain ⟨hv0, hv2⟩ := hv
        obtain ⟨k, rfl⟩ := Int.eq_ofNat_of_zero_le hv0
        have hk : k ≤ 2 := by omega
        have hk' : ¬ (k : Int) < 0 := by omega
        have hk3 : ¬ (k : Int) ≥ 3 := by omega
        cases h1 : okN 3 10000 p V
        · rw [pot_no HV.out HA.out (Or.inl h1)]
          go_wp2_with fail
          refine (ival_any _ _ _ V _ hV (by omega)).mono ?_
          rintro e wq ⟨rfl, rfl⟩
          rw [h1]
          go_wp2_with fail
          refine (coHolds_any _).mono ?_
          rintro e w9 ⟨rfl, b9⟩
          go_wp2
          go_ret
          exact ⟨rfl, BE.trans (b9.mono BE.size)⟩
        · cases h2 : okN 2 9 q A
          · rw [pot_no HV.out HA.out (Or.inr (Or.inl h2))]
            go_wp2_with fail
            refine (ival_any _ _ _ V _ hV (by omega)).mono ?_
            rintro e wq ⟨rfl, rfl⟩
            rw [h1]
            go_wp2_with fail
            refine (iarg_any _ _ _ A _ hA (by omega)).mono ?_
            rintro e wq ⟨rfl, rfl⟩
            rw [h2]
            go_wp2_with fail
            refine (coHolds_any _).mono ?_
            rintro e w9 ⟨rfl, b9⟩
            go_wp2
            go_ret
            exact ⟨rfl, BE.trans (b9.mono BE.size)⟩
          · obtain ⟨t1, t2⟩ := pot_in HV.out HA.out hk h1 h2
            rw [t1, t2]
            clear t1 t2
            have hp3 : (p : Int) = 3 := (okN_elim (by omega) h1).1
            obtain ⟨vb, vo, rfl, hcell⟩ := hV.pos (by omega)
            have hck := hcell k (by omega)
            have hkp : (k : Int) < (p : Int) := by omega
            go_wp2_with fail
            refine (ival_any _ _ _ V _ hV (by omega)).mono ?_
            rintro e wq ⟨rfl, rfl⟩
            rw [h1]
            go_wp2_with fail
            refine (iarg_any _ _ _ A _ hA (by omega)).mono ?_
            rintro e wq ⟨rfl, rfl⟩
            rw [h2]
            have e3 : (V[k]?.getD 0 == V[k]?.getD 0) = true := by simp
            go_wp2_with fail
            refine (coHolds_any _).mono ?_
            rintro e w9 ⟨rfl, b9⟩
            go_wp2
            go_ret
            exact ⟨rfl, BE.trans (b9.mono BE.size)⟩
      · have hn30 : n3 = 0 := by have h := F2.C.1; rw [show (potP v).1 = [] from potC_out v hv] at h; exact h.symm
        subst hn30
        rw [pot_no HV.out HA.out (Or.inr (Or.inr hv))]
        by_cases hv0 : v < 0
        · go_wp2_with fail
          refine (coHolds_any _).mono ?_
          rintro e w9 ⟨rfl, b9⟩
          go_wp2
          go_ret
          exact ⟨rfl, BE.trans (b9.mono BE.size)⟩
        · have hv3 : v ≥ 3 := by omega
          go_wp2_with fail
          refine (coHolds_any _).mono ?_
          rintro e w9 ⟨rfl, b9⟩
          go_wp2
          go_ret
          exact ⟨rfl, BE.trans (b9.mono BE.size)⟩
    · go_enter Try.func6, Try.ntmps6
      go_wp2
      go_ret
      exact ⟨rfl, Below.refl _ _⟩
  · go_enter Try.func6, Try.ntmps6
    go_wp2
    go_ret
    exact ⟨rfl, Below.refl _ _⟩

/-! ### The row's step -/
set_option maxRecDepth 100000 in
theorem lifted (os : Os) (started : os.Started) (H : Type) (enc : TypeId × Value → H) :
    ReturnsInHanded {} Try.checked os 6 .any (Rows.fnFrmPotSpec.pre6 enc Try.prog Try.f6 Rows.fnFrmPotRow.domain false) (Rows.fnFrmPotSpec.post enc Try.prog Try.f6 false true false false) := by
  refine returnsInHanded_of_change (C := Try.checked) own started (by kernel_rfl) Try.func6
    (ChangeSpec.witness6 (enc := enc) (C := Try.checked) false ⟨#[], #[.slice none 0 0, .slice none 0 0], []⟩ 8 (by kernel_rfl) (by kernel_rfl) (by kernel_rfl) (by kernel_rfl)) ?_
  intro W base args ds gs before hval0 hW hcnd _
  have hval : ∀ (j : Nat) t v, Try.f6.params[j]? = some t → args[j]? = some v → Value.okWide Try.prog W .any base t v := hval0
  have hW' := hW
  obtain ⟨p, q, hA0, hV, rfl, hfz, hnd⟩ := hW
  have hA : DataW.TrodAll enc Try.prog W 0 (fun _ => true) true Try.f6.params.toList args.toList ds p := hA0
  rw [Try.params6] at hA hval
  obtain ⟨v0, vs0, d0, ds0, p0, q0, hargs, rfl, rfl, h0, r0⟩ := trodAll_cons hA
  obtain ⟨v1, vs1, d1, ds1, p1, q1, rfl, rfl, rfl, h1, r1⟩ := trodAll_cons r0
  obtain ⟨rfl, rfl, rfl⟩ := trodAll_nil r1
  obtain rfl : args = #[v0, v1] := by cases args; simp_all
  obtain ⟨rfl, rfl⟩ := trodVars_none hV
  have k0 := h0
  have lt0 : ∀ x ∈ p0, x.block < W.heap.size := by obtain ⟨m, hm⟩ := k0; exact DataW.trod_lt m _ _ _ hm
  obtain ⟨a0, n0, cap0, C0, rfl, hC0, hn0⟩ := open_bytesT (hval 0 22 v0 rfl rfl) h0
  have k1 := h1
  have lt1 : ∀ x ∈ p1, x.block < W.heap.size := by obtain ⟨m, hm⟩ := k1; exact DataW.trod_lt m _ _ _ hm
  obtain ⟨a1, n1, cap1, C1, rfl, hC1, hn1⟩ := open_bytesT (hval 1 22 v1 rfl rfl) h1
  clear hA0 hval0
  refine (walk W a0 n0 cap0 C0 hC0 hn0 a1 n1 cap1 C1 hC1 hn1).mono fun e W' ⟨he, bel⟩ => ?_
  subst he
  exact ⟨_, rfl, _, _, _, [], _, [], hW', trodAll_mk1 (shut_bool Try.underlying4 _), (trodAll_cons_mk (Below.trod laidOut (by kernel_rfl) (of_decide_eq_true (by kernel_rfl)) k0 bel lt0) (trodAll_cons_mk (Below.trod laidOut (by kernel_rfl) (of_decide_eq_true (by kernel_rfl)) k1 bel lt1) trodAll_mk0)), rfl, bel.frame _, fun h => by cases h⟩

theorem over : Rows.fnFrmPotRow.holds Try.pinned (OpenSpec.ofChange Rows.fnFrmPotSpec) :=
  OpenClaim.holds_of_wide 6 Try.f6 rfl rfl rfl rfl rfl rfl rfl ⟨rfl, rfl, rfl, rfl, rfl⟩ rfl rfl rfl rfl rfl (by kernel_rfl) Try.func6 (by kernel_rfl)
    (of_decide_eq_true (by kernel_rfl)) (by unfold Func.isWrapper; first | (rw [if_pos (by decide +kernel)]; kernel_rfl) | (rw [if_neg (by decide +kernel)]; exact ⟨rfl, rfl⟩))
    (fun os started H enc _ => lifted os started H enc)

end Go.Proofs.Ytjhbapgpeimlhaa.fnFrmPot
namespace Go.Proofs.Ytjhbapgpeimlhaa
/-- The statement. -/
theorem fnFrmPot_holds : Rows.FnFrmPotSaid := fnFrmPot.over
#print axioms fnFrmPot_holds
end Go.Proofs.Ytjhbapgpeimlhaa
