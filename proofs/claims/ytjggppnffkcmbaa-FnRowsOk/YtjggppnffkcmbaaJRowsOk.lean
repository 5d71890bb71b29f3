/-
  For all bytes FnRowsOk returns true, and what came in reads behind the call as it did. No condition. (each way is ok, and there are at most two for each test)
-/
import Derived.Test.YtjggppnffkcmbaaJRowsOkA
import Derived.Test.YtjggppnffkcmbaaJRowsOkC
import Derived.Test.YtjggppnffkcmbaaOpen
namespace Go.Proofs.Ytjggppnffkcmbaa.fnRowsOk
open Go.ChangeShapes Go.WideShapes Go.ChangeAt Go.RowKit
set_option linter.unusedVariables false
set_option maxRecDepth 100000

theorem open_bytesT {H : Type} {enc : TypeId × Value → H} {W : World} {r : Reach} {b0 : Nat} {v : Value} {d : DataW H} {p : List MemPlace}
    (hv : Value.okWide Try.prog W r b0 22 v) (h : DataW.Trod enc Try.prog W 0 (fun _ => true) true 22 v d p) : ∃ a n cap zs, v = .slice a n cap ∧ BInts W a n zs ∧ (n ≤ cap ∧ cap ≤ maxLen) := by
  obtain ⟨a0, len0, cap0, rfl⟩ := okWide_slice Try.underlying22 hv
  obtain ⟨fuel, hf⟩ := h
  rcases open_ints Try.underlying22 Try.underlying5 (by kernel_rfl) hf with ⟨hcs, _⟩ | ⟨x, l, c, zs, hcs, _, hl, hm, hz, _, hcell, hwz⟩
  · simp [Value.cells] at hcs
    obtain ⟨rfl, rfl, rfl⟩ := hcs
    exact ⟨none, 0, 0, [], rfl, ⟨rfl, fun i hi => by omega, fun i => by simp⟩, by omega, by unfold maxLen; omega⟩
  · simp [Value.cells] at hcs
    obtain ⟨rfl, rfl, rfl⟩ := hcs
    have hz' : zs.length = cap0 := by simpa using hz
    refine ⟨some x, len0, cap0, zs.take len0, rfl, ⟨by rw [List.length_take]; omega, fun i hi => ?_, fun i => ?_⟩, hl, hm⟩
    · obtain ⟨b, off, spot⟩ := x
      have hc0 := hcell 0 (by omega)
      have hspot : spot = none := by simpa [Addr.add] using World.cell?_spot hc0
      subst hspot
      refine ⟨b, off, rfl, ?_⟩
      have hc := hcell i (by omega)
      have : W.cell? ⟨b, off + i, none⟩ = some (.int .u8 (zs.getD i 0)) := by
        by_cases h0 : i = 0
        · subst h0; simpa [Addr.add] using hc
        · simpa [Addr.add, h0] using hc
      rw [this]
      simp [hi]
    · by_cases hi : i < (zs.take len0).length
      · rw [List.getElem?_eq_getElem hi]
        have := hwz _ (List.mem_of_mem_take (List.getElem_mem hi))
        simpa [Lit.wf, IntKind.min, IntKind.max, IntKind.signed, IntKind.bits] using this
      · rw [List.getElem?_eq_none (by omega)]
        simp

set_option maxHeartbeats 1600000 in
theorem dRows (a : Option Addr) (n cap : Nat) (bs : List Int) (w : World) (h : BInts w a n bs) (hn : n ≤ cap) (hn1 : n ≤ 1048576) (hc : cap ≤ maxLen) :
    Calls Try.prog 27 #[.slice a n cap] w fun e w' => ∃ ad N c ls, e = .returned (.slice ad N c) ∧ Below w.heap.size w w' ∧ LinesG w' ad ls ∧ ls.length = N ∧ N ≤ 8 := by
  go_enter Try.func27, Try.ntmps27
  go_wp2_with fail
  refine (open_any _ _ _ bs _ h hn hn1 hc).mono ?_
  rintro e w1 ⟨R, n', cap2, bs', rfl, b1, hR, r1⟩
  have hRl := r1.c.lt
  go_wp2_with fail
  refine (any_f R a n' cap2 bs' 0 8 _ r1 (by omega) (by omega) (by omega) (by omega) r1.ha).mono ?_
  rintro e w2 ⟨ad, N, c, ls, q, rfl, j, hN, hN8, q0, q1⟩
  have BB : Below w.heap.size w w2 := b1.trans (j.t.below (by have := b1.size; omega) (fun k hk => by omega))
  have hG := j.g hN
  clear r1 b1 j
  go_wp2
  go_ret
  exact ⟨_, N, c, ls, rfl, BB, hG, hN, hN8⟩
theorem lkind {w : World} {ad : Option Addr} {ls : List LV} (h : LinesG w ad ls) {k : Nat} (hk : k < ls.length) : ∃ b off, ad = some ⟨b, off, none⟩ ∧ w.cell? ⟨b, off + k * 6, none⟩ = some (.int .i64 (ls[k]?.getD noLV).kind) := by
  obtain ⟨b, off, e, hc, _⟩ := h k hk
  exact ⟨b, off, e, hc 0 (by omega)⟩
/-- What the walk keeps of the rows. -/
structure Wy (rs : List RowM) : Prop where
  f : ∀ r ∈ rs, RowFit r
  s : ∀ r ∈ rs, (r.stop = true → r.adds.length = 0 ∧ r.tells.length = 0) ∧ (r.stop = false → r.adds.length = 3)
  n : ∀ r ∈ rs, r.guards.length ≤ 3 ∧ r.tells.length ≤ 6

set_option maxHeartbeats 6400000 in
theorem walk (w : World) (a : Option Addr) (n cap : Nat) (A0 : List Int) (hA0 : BInts w a n A0) (hn : n ≤ cap ∧ cap ≤ maxLen) :
    Calls Try.prog 6 #[.slice a n cap] w fun e w' => e = .returned (.bool true) ∧ Below w.heap.size w w' := by
  obtain ⟨hn2, hn3⟩ := hn
  by_cases hn1 : n ≤ 1048576
  · go_enter Try.func6, Try.ntmps6
    go_wp2_with fail
    refine (dRows _ _ _ A0 _ hA0 hn2 hn1 hn3).mono ?_
    rintro ee w1 ⟨ad, N, c, ls, rfl, b1, hG, hN, hN8⟩
    have BB := b1
    clear b1
    have HN : Hid (ls.length = N) := hN
    clear hN
    go_wp2_with fail
    refine (pRows _ _ _ ls _ HN.out hG (by omega)).mono ?_
    rintro ee w2 ⟨ra, rn, rc, rfl, hrn, hr, b2⟩
    replace BB := BB.trans (b2.mono BB.size)
    replace hG := hG.below b2
    clear b2
    have HR : Hid (rn = (rowsB N ls).length) := hrn
    clear hrn
    go_wp2_with fail
    refine (qRows _ _ _ ls _ HN.out hG (by omega)).mono ?_
    rintro ee w3 ⟨sa, sn, sc, rfl, hsn, hs, b3⟩
    replace BB := BB.trans (b3.mono BB.size)
    replace hG := hG.below b3
    replace hr := hr.below b3
    clear b3
    obtain rfl : sn = rn := by rw [hsn, HR.out]
    clear hsn
    have hr8 : sn ≤ 8 := by rw [HR.out]; exact rowsB_le HN.out
    go_wp2_with fail
    refine (coRs_any _ _ _ _ _ _ _ HR.out.symm (by omega) (rowsB_fit HN.out hG) hr hs).mono ?_
    rintro ee w4 ⟨rfl, b4⟩
    replace BB := BB.trans (b4.mono BB.size)
    replace hG := hG.below b4
    replace hr := hr.below b4
    replace hs := hs.below b4
    clear b4
    clear hs
    go_wp2_with fail
    refine (sact_any _ _ _ ls _ HN.out hG (by omega)).mono ?_
    rintro ee w5 ⟨rfl, b5⟩
    replace BB := BB.trans (b5.mono BB.size)
    replace hG := hG.below b5
    replace hr := hr.below b5
    clear b5
    cases hB : actB N ls
    · obtain rfl : sn = 0 := by rw [HR.out, rowsB_no hB]; rfl
      go_wp2_with fail
      refine (coHolds_any _).mono ?_
      rintro ee w6 ⟨rfl, bh⟩
      replace BB := BB.trans (bh.mono BB.size)
      replace hG := hG.below bh
      replace hr := hr.below bh
      clear bh
      go_wp2
      go_ret
      exact ⟨rfl, BB⟩
    · have HW : Hid (Wy (rowsL ls) ∧ 1 ≤ sn ∧ sn ≤ 2 ^ tests ls ∧ tests ls ≤ 3 ∧ (rowsL ls).length = sn) := by
        obtain ⟨h1, h2, h3, h4⟩ := rowsL_few HN.out hB
        have e := HR.out
        rw [rowsB_yes hB] at e
        exact ⟨⟨fun r hr => rowsB_fit HN.out hG r (by rw [rowsB_yes hB]; exact hr), goW_sh ls 7 0 way0, h4⟩, by omega, by omega, h3, e.symm⟩
      rw [rowsB_yes hB] at hr
      clear hB HR
      go_wp2_with fail
      go_loopw [5, 6] (fun m i wr => ∃ k z : Nat, k ≤ N ∧ i = .int .i64 k ∧ m = .int .i64 z ∧ z ≤ 8 ∧ Hid (z = 2 ^ tests (ls.take k)) ∧ Below w5.heap.size w5 wr) (fun _ i _ => N - (intOf i).toNat)
      case atStart => exact ⟨0, 1, by omega, rfl, rfl, by omega, rfl, Below.refl _ _⟩
      case round =>
        obtain ⟨k, z, hk, rfl, rfl, hz8, HZ, hb⟩ := hrel
        have hb0 := hb
        replace BB := BB.trans (hb.mono BB.size)
        replace hG := hG.below hb
        replace hr := hr.below hb
        clear hb
        by_cases hlt : k < N
        · have hk' : (k : Int) < (N : Int) := by omega
          have hkl : k < ls.length := by rw [HN.out]; exact hlt
          obtain ⟨b, off, rfl, d1⟩ := lkind hG hkl
          have H8 : Hid (2 ^ tests (ls.take (k + 1)) ≤ 8) := Nat.le_trans (Nat.pow_le_pow_right (by omega) (Nat.le_trans (List.Sublist.countP_le (List.take_sublist _ _)) HW.out.2.2.2.1)) (by decide : 2 ^ 3 ≤ 8)
          obtain ⟨g, hg⟩ : ∃ g, ls[k]?.getD noLV = g := ⟨_, rfl⟩
          rw [hg] at d1
          by_cases k1 : g.kind = 1
          · have HZ' : Hid (2 * z = 2 ^ tests (ls.take (k + 1))) := by show _ = _; rw [tests_yes hkl hg k1, HZ.out, Nat.pow_succ, Nat.mul_comm]
            have hz : 2 * z ≤ 8 := by rw [HZ'.out]; exact H8.out
            rw [k1] at d1
            clear hg k1 hG hr H8 HZ HN HW hkl
            go_wp2
            go_roundw
            case rel => exact ⟨k + 1, 2 * z, by omega, by go_num, by go_num, hz, HZ', hb0⟩
            case measure => simp [intOf]; omega
          · have k1' : (g.kind == 1) = false := by simpa using k1
            have HZ' : Hid (z = 2 ^ tests (ls.take (k + 1))) := by show _ = _; rw [tests_no hkl hg k1', HZ.out]
            clear hg hG hr H8 HZ HN HW hkl
            go_wp2
            go_roundw
            case rel => exact ⟨k + 1, z, by omega, by go_num, rfl, hz8, HZ', hb0⟩
            case measure => simp [intOf]; omega
        · have hk' : ¬ (k : Int) < (N : Int) := by omega
          obtain rfl : k = N := by omega
          have HS : Hid (1 ≤ sn ∧ sn ≤ z) := ⟨HW.out.2.1, by rw [HZ.out, List.take_of_length_le (by rw [HN.out]; omega)]; exact HW.out.2.2.1⟩
          clear HZ hb0 hG
          obtain ⟨wq, hwq⟩ : ∃ x, x = wr := ⟨_, rfl⟩
          subst hwq
          go_wp2_with fail
          go_loopw [7] (fun i wr => ∃ k : Nat, k ≤ sn ∧ i = .int .i64 k ∧ Below wq.heap.size wq wr) (fun i _ => sn - (intOf i).toNat)
          case atStart => exact ⟨0, by omega, rfl, Below.refl _ _⟩
          case round =>
            obtain ⟨j, hj, rfl, hb⟩ := hrel
            have hb0 := hb
            replace BB := BB.trans (hb.mono BB.size)
            replace hr := hr.below hb
            clear hb
            by_cases hlt2 : j < sn
            · have hj' : (j : Int) < (sn : Int) := by omega
              have hjl : j < (rowsL ls).length := by rw [HW.out.2.2.2.2]; exact hlt2
              obtain ⟨b, ga, gc, aa, ac, ta, tc, rfl, p0, p1, p2, p3, f0, f1, f2⟩ := hr j hjl
              have hm : (rowsL ls)[j]?.getD noR ∈ rowsL ls := by rw [List.getElem?_eq_getElem hjl]; exact List.getElem_mem _
              have hf := HW.out.1.f _ hm
              have hsh := HW.out.1.s _ hm
              have hgt := HW.out.1.n _ hm
              generalize (rowsL ls)[j]?.getD noR = r at *
              obtain ⟨gs, us, ts, RA, hB, _, _, _⟩ := row_rowAt hf hsh f0 f1 f2
              obtain ⟨g3, t6⟩ := hgt
              obtain ⟨rg, ru, rt, st⟩ := r
              dsimp only at *
              generalize rg.length = G at *
              generalize ru.length = A at *
              generalize rt.length = T at *
              have g3' : ¬ (3 : Int) < (G : Int) := by omega
              have t6' : ¬ (6 : Int) < (T : Int) := by omega
              clear hm hf hsh f0 f1 f2 hjl hr HW HN
              go_wp2_with fail
              refine (irow_any _ _ _ gs _ _ _ us _ _ _ ts st _ RA).mono ?_
              rintro ee w9 ⟨rfl, b9⟩
              rw [hB]
              have n0 := (b9.cell (p := ⟨b, j * 4, none⟩) (block_lt p0)).trans p0
              have n2 := (b9.cell (p := ⟨b, j * 4 + 2, none⟩) (block_lt p0)).trans p2
              have b10 := hb0.trans (b9.mono hb0.size)
              clear p0 p1 p2 p3 RA hB b9
              go_wp2
              go_roundw
              case rel => exact ⟨j + 1, by omega, by go_num, b10⟩
              case measure => simp [intOf]; omega
            · have hj' : ¬ (j : Int) < (sn : Int) := by omega
              obtain ⟨s1, s2⟩ := HS.out
              have s1' : (1 : Int) ≤ (sn : Int) := by omega
              have s2' : (sn : Int) ≤ (z : Int) := by omega
              clear HS
              go_wp2
              go_ret
              exact ⟨rfl, BB⟩
  · go_enter Try.func6, Try.ntmps6
    go_wp2
    go_ret
    exact ⟨rfl, Below.refl _ _⟩

/-! ### The row's step -/
set_option maxRecDepth 100000 in
theorem lifted (os : Os) (started : os.Started) (H : Type) (enc : TypeId × Value → H) :
    ReturnsInHanded {} Try.checked os 6 .any (Rows.fnRowsOkSpec.pre6 enc Try.prog Try.f6 Rows.fnRowsOkRow.domain false) (Rows.fnRowsOkSpec.post enc Try.prog Try.f6 false true false false) := by
  refine returnsInHanded_of_change (C := Try.checked) own started (by kernel_rfl) Try.func6
    (ChangeSpec.witness6 (enc := enc) (C := Try.checked) false ⟨#[], #[.slice none 0 0], []⟩ 8 (by kernel_rfl) (by kernel_rfl) (by kernel_rfl) (by kernel_rfl)) ?_
  intro W base args ds gs before hval0 hW hcnd _
  have hval : ∀ (j : Nat) t v, Try.f6.params[j]? = some t → args[j]? = some v → Value.okWide Try.prog W .any base t v := hval0
  have hW' := hW
  obtain ⟨p, q, hA0, hV, rfl, hfz, hnd⟩ := hW
  have hA : DataW.TrodAll enc Try.prog W 0 (fun _ => true) true Try.f6.params.toList args.toList ds p := hA0
  rw [Try.params6] at hA hval
  obtain ⟨v0, vs0, d0, ds0, p0, q0, hargs, rfl, rfl, h0, r0⟩ := trodAll_cons hA
  obtain ⟨rfl, rfl, rfl⟩ := trodAll_nil r0
  obtain rfl : args = #[v0] := by cases args; simp_all
  obtain ⟨rfl, rfl⟩ := trodVars_none hV
  have k0 := h0
  have lt0 : ∀ x ∈ p0, x.block < W.heap.size := by obtain ⟨m, hm⟩ := k0; exact DataW.trod_lt m _ _ _ hm
  obtain ⟨a0, n0, cap0, C0, rfl, hC0, hn0⟩ := open_bytesT (hval 0 22 v0 rfl rfl) h0
  clear hA0 hval0
  refine (walk W a0 n0 cap0 C0 hC0 hn0).mono fun e W' ⟨he, bel⟩ => ?_
  subst he
  exact ⟨_, rfl, _, _, _, [], _, [], hW', trodAll_mk1 (shut_bool Try.underlying4 _), (trodAll_cons_mk (Below.trod laidOut (by kernel_rfl) (of_decide_eq_true (by kernel_rfl)) k0 bel lt0) trodAll_mk0), rfl, bel.frame _, fun h => by cases h⟩

theorem over : Rows.fnRowsOkRow.holds Try.pinned (OpenSpec.ofChange Rows.fnRowsOkSpec) :=
  OpenClaim.holds_of_wide 6 Try.f6 rfl rfl rfl rfl rfl rfl rfl ⟨rfl, rfl, rfl, rfl, rfl⟩ rfl rfl rfl rfl rfl (by kernel_rfl) Try.func6 (by kernel_rfl)
    (of_decide_eq_true (by kernel_rfl)) (by unfold Func.isWrapper; first | (rw [if_pos (by decide +kernel)]; kernel_rfl) | (rw [if_neg (by decide +kernel)]; exact ⟨rfl, rfl⟩))
    (fun os started H enc _ => lifted os started H enc)

end Go.Proofs.Ytjggppnffkcmbaa.fnRowsOk
namespace Go.Proofs.Ytjggppnffkcmbaa
/-- The statement. -/
theorem fnRowsOk_holds : Rows.FnRowsOkSaid := fnRowsOk.over
#print axioms fnRowsOk_holds
end Go.Proofs.Ytjggppnffkcmbaa
