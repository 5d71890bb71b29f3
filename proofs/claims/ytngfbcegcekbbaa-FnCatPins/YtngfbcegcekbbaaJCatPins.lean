/-
  For all bytes FnCatPins returns true, and what came in reads behind the call as it did. No condition. (who tells of a pot pins it)
-/
import Derived.Test.YtngfbcegcekbbaaDrAa
import Derived.Test.YtngfbcegcekbbaaJCatPinsC
import Derived.Test.YtngfbcegcekbbaaOpen
namespace Go.Proofs.Ytngfbcegcekbbaa.fnCatPins
open Go.ChangeShapes Go.WideShapes Go.ChangeAt Go.RowKit
set_option linter.unusedVariables false
set_option maxRecDepth 100000

theorem open_bytesT {H : Type} {enc : TypeId × Value → H} {W : World} {r : Reach} {b0 : Nat} {v : Value} {d : DataW H} {p : List MemPlace}
    (hv : Value.okWide Try.prog W r b0 22 v) (h : DataW.Trod enc Try.prog W 0 (fun _ => true) true 22 v d p) : ∃ a n cap zs, v = .slice a n cap ∧ BInts W a n zs ∧ (n ≤ cap ∧ cap ≤ maxLen) := by
  obtain ⟨a0, len0, cap0, rfl⟩ := okWide_slice Try.underlying22 hv
  obtain ⟨fuel, hf⟩ := h
  rcases open_ints Try.underlying22 Try.underlying5 (by kernel_rfl) hf with ⟨hcs, _⟩ | ⟨x, l, c, zs, hcs, _, hl, hm, hz, _, hcell, hwz⟩
  · simp [Value.cells] at hcs
    obtain ⟨rfl, rfl, rfl⟩ := hcs
    exact ⟨none, 0, 0, [], rfl, ⟨rfl, fun i hi => by omega, fun i => by simp⟩, by omega, by unfold maxLen; omega⟩
  · simp [Value.cells] at hcs
    obtain ⟨rfl, rfl, rfl⟩ := hcs
    have hz' : zs.length = cap0 := by simpa using hz
    refine ⟨some x, len0, cap0, zs.take len0, rfl, ⟨by rw [List.length_take]; omega, fun i hi => ?_, fun i => ?_⟩, hl, hm⟩
    · obtain ⟨b, off, spot⟩ := x
      have hc0 := hcell 0 (by omega)
      have hspot : spot = none := by simpa [Addr.add] using World.cell?_spot hc0
      subst hspot
      refine ⟨b, off, rfl, ?_⟩
      have hc := hcell i (by omega)
      have : W.cell? ⟨b, off + i, none⟩ = some (.int .u8 (zs.getD i 0)) := by
        by_cases h0 : i = 0
        · subst h0; simpa [Addr.add] using hc
        · simpa [Addr.add, h0] using hc
      rw [this]
      simp [hi]
    · by_cases hi : i < (zs.take len0).length
      · rw [List.getElem?_eq_getElem hi]
        have := hwz _ (List.mem_of_mem_take (List.getElem_mem hi))
        simpa [Lit.wf, IntKind.min, IntKind.max, IntKind.signed, IntKind.bits] using this
      · rw [List.getElem?_eq_none (by omega)]
        simp

set_option maxHeartbeats 1600000 in
theorem dPins (a : Option Addr) (n cap : Nat) (bs : List Int) (w : World) (h : BInts w a n bs) (hn : n ≤ cap) (hn1 : n ≤ 1048576) (hc : cap ≤ maxLen) :
    Calls Try.prog 25 #[.slice a n cap] w fun e w' => ∃ ad N c ss, e = .returned (.slice ad N c) ∧ Below w.heap.size w w' ∧ LSG w' ad ss ∧ ss.length = N ∧ N ≤ 5 := by
  go_enter Try.func25, Try.ntmps25
  go_wp2_with fail
  refine (open_any _ _ _ bs _ h hn hn1 hc).mono ?_
  rintro e w1 ⟨R, n', cap2, bs', rfl, b1, hR, r1⟩
  have hRl := r1.c.lt
  go_wp2_with fail
  refine (anyacts_f R a n' cap2 bs' 0 8 _ r1 (by omega) (by omega) (by omega) (by omega) r1.ha).mono ?_
  rintro e w2 ⟨ad, N, c, ss, q, rfl, j, hN, hN5, q0, q1⟩
  have BB : Below w.heap.size w w2 := b1.trans (j.t.below (by have := b1.size; omega) (fun k hk => by omega))
  have hG := j.lsg hN
  clear r1 b1 j
  go_wp2
  go_ret
  exact ⟨_, N, c, ss, rfl, BB, hG, hN, hN5⟩
def pinAt (ss : List L2V) (v k : Nat) : Bool := (ss.take k).any fun s => readsR (rowsL s.x) v
theorem pinAt_succ {ss : List L2V} {v k : Nat} (hk : k < ss.length) : pinAt ss v (k + 1) = (pinAt ss v k || readsR (rowsL (ss[k]?.getD noL).x) v) := by
  unfold pinAt
  rw [List.take_succ_eq_append_getElem hk, List.any_append, List.getElem?_eq_getElem hk]
  simp
theorem pinAt_all {ss : List L2V} {v k : Nat} (hk : ss.length ≤ k) : pinAt ss v k = pinsA ss v := by
  unfold pinAt pinsA
  rw [List.take_of_length_le hk]
theorem OwnB.bo {W : World} {G : Nat} {f : Nat → Bool} (h : OwnB W G f) : Bo W (some ⟨G, 0, none⟩) 3 f := ⟨Nat.le_refl _, fun _ => ⟨G, rfl, fun v hv => by
  obtain ⟨cur, hc, hh⟩ := h
  rw [hc.cell v]
  exact hh v hv⟩⟩
theorem qPins (ad : Option Addr) (N cap : Nat) (ss : List L2V) (w : World) (hN : ss.length = N) (hF : LSG w ad ss) (hN1 : N ≤ 1048576) :
    Calls Try.prog 28 #[.slice ad N cap] w fun e w' => BoM w w' e (catB N ss) (pinsA ss) :=
  (scatpins_any ad N cap ss w hN hF hN1).mono fun e w' h => by
    obtain ⟨b, ⟨hA, G, he⟩ | ⟨hA, G, cG, he, _, ho⟩⟩ := h
    · exact ⟨_, _, _, he, by rw [hA]; rfl, Bo.none _ _ _, b⟩
    · exact ⟨_, _, _, he, by rw [hA]; rfl, OwnB.bo ho, b⟩
theorem pPins (ad : Option Addr) (N cap : Nat) (ss : List L2V) (w : World) (hN : ss.length = N) (hF : LSG w ad ss) (hN1 : N ≤ 1048576) :
    Calls Try.prog 26 #[.slice ad N cap] w fun e w' => BoM w w' e (catB N ss) (pinsA ss) :=
  (icatpins_any ad N cap ss w hN hF hN1).mono fun e w' h => by
    obtain ⟨b, ⟨hA, he⟩ | ⟨hA, G, cG, he, _, ho⟩⟩ := h
    · exact ⟨_, _, _, he, by rw [hA]; rfl, Bo.none _ _ _, b⟩
    · exact ⟨_, _, _, he, by rw [hA]; rfl, ho.bo, b⟩
theorem pReads (ad : Option Addr) (N cap : Nat) (ls : List LV) (w : World) (hN : ls.length = N) (hF : LinesG w ad ls) (hN1 : N ≤ 1048576) :
    Calls Try.prog 29 #[.slice ad N cap] w fun e w' => BoM w w' e (actB N ls) (readsR (rowsL ls)) :=
  (icatreads_any ad N cap ls w hN hF hN1).mono fun e w' h => by
    obtain ⟨b, ⟨hA, he⟩ | ⟨hA, G, cG, he, _, ho⟩⟩ := h
    · exact ⟨_, _, _, he, by rw [hA]; rfl, Bo.none _ _ _, b⟩
    · exact ⟨_, _, _, he, by rw [hA]; rfl, ho.bo, b⟩
theorem cat_act {N : Nat} {ss : List L2V} (h : catB N ss = true) {k : Nat} (hk : k < ss.length) : actB (ss[k]?.getD noL).n (ss[k]?.getD noL).x = true := by
  have := (catB_parts h).2
  rw [List.getElem?_eq_getElem hk]
  exact List.all_eq_true.1 this _ (List.getElem_mem hk)

set_option maxHeartbeats 6400000 in
theorem walk (w : World) (a : Option Addr) (n cap : Nat) (A0 : List Int) (hA0 : BInts w a n A0) (hn : n ≤ cap ∧ cap ≤ maxLen) :
    Calls Try.prog 5 #[.slice a n cap] w fun e w' => e = .returned (.bool true) ∧ Below w.heap.size w w' := by
  obtain ⟨hn2, hn3⟩ := hn
  by_cases hn1 : n ≤ 1048576
  · go_enter Try.func5, Try.ntmps5
    go_wp2_with fail
    refine (dPins _ _ _ A0 _ hA0 hn2 hn1 hn3).mono ?_
    rintro ee w1 ⟨ad, N, c, ss, rfl, b1, hG, hN, hN5⟩
    have BB := b1
    clear b1
    have HN : Hid (ss.length = N) := hN
    clear hN
    go_wp2_with fail
    refine (pPins _ _ _ ss _ HN.out hG (by omega)).mono ?_
    rintro ee w2 ⟨wa, wn, wc, rfl, hwn, hb1, b2⟩
    replace BB := BB.trans (b2.mono BB.size)
    replace hG := hG.below b2
    clear b2
    have HW : Hid (wn = mulN (catB N ss)) := hwn
    clear hwn
    go_wp2_with fail
    refine (qPins _ _ _ ss _ HN.out hG (by omega)).mono ?_
    rintro ee w3 ⟨xa, xn, xc, rfl, hxn, hb2, b3⟩
    replace BB := BB.trans (b3.mono BB.size)
    replace hG := hG.below b3
    replace hb1 := hb1.below b3
    clear b3
    obtain rfl : xn = wn := by rw [hxn, HW.out]
    clear hxn
    go_wp2_with fail
    refine (coB_any _ _ _ _ _ _ _ hb1 hb2).mono ?_
    rintro ee w4 ⟨rfl, b4⟩
    replace BB := BB.trans (b4.mono BB.size)
    replace hG := hG.below b4
    replace hb1 := hb1.below b4
    replace hb2 := hb2.below b4
    clear b4
    clear hb2
    go_wp2_with fail
    refine (scat_any _ _ _ ss _ HN.out hG (by omega)).mono ?_
    rintro ee w5 ⟨rfl, b5⟩
    replace BB := BB.trans (b5.mono BB.size)
    replace hG := hG.below b5
    replace hb1 := hb1.below b5
    clear b5
    cases hB : catB N ss
    · obtain rfl : xn = 0 := by rw [HW.out, hB]; rfl
      clear HW hB
      go_wp2_with fail
      refine (coHolds_any _).mono ?_
      rintro ee w6 ⟨rfl, bh⟩
      replace BB := BB.trans (bh.mono BB.size)
      replace hG := hG.below bh
      replace hb1 := hb1.below bh
      clear bh
      go_wp2
      go_ret
      exact ⟨rfl, BB⟩
    · obtain rfl : xn = 3 := by rw [HW.out, hB]; rfl
      have HC : Hid (catB N ss = true) := hB
      clear hB HW
      go_wp2_with fail
      go_loopw [5] (fun i wr => ∃ k : Nat, k ≤ 3 ∧ i = .int .i64 k ∧ Below w5.heap.size w5 wr) (fun i _ => 3 - (intOf i).toNat)
      case atStart => exact ⟨0, by omega, rfl, Below.refl _ _⟩
      case round =>
        obtain ⟨v, hv, rfl, hb⟩ := hrel
        have hb0 := Below.refl w5.heap.size w5
        replace BB := BB.trans (hb.mono BB.size)
        replace hb0 := hb0.trans (hb.mono hb0.size)
        replace hG := hG.below hb
        replace hb1 := hb1.below hb
        clear hb
        by_cases hlv : v < 3
        · have hv' : (v : Int) < 3 := by omega
          go_wp2_with fail
          have hb9 := Below.refl wr.heap.size wr
          go_loopw [6, 7] (fun x i wx => ∃ k : Nat, k ≤ N ∧ i = .int .i64 k ∧ x = .bool (pinAt ss v k) ∧ Below wr.heap.size wr wx) (fun _ i _ => N - (intOf i).toNat)
          case atStart => exact ⟨0, by omega, rfl, rfl, Below.refl _ _⟩
          case round =>
            obtain ⟨k, hk, rfl, rfl, hb⟩ := hrel
            replace BB := BB.trans (hb.mono BB.size)
            replace hb0 := hb0.trans (hb.mono hb0.size)
            replace hb9 := hb9.trans (hb.mono hb9.size)
            replace hG := hG.below hb
            replace hb1 := hb1.below hb
            clear hb
            by_cases hlk : k < N
            · have hk' : (k : Int) < (N : Int) := by omega
              have hkl : k < ss.length := by rw [HN.out]; exact hlk
              have HP : Hid (pinAt ss v (k + 1) = (pinAt ss v k || readsR (rowsL (ss[k]?.getD noL).x) v)) := pinAt_succ hkl
              cases hp : pinAt ss v k
              · have HP2 : Hid (pinAt ss v k = false) := hp
                clear hp
                obtain ⟨b', o', rfl, hck, hlg⟩ := hG k hkl
                have hok := cat_act HC.out hkl
                generalize ss[k]?.getD noL = y at hck hlg hok HP
                have hck' : wr.cell? ⟨b', o' + k, none⟩ = some (.slice y.a y.n y.cap) := hck
                clear hck hG
                obtain ⟨yl, yg, yn⟩ := hlg
                have HY : Hid (y.x.length = y.n) := yl
                clear yl
                have hn6 := (actB_six hok).1
                have HO : Hid (actB y.n y.x = true) := hok
                clear hok
                go_wp2_with fail
                refine (pReads _ _ _ y.x _ HY.out yg (by omega)).mono ?_
                rintro ee w6 ⟨ra, rn, rc, rfl, hrn, hr, b7⟩
                replace BB := BB.trans (b7.mono BB.size)
                replace hb0 := hb0.trans (b7.mono hb0.size)
                replace hb9 := hb9.trans (b7.mono hb9.size)
                replace hb1 := hb1.below b7
                replace yg := yg.below b7
                clear b7
                obtain rfl : rn = 3 := by rw [hrn, HO.out]; rfl
                clear hrn
                obtain ⟨G, rfl, hcR⟩ := hr.c (by omega)
                have d1 := hcR v hlv
                clear hcR hr yg hb1
                go_wp2
                go_roundw
                case rel => exact ⟨k + 1, by omega, by go_num, by rw [HP.out, HP2.out]; rfl, hb9⟩
                case measure => simp [intOf]; omega
              · have HP2 : Hid (pinAt ss v k = true) := hp
                clear hG hb1 hp
                go_wp2
                go_roundw
                case rel => exact ⟨k + 1, by omega, by go_num, by rw [HP.out, HP2.out]; rfl, hb9⟩
                case measure => simp [intOf]; omega
            · have hk' : ¬ (k : Int) < (N : Int) := by omega
              have HP : Hid (pinAt ss v k = pinsA ss v) := pinAt_all (by rw [HN.out]; omega)
              obtain ⟨G, rfl, hcB⟩ := hb1.c (by omega)
              have d1 := hcB v hlv
              rw [← HP.out] at d1
              clear hcB hb1 hG
              generalize pinAt ss v k = z at d1
              have hx : (z != z) = false := by cases z <;> rfl
              go_wp2
              go_roundw
              case rel => exact ⟨v + 1, by omega, by go_num, hb0⟩
              case measure => simp [intOf]; omega
        · have hv' : ¬ (v : Int) < 3 := by omega
          go_wp2_with fail
          refine (coHolds_any _).mono ?_
          rintro ee w6 ⟨rfl, bh⟩
          replace BB := BB.trans (bh.mono BB.size)
          replace hb0 := hb0.trans (bh.mono hb0.size)
          replace hG := hG.below bh
          replace hb1 := hb1.below bh
          clear bh
          go_wp2
          go_ret
          exact ⟨rfl, BB⟩
  · go_enter Try.func5, Try.ntmps5
    go_wp2
    go_ret
    exact ⟨rfl, Below.refl _ _⟩

/-! ### The row's step -/
set_option maxRecDepth 100000 in
theorem lifted (os : Os) (started : os.Started) (H : Type) (enc : TypeId × Value → H) :
    ReturnsInHanded {} Try.checked os 5 .any (Rows.fnCatPinsSpec.pre6 enc Try.prog Try.f5 Rows.fnCatPinsRow.domain false) (Rows.fnCatPinsSpec.post enc Try.prog Try.f5 false true false false) := by
  refine returnsInHanded_of_change (C := Try.checked) own started (by kernel_rfl) Try.func5
    (ChangeSpec.witness6 (enc := enc) (C := Try.checked) false ⟨#[], #[.slice none 0 0], []⟩ 8 (by kernel_rfl) (by kernel_rfl) (by kernel_rfl) (by kernel_rfl)) ?_
  intro W base args ds gs before hval0 hW hcnd _
  have hval : ∀ (j : Nat) t v, Try.f5.params[j]? = some t → args[j]? = some v → Value.okWide Try.prog W .any base t v := hval0
  have hW' := hW
  obtain ⟨p, q, hA0, hV, rfl, hfz, hnd⟩ := hW
  have hA : DataW.TrodAll enc Try.prog W 0 (fun _ => true) true Try.f5.params.toList args.toList ds p := hA0
  rw [Try.params5] at hA hval
  obtain ⟨v0, vs0, d0, ds0, p0, q0, hargs, rfl, rfl, h0, r0⟩ := trodAll_cons hA
  obtain ⟨rfl, rfl, rfl⟩ := trodAll_nil r0
  obtain rfl : args = #[v0] := by cases args; simp_all
  obtain ⟨rfl, rfl⟩ := trodVars_none hV
  have k0 := h0
  have lt0 : ∀ x ∈ p0, x.block < W.heap.size := by obtain ⟨m, hm⟩ := k0; exact DataW.trod_lt m _ _ _ hm
  obtain ⟨a0, n0, cap0, C0, rfl, hC0, hn0⟩ := open_bytesT (hval 0 22 v0 rfl rfl) h0
  clear hA0 hval0
  refine (walk W a0 n0 cap0 C0 hC0 hn0).mono fun e W' ⟨he, bel⟩ => ?_
  subst he
  exact ⟨_, rfl, _, _, _, [], _, [], hW', trodAll_mk1 (shut_bool Try.underlying4 _), (trodAll_cons_mk (Below.trod laidOut (by kernel_rfl) (of_decide_eq_true (by kernel_rfl)) k0 bel lt0) trodAll_mk0), rfl, bel.frame _, fun h => by cases h⟩

theorem over : Rows.fnCatPinsRow.holds Try.pinned (OpenSpec.ofChange Rows.fnCatPinsSpec) :=
  OpenClaim.holds_of_wide 5 Try.f5 rfl rfl rfl rfl rfl rfl rfl ⟨rfl, rfl, rfl, rfl, rfl⟩ rfl rfl rfl rfl rfl (by kernel_rfl) Try.func5 (by kernel_rfl)
    (of_decide_eq_true (by kernel_rfl)) (by unfold Func.isWrapper; first | (rw [if_pos (by decide +kernel)]; kernel_rfl) | (rw [if_neg (by decide +kernel)]; exact ⟨rfl, rfl⟩))
    (fun os started H enc _ => lifted os started H enc)

end Go.Proofs.Ytngfbcegcekbbaa.fnCatPins
namespace Go.Proofs.Ytngfbcegcekbbaa
/-- The statement. -/
theorem fnCatPins_holds : Rows.FnCatPinsSaid := fnCatPins.over
#print axioms fnCatPins_holds
end Go.Proofs.Ytngfbcegcekbbaa
