/-
  For all bytes FnValOk returns true, and both slices read behind the call as they did. No condition.
-/
import Derived.Test.YtmbhcngddpoonaeDrawV
import Derived.Test.YtmbhcngddpoonaeOpen
namespace Go.Proofs.Ytmbhcngddpoonae.fnValOk
open Go.ChangeShapes Go.WideShapes Go.ChangeAt Go.RowKit
set_option linter.unusedVariables false

theorem open_bytesT {H : Type} {enc : TypeId × Value → H} {W : World} {r : Reach} {b0 : Nat} {v : Value} {d : DataW H} {p : List MemPlace}
    (hv : Value.okWide Try.prog W r b0 48 v) (h : DataW.Trod enc Try.prog W 0 (fun _ => true) true 48 v d p) : ∃ a n cap zs, v = .slice a n cap ∧ BInts W a n zs ∧ (n ≤ cap ∧ cap ≤ maxLen) := by
  obtain ⟨a0, len0, cap0, rfl⟩ := okWide_slice Try.underlying48 hv
  obtain ⟨fuel, hf⟩ := h
  rcases open_ints Try.underlying48 Try.underlying5 (by kernel_rfl) hf with ⟨hcs, _⟩ | ⟨x, l, c, zs, hcs, _, hl, hm, hz, _, hcell, hwz⟩
  · simp [Value.cells] at hcs
    obtain ⟨rfl, rfl, rfl⟩ := hcs
    exact ⟨none, 0, 0, [], rfl, ⟨rfl, fun i hi => by omega, fun i => by simp⟩, by omega, by unfold maxLen; omega⟩
  · simp [Value.cells] at hcs
    obtain ⟨rfl, rfl, rfl⟩ := hcs
    have hz' : zs.length = cap0 := by simpa using hz
    refine ⟨some x, len0, cap0, zs.take len0, rfl, ⟨by rw [List.length_take]; omega, fun i hi => ?_, fun i => ?_⟩, hl, hm⟩
    · obtain ⟨b, off, spot⟩ := x
      have hc0 := hcell 0 (by omega)
      have hspot : spot = none := by simpa [Addr.add] using World.cell?_spot hc0
      subst hspot
      refine ⟨b, off, rfl, ?_⟩
      have hc := hcell i (by omega)
      have : W.cell? ⟨b, off + i, none⟩ = some (.int .u8 (zs.getD i 0)) := by
        by_cases h0 : i = 0
        · subst h0; simpa [Addr.add] using hc
        · simpa [Addr.add, h0] using hc
      rw [this]
      simp [hi]
    · by_cases hi : i < (zs.take len0).length
      · rw [List.getElem?_eq_getElem hi]
        have := hwz _ (List.mem_of_mem_take (List.getElem_mem hi))
        simpa [Lit.wf, IntKind.min, IntKind.max, IntKind.signed, IntKind.bits] using this
      · rw [List.getElem?_eq_none (by omega)]
        simp

theorem drawV_any (a : Option Addr) (n cap : Nat) (bs : List Int) (w : World) (h : BInts w a n bs) (hn : n ≤ cap) (hn1 : n ≤ 1048576) (hc : cap ≤ maxLen) :
    Calls Try.prog 27 #[.slice a n cap] w fun e w' => ∃ a' n' cap' zs, e = .returned (.slice a' n' cap') ∧ Below w.heap.size w w' ∧ Ints w' a' n' zs ∧ n' ≤ 4 := by
  go_enter Try.func27, Try.ntmps27
  go_wp2_with fail
  refine (open_any _ _ _ bs _ h hn hn1 hc).mono ?_
  rintro e w1 ⟨R, n', cap2, bs', rfl, b1, hR, r1⟩
  go_wp2_with fail
  refine (vals_any R a n' cap2 bs' _ r1 (fun h0 b o hab => by obtain ⟨b', o', hab', hcc⟩ := r1.b.2.1 0 h0; rw [hab] at hab'; simp only [Option.some.injEq, Addr.mk.injEq, and_true] at hab'; have := block_lt hcc; omega)).mono ?_
  rintro e w2 ⟨a2, n2, cap3, zs, rfl, t2, hI, h4⟩
  go_wp2
  go_ret
  exact ⟨_, _, _, zs, rfl, b1.trans (t2.below b1.size (fun k hk => by omega)), hI, h4⟩

theorem drawA_any (a : Option Addr) (n cap : Nat) (bs : List Int) (w : World) (h : BInts w a n bs) (hn : n ≤ cap) (hn1 : n ≤ 1048576) (hc : cap ≤ maxLen) :
    Calls Try.prog 28 #[.slice a n cap] w fun e w' => ∃ a' n' cap' zs, e = .returned (.slice a' n' cap') ∧ Below w.heap.size w w' ∧ Ints w' a' n' zs ∧ n' ≤ 4 := by
  go_enter Try.func28, Try.ntmps28
  go_wp2_with fail
  refine (open_any _ _ _ bs _ h hn hn1 hc).mono ?_
  rintro e w1 ⟨R, n', cap2, bs', rfl, b1, hR, r1⟩
  go_wp2_with fail
  refine (args_any R a n' cap2 bs' _ r1 (fun h0 b o hab => by obtain ⟨b', o', hab', hcc⟩ := r1.b.2.1 0 h0; rw [hab] at hab'; simp only [Option.some.injEq, Addr.mk.injEq, and_true] at hab'; have := block_lt hcc; omega)).mono ?_
  rintro e w2 ⟨a2, n2, cap3, zs, rfl, t2, hI, h4⟩
  go_wp2
  go_ret
  exact ⟨_, _, _, zs, rfl, b1.trans (t2.below b1.size (fun k hk => by omega)), hI, h4⟩

/-- Each by itself, alone among noughts. -/
def eachV (n : Nat) (zs : List Int) (k : Nat) : Bool := ((n : Int) == 3) && allB 10000 (zs.take k)
def eachA (n : Nat) (zs : List Int) (k : Nat) : Bool := ((n : Int) == 2) && allB 9 (zs.take k)
theorem eachV_end {n : Nat} {zs : List Int} (h : zs.length = n) : eachV n zs n = okN 3 10000 n zs := by
  unfold eachV okN
  rw [List.take_of_length_le (by omega)]
  rfl
theorem eachA_end {n : Nat} {zs : List Int} (h : zs.length = n) : eachA n zs n = okN 2 9 n zs := by
  unfold eachA okN
  rw [List.take_of_length_le (by omega)]
  rfl
theorem okN_one3 (x : Int) : okN 3 10000 3 [0, x, 0] = inB x (-10000) 10000 := by
  simp [okN, allB, inB]
theorem okN_one2 (x : Int) : okN 2 9 2 [x, 0] = inB x (-9) 9 := by
  simp [okN, allB, inB]
theorem eachV_succ {n k : Nat} {zs : List Int} (h : zs.length = n) (hk : k < n) : eachV n zs (k + 1) = (eachV n zs k && okN 3 10000 3 [0, zs[k]?.getD 0, 0]) := by
  unfold eachV
  rw [allB_take_succ 10000 zs k (by omega), okN_one3, Bool.and_assoc]
theorem eachA_succ {n k : Nat} {zs : List Int} (h : zs.length = n) (hk : k < n) : eachA n zs (k + 1) = (eachA n zs k && okN 2 9 2 [zs[k]?.getD 0, 0]) := by
  unfold eachA
  rw [allB_take_succ 9 zs k (by omega), okN_one2, Bool.and_assoc]

set_option maxHeartbeats 3200000 in
theorem walk (w : World) (a : Option Addr) (n cap : Nat) (A : List Int) (hA : BInts w a n A) (hn : n ≤ cap ∧ cap ≤ maxLen) (c : Option Addr) (m cap' : Nat) (B : List Int) (hB : BInts w c m B) (hm : m ≤ cap' ∧ cap' ≤ maxLen) :
    Calls Try.prog 6 #[.slice a n cap, .slice c m cap'] w fun e w' => e = .returned (.bool true) ∧ Below w.heap.size w w' := by
  obtain ⟨hn2, hn3⟩ := hn
  obtain ⟨hm2, hm3⟩ := hm
  by_cases hn1 : n ≤ 1048576
  · by_cases hm1 : m ≤ 1048576
    · go_enter Try.func6, Try.ntmps6
      go_wp2_with fail
      refine (drawV_any _ _ _ A _ hA hn2 hn1 hn3).mono ?_
      rintro e w1 ⟨v, p, cv, V, rfl, b1, hV, hp⟩
      go_wp2_with fail
      refine (drawA_any _ _ _ B _ (hB.below b1) hm2 hm1 hm3).mono ?_
      rintro e w2 ⟨u, q, cu, U, rfl, b2, hU, hq⟩
      have B2 := b1.trans (b2.mono b1.size)
      have hV2 := hV.below b2
      have HV : Hid (V.length = p) := hV.1
      have HU : Hid (U.length = q) := hU.1
      clear hA hB b1 b2 hV
      go_wp2_with fail
      go_loopw [7, 8] (fun ok i wr => ∃ k : Nat, k ≤ p ∧ i = .int .i64 k ∧ ok = .bool (eachV p V k) ∧ Below w2.heap.size w2 wr) (fun _ i _ => p - (intOf i).toNat)
      case atStart => exact ⟨0, Nat.zero_le _, rfl, by simp [eachV, allB], Below.refl _ _⟩
      case round =>
        obtain ⟨k, hk, rfl, rfl, hb⟩ := hrel
        by_cases hlt : k < p
        · have es := eachV_succ HV.out hlt
          have ES : Hid _ := es
          clear es
          obtain ⟨b, off, rfl, hcell⟩ := (hV2.below hb).pos (by omega)
          have hck := hcell k hlt
          have hlt' : (k : Int) < (p : Int) := by omega
          clear hcell
          cases hE : eachV p V k
          · go_wp2
            go_roundw
            case rel => exact ⟨k + 1, by omega, by go_num, by rw [ES.out, hE]; rfl, hb⟩
            case measure => simp [intOf]; omega
          · have hI3 : Ints (wr.alloc (.cells #[.int .i64 0, .int .i64 (V[k]?.getD 0), .int .i64 0] 3)) (some ⟨wr.heap.size, 0, none⟩) 3 [0, V[k]?.getD 0, 0] :=
              Blk.ints' (zs := [0, V[k]?.getD 0, 0]) (heap_alloc_new wr _) rfl
            have hz := hb.size
            go_wp2_with fail
            refine (ival_any _ _ _ _ _ hI3 (by omega)).mono ?_
            rintro e w3 ⟨rfl, rfl⟩
            go_wp2
            go_roundw
            case rel => exact ⟨k + 1, by omega, by go_num, by rw [ES.out, hE]; rfl, hb.alloc hz _⟩
            case measure => simp [intOf]; omega
        · obtain rfl : k = p := by omega
          rw [eachV_end HV.out]
          go_wp2_with fail
          go_loopw [9, 10] (fun ok i wx => ∃ k : Nat, k ≤ q ∧ i = .int .i64 k ∧ ok = .bool (eachA q U k) ∧ Below w2.heap.size w2 wx) (fun _ i _ => q - (intOf i).toNat)
          case atStart => exact ⟨0, Nat.zero_le _, rfl, by simp [eachA, allB], hb⟩
          case round =>
            clear hb
            obtain ⟨l, hl, rfl, rfl, hb⟩ := hrel
            by_cases hlt : l < q
            · have es := eachA_succ HU.out hlt
              have ES : Hid _ := es
              clear es
              obtain ⟨b, off, rfl, hcell⟩ := (hU.below hb).pos (by omega)
              have hck := hcell l hlt
              have hlt' : (l : Int) < (q : Int) := by omega
              clear hcell
              cases hE : eachA q U l
              · go_wp2
                go_roundw
                case rel => exact ⟨l + 1, by omega, by go_num, by rw [ES.out, hE]; rfl, hb⟩
                case measure => simp [intOf]; omega
              · have hI2 : Ints (wr.alloc (.cells #[.int .i64 (U[l]?.getD 0), .int .i64 0] 3)) (some ⟨wr.heap.size, 0, none⟩) 2 [U[l]?.getD 0, 0] :=
                  Blk.ints' (zs := [U[l]?.getD 0, 0]) (heap_alloc_new wr _) rfl
                have hz := hb.size
                go_wp2_with fail
                refine (iarg_any _ _ _ _ _ hI2 (by omega)).mono ?_
                rintro e w3 ⟨rfl, rfl⟩
                go_wp2
                go_roundw
                case rel => exact ⟨l + 1, by omega, by go_num, by rw [ES.out, hE]; rfl, hb.alloc hz _⟩
                case measure => simp [intOf]; omega
            · obtain rfl : l = q := by omega
              rw [eachA_end HU.out]
              have Bx := B2.trans (hb.mono B2.size)
              have e1 : (okN 3 10000 k V == okN 3 10000 k V) = true := by simp
              have e2 : (okN 2 9 l U == okN 2 9 l U) = true := by simp
              go_wp2_with fail
              refine (ival_any _ _ _ V _ (hV2.below hb) (by omega)).mono ?_
              rintro e w3 ⟨rfl, rfl⟩
              go_wp2_with fail
              refine (iarg_any _ _ _ U _ (hU.below hb) (by omega)).mono ?_
              rintro e w3 ⟨rfl, rfl⟩
              go_wp2_with fail
              refine (ival_any _ _ _ V _ (hV2.below hb) (by omega)).mono ?_
              rintro e w3 ⟨rfl, rfl⟩
              go_wp2_with fail
              refine (sval_any _ _ _ V _ (hV2.below hb) (by omega)).mono ?_
              rintro e w3 ⟨rfl, rfl⟩
              go_wp2_with fail
              refine (iarg_any _ _ _ U _ (hU.below hb) (by omega)).mono ?_
              rintro e w3 ⟨rfl, rfl⟩
              go_wp2_with fail
              refine (sarg_any _ _ _ U _ (hU.below hb) (by omega)).mono ?_
              rintro e w3 ⟨rfl, rfl⟩
              have hI3 : Ints (w3.alloc (.cells #[.int .i64 0, .int .i64 (-10000), .int .i64 10000] 3)) (some ⟨w3.heap.size, 0, none⟩) 3 [0, -10000, 10000] :=
                Blk.ints' (zs := [0, -10000, 10000]) (heap_alloc_new w3 _) rfl
              have hok : okN 3 10000 3 [0, -10000, 10000] = true := by decide
              have hz := Bx.size
              go_wp2_with fail
              refine (ival_any _ _ _ _ _ hI3 (by omega)).mono ?_
              rintro e w4 ⟨rfl, rfl⟩
              go_wp2
              go_ret
              exact ⟨rfl, Bx.alloc hz _⟩
    · go_enter Try.func6, Try.ntmps6
      go_wp2
      go_ret
      exact ⟨rfl, Below.refl _ _⟩
  · go_enter Try.func6, Try.ntmps6
    go_wp2
    go_ret
    exact ⟨rfl, Below.refl _ _⟩

/-! ### The row's step -/
set_option maxRecDepth 100000 in
theorem lifted (os : Os) (started : os.Started) (H : Type) (enc : TypeId × Value → H) :
    ReturnsInHanded {} Try.checked os 6 .any (Rows.fnValOkSpec.pre6 enc Try.prog Try.f6 Rows.fnValOkRow.domain false) (Rows.fnValOkSpec.post enc Try.prog Try.f6 false true false false) := by
  refine returnsInHanded_of_change (C := Try.checked) own started (by kernel_rfl) Try.func6
    (ChangeSpec.witness6 (enc := enc) (C := Try.checked) false ⟨#[], #[.slice none 0 0, .slice none 0 0], []⟩ 8 (by kernel_rfl) (by kernel_rfl) (by kernel_rfl) (by kernel_rfl)) ?_
  intro W base args ds gs before hval0 hW hcnd _
  have hval : ∀ (j : Nat) t v, Try.f6.params[j]? = some t → args[j]? = some v → Value.okWide Try.prog W .any base t v := hval0
  have hW' := hW
  obtain ⟨p, q, hA0, hV, rfl, hfz, hnd⟩ := hW
  have hA : DataW.TrodAll enc Try.prog W 0 (fun _ => true) true Try.f6.params.toList args.toList ds p := hA0
  rw [Try.params6] at hA hval
  obtain ⟨v0, vs0, d0, ds0, p0, q0, hargs, rfl, rfl, h0, r0⟩ := trodAll_cons hA
  obtain ⟨v1, vs1, d1, ds1, p1, q1, rfl, rfl, rfl, h1, r1⟩ := trodAll_cons r0
  obtain ⟨rfl, rfl, rfl⟩ := trodAll_nil r1
  obtain rfl : args = #[v0, v1] := by cases args; simp_all
  obtain ⟨rfl, rfl⟩ := trodVars_none hV
  have k0 := h0
  have lt0 : ∀ x ∈ p0, x.block < W.heap.size := by obtain ⟨m, hm⟩ := k0; exact DataW.trod_lt m _ _ _ hm
  obtain ⟨a0, n0, cap0, C0, rfl, hC0, hn0⟩ := open_bytesT (hval 0 48 v0 rfl rfl) h0
  have k1 := h1
  have lt1 : ∀ x ∈ p1, x.block < W.heap.size := by obtain ⟨m, hm⟩ := k1; exact DataW.trod_lt m _ _ _ hm
  obtain ⟨a1, n1, cap1, C1, rfl, hC1, hn1⟩ := open_bytesT (hval 1 48 v1 rfl rfl) h1
  clear hA0 hval0
  refine (walk W a0 n0 cap0 C0 hC0 hn0 a1 n1 cap1 C1 hC1 hn1).mono fun e W' ⟨he, bel⟩ => ?_
  subst he
  exact ⟨_, rfl, _, _, _, [], _, [], hW', trodAll_mk1 (shut_bool Try.underlying4 _), (trodAll_cons_mk (Below.trod laidOut (by kernel_rfl) (of_decide_eq_true (by kernel_rfl)) k0 bel lt0) (trodAll_cons_mk (Below.trod laidOut (by kernel_rfl) (of_decide_eq_true (by kernel_rfl)) k1 bel lt1) trodAll_mk0)), rfl, bel.frame _, fun h => by cases h⟩

theorem over : Rows.fnValOkRow.holds Try.pinned (OpenSpec.ofChange Rows.fnValOkSpec) :=
  OpenClaim.holds_of_wide 6 Try.f6 rfl rfl rfl rfl rfl rfl rfl ⟨rfl, rfl, rfl, rfl, rfl⟩ rfl rfl rfl rfl rfl (by kernel_rfl) Try.func6 (by kernel_rfl)
    (of_decide_eq_true (by kernel_rfl)) (by unfold Func.isWrapper; first | (rw [if_pos (by decide +kernel)]; kernel_rfl) | (rw [if_neg (by decide +kernel)]; exact ⟨rfl, rfl⟩))
    (fun os started H enc _ => lifted os started H enc)

end Go.Proofs.Ytmbhcngddpoonae.fnValOk
namespace Go.Proofs.Ytmbhcngddpoonae
/-- The statement. -/
theorem fnValOk_holds : Rows.FnValOkSaid := fnValOk.over
#print axioms fnValOk_holds
end Go.Proofs.Ytmbhcngddpoonae
