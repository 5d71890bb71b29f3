/-
  For every text FnExactActRead returns true; the library's variables that are listed are as its text lays them. No other condition.
-/
import Derived.Test.YtkmacleakfbobabGreatDoorAcS
import Derived.Test.YtkmacleakfbobabGreatDoorAcI
import Derived.Test.YtkmacleakfbobabGreatDoorRfX
import Derived.Test.YtkmacleakfbobabGreatDoorRdL
import Derived.Test.YtkmacleakfbobabGreatDoorTie
import Derived.Test.YtkmacleakfbobabGreatDoorCards
import Derived.Stop.LaidErr
import Derived.Lib.LaidTab
import Derived.LaidMore
import Derived.Lay
import Derived.SevenTiedAt
import Derived.Stop.Joined
import Derived.HandedShaped
import Derived.ChangeMaps5
namespace Go.Proofs.YtkmacleakfbobabGreatDoor
open Go.RowKit
set_option linter.unusedVariables false
set_option maxRecDepth 100000

theorem ra_small {l : List UInt8} {k p z : Int} {C D : List Int} {K : Int} {ok : Bool} (h : raS l = ((k, p, z, C, D, K), ok)) : C.length ≤ 3 ∧ D.length ≤ 2 := by
  rw [raS] at h
  split at h
  · rename_i hb
    have e : lineS l = (k, p, z, C, D, K) := congrArg Prod.fst h
    rw [e] at hb
    have hok : lineB k p z C.length D.length C D K = true := by
      cases hh : lineB k p z C.length D.length C D K with
      | true => rfl
      | false => exact absurd (actText_no hh) hb.1
    rcases line_cases hok with ⟨-, -, -, hs⟩ | ⟨-, -, -, hs⟩ | ⟨-, -, -, hs⟩ | ⟨-, -, -, rfl, rfl, -⟩
    · have := small_bnd hs; omega
    · have := small_bnd hs; omega
    · have := small_bnd hs; omega
    · simp
  · rw [noA] at h
    cases h
    simp

theorem markA_any (kk pp zz : Int) (a : Option Addr) (n cap : Nat) (c : Option Addr) (m cap' : Nat) (K : Int) (B1 B2 : Nat) (C D : List Int) (k : Int) (w : World) (hC : OwnAt w a B1 C) (hD : OwnAt w c B2 D) (hne : 0 < n → 0 < m → B1 ≠ B2)
    (hzC : C.length = n) (hzD : D.length = m) (hn : n ≤ 1048576) (hm : m ≤ 1048576) (hk0 : 0 ≤ k) (hk : k ≤ 10000000000) :
    Calls Tryz.prog 8 #[lineV kk pp zz a n cap c m cap' K, .int .i64 k] w fun e w' => e = .returned (.int .i64 (k + n + m)) ∧ Touch (fun x => (x = B1 ∧ 0 < n) ∨ (x = B2 ∧ 0 < m)) w w' ∧ OwnAt w' a B1 (ramp k n) ∧ OwnAt w' c B2 (ramp (k + n) m) := by
  have al : Below w.heap.size w (w.alloc (.cells #[.int .i64 kk, .int .i64 pp, .int .i64 zz, .slice a n cap, .slice c m cap', .int .i64 K] 26)) := (Below.refl _ _).alloc (Nat.le_refl _) _
  go_enter Tryz.func8, Tryz.ntmps8
  go_wp2_with fail
  refine (markF_any _ _ _ _ _ _ K B1 B2 C D k _ (hC.below al) (hD.below al) hne hzC hzD hn hm hk0 hk).mono ?_
  rintro e w1 ⟨rfl, t1, o1, o2⟩
  go_wp2
  go_ret
  exact ⟨rfl, (Touch.of al).trans t1, o1, o2⟩

theorem heldA_any (kk pp zz : Int) (a : Option Addr) (n cap : Nat) (c : Option Addr) (m cap' : Nat) (K : Int) (k : Int) (w : World) (hC : Ints w a n (ramp k n)) (hD : Ints w c m (ramp (k + n) m))
    (hn : n ≤ 1048576) (hm : m ≤ 1048576) (hk0 : 0 ≤ k) (hk : k ≤ 10000000000) :
    Calls Tryz.prog 9 #[lineV kk pp zz a n cap c m cap' K, .int .i64 k] w fun e w' => e = .returned (.int .i64 (k + n + m)) ∧ Below w.heap.size w w' := by
  have al : Below w.heap.size w (w.alloc (.cells #[.int .i64 kk, .int .i64 pp, .int .i64 zz, .slice a n cap, .slice c m cap', .int .i64 K] 26)) := (Below.refl _ _).alloc (Nat.le_refl _) _
  have h0 : 0 ≤ k + (n : Int) + (m : Int) := by omega
  go_enter Tryz.func9, Tryz.ntmps9
  go_wp2_with fail
  refine (heldF_any _ _ _ _ _ _ K k _ (hC.below al) (hD.below al) hn hm hk0 hk).mono ?_
  rintro e w1 ⟨rfl, b1⟩
  go_wp2
  go_ret
  exact ⟨rfl, al.trans (b1.mono al.size)⟩

theorem saread_at {l : List UInt8} {k p z : Int} {C D : List Int} {K : Int} {ok : Bool} {n m : Nat} (hF : raS l = ((k, p, z, C, D, K), ok)) (hn : C.length = n) (hm : D.length = m) (w : World) :
    Calls Tryz.prog 5 #[.string ⟨l.toArray⟩] w fun e w' => ∃ a cap c cap', e = .returned (.tuple #[lineV k p z a n cap c m cap' K, .bool ok]) ∧ Below w.heap.size w w' ∧ Ints w' a n C ∧ Ints w' c m D := by
  refine (saread_any l w).mono ?_
  rintro e w' ⟨k', p', z', C', D', K', a, n', cap, c, m', cap', ok', h1, h2, h3, h4, h5⟩
  rw [hF] at h5
  cases h5
  obtain rfl : n' = n := h3.1.symm.trans hn
  obtain rfl : m' = m := h4.1.symm.trans hm
  exact ⟨a, cap, c, cap', h1, h2, h3, h4⟩

theorem iaread_at {l : List UInt8} {k p z : Int} {C D : List Int} {K : Int} {ok : Bool} {n m : Nat} (hF : raS l = ((k, p, z, C, D, K), ok)) (hn : C.length = n) (hm : D.length = m) (w : World) (hl : l.length ≤ 1048576) (hA : ReadsN w) (hSp : Splits w) (hC : Cuts w) (hT : Lib.TabBelow Tryz.prog w.heap.size w "internal/strconv.uint64pow10" .u64 Lib.pow10Tab) :
    Calls Tryz.prog 6 #[.string ⟨l.toArray⟩] w fun e w' => ∃ a cap c cap' B1 B2, e = .returned (.tuple #[lineV k p z a n cap c m cap' K, .bool ok]) ∧ Below w.heap.size w w' ∧ OwnAt w' a B1 C ∧ OwnAt w' c B2 D ∧ (0 < n → w.heap.size ≤ B1 ∧ B1 < w'.heap.size) ∧ (0 < m → w.heap.size ≤ B2 ∧ B2 < w'.heap.size) ∧ (0 < n → 0 < m → B1 ≠ B2) := by
  refine (iaread_any l w hl hA hSp hC hT).mono ?_
  rintro e w' ⟨k', p', z', C', D', K', a, n', cap, c, m', cap', B1, B2, ok', h1, l1, l2, -, h2, o1, o2, g1, g2, g12, h5⟩
  rw [ra_same, hF] at h5
  cases h5
  obtain rfl : n' = n := l1.symm.trans hn
  obtain rfl : m' = m := l2.symm.trans hm
  exact ⟨a, cap, c, cap', B1, B2, h1, h2, o1, o2, fun h => ⟨g1 h, o1.lt (by omega)⟩, fun h => ⟨g2 h, o2.lt (by omega)⟩, g12⟩

end Go.Proofs.YtkmacleakfbobabGreatDoor

namespace Go.Proofs.YtkmacleakfbobabGreatDoor.fnExactActRead
open Go.ChangeShapes Go.WideShapes Go.ChangeAt Go.RowKit Go.Deep
open Go.ChangeMaps (open_string shut_string)
set_option linter.unusedVariables false

theorem ownAt_below {w w' : World} {a : Option Addr} {B : Nat} {zs : List Int} (h : OwnAt w a B zs) (b : Below w.heap.size w w') : OwnAt w' a B zs := by
  rcases h with h | ⟨e, k⟩
  · exact .inl h
  · exact .inr ⟨e, k.below b⟩
theorem ownAt_ints {w : World} {a : Option Addr} {B n : Nat} {zs : List Int} (h : OwnAt w a B zs) (hn : zs.length = n) : Ints w a n zs := by
  subst hn
  exact h.ints

set_option maxRecDepth 100000 in
set_option maxHeartbeats 6400000 in
theorem walk (w : World) (l : List UInt8) (hA : ReadsN w) (hP : Splits w) (hU : Cuts w) (hT : Lib.TabBelow Tryz.prog w.heap.size w "internal/strconv.uint64pow10" .u64 Lib.pow10Tab) :
    Calls Tryz.prog 3 #[.string ⟨l.toArray⟩] w fun r w' => r = .returned (.bool true) ∧ Below w.heap.size w w' := by
  by_cases hl : l.length ≤ 1048576
  · have hi : ¬ (1048576 : Int) < (l.length : Int) := by omega
    obtain ⟨⟨⟨kk, pp, zz, C, D, K⟩, ok⟩, hF⟩ : ∃ r, raS l = r := ⟨_, rfl⟩
    have HF : Hid _ := hF
    obtain ⟨n, hn⟩ : ∃ n, C.length = n := ⟨_, rfl⟩
    obtain ⟨m, hm⟩ : ∃ m, D.length = m := ⟨_, rfl⟩
    have HN : Hid _ := hn
    have HM : Hid _ := hm
    have hsm := ra_small hF
    have hn1 : n ≤ 1048576 := by omega
    have hm1 : m ≤ 1048576 := by omega
    have HA : Hid _ := hA
    have HP : Hid _ := hP
    have HU : Hid _ := hU
    have HT : Hid _ := hT
    have HE := eqF_refl C D K
    have HEE : Hid _ := HE
    clear hF hA hP hT hU HE
    go_enter Tryz.func3, Tryz.ntmps3
    go_wp2_with fail
    refine (saread_at HF.out HN.out HM.out _).mono ?_
    rintro e w1 ⟨aw, cw, bw, dw, rfl, b1, iw, jw⟩
    have iw2 := iw.alloc (.cells #[.int .i64 kk, .int .i64 pp, .int .i64 zz, .slice aw n cw, .slice bw m dw, .int .i64 K] 26)
    have jw2 := jw.alloc (.cells #[.int .i64 kk, .int .i64 pp, .int .i64 zz, .slice aw n cw, .slice bw m dw, .int .i64 K] 26)
    have B2 := b1.alloc b1.size (.cells #[.int .i64 kk, .int .i64 pp, .int .i64 zz, .slice aw n cw, .slice bw m dw, .int .i64 K] 26)
    have x3 := Cel.new w1 [.int .i64 kk, .int .i64 pp, .int .i64 zz, .slice aw n cw, .slice bw m dw, .int .i64 K] 26
    clear iw jw b1
    go_wp2_with fail
    obtain ⟨w2, hw2⟩ : ∃ w2, w2 = w1.alloc (.cells #[.int .i64 kk, .int .i64 pp, .int .i64 zz, .slice aw n cw, .slice bw m dw, .int .i64 K] 26) := ⟨_, rfl⟩
    replace x3 : Cel w2 w1.heap.size [.int .i64 kk, .int .i64 pp, .int .i64 zz, .slice aw n cw, .slice bw m dw, .int .i64 K] 26 := by rw [hw2]; exact x3
    rw [← hw2] at iw2 jw2 B2 ⊢
    clear hw2
    refine (iaread_at HF.out HN.out HM.out _ hl (ReadsN.below HA.out B2) (Splits.belowA HP.out B2) (Cuts.below HU.out B2) (fun w' h' => HT.out w' (B2.trans (h'.mono B2.size)))).mono ?_
    rintro e w3 ⟨a, cap, c, cap', Q1, Q2, rfl, b3, o3, p3, hQ1, hQ2, hQ⟩
    have x33 := x3.below b3
    obtain ⟨r30, r31, r32, r33, r34, r35⟩ := x33.six
    have lt3 := x33.lt
    have hok : (ok != ok) = false := by simp
    have hok2 : (ok == ok) = true := by simp
    go_wp2_with fail
    obtain ⟨w4, hw4⟩ : ∃ w4, w4 = w3.alloc (.cells #[.int .i64 kk, .int .i64 pp, .int .i64 zz, .slice a n cap, .slice c m cap', .int .i64 K] 26) := ⟨_, rfl⟩
    have A4 : Below w3.heap.size w3 w4 := by rw [hw4]; exact (Below.refl _ _).alloc (Nat.le_refl _) _
    have o4 := ownAt_below o3 A4
    have p4 := ownAt_below p3 A4
    have b4 : Below w2.heap.size w2 w4 := b3.trans (A4.mono b3.size)
    have x5 : Cel w4 w3.heap.size [.int .i64 kk, .int .i64 pp, .int .i64 zz, .slice a n cap, .slice c m cap', .int .i64 K] 26 := by rw [hw4]; exact Cel.new w3 _ _
    rw [← hw4]
    clear hw4 o3 p3 b3 x33 r30 r31 r32 r33 r34 r35 lt3 A4
    refine (eqL_same _ _ _ _ _ _ _ _ _ K C D _ _ _ _ _ _ K C D _ (ownAt_ints o4 HN.out) (ownAt_ints p4 HM.out) (iw2.below b4) (jw2.below b4) hn1 hm1 hn1 hm1 HEE.out).mono ?_
    rintro e w5 ⟨rfl, b5⟩
    have x55 := x5.below b5
    have o5 := ownAt_below o4 b5
    have p5 := ownAt_below p4 b5
    have b25 := b4.trans (b5.mono b4.size)
    clear x5 o4 p4 b4 b5
    obtain ⟨r50, r51, r52, r53, r54, r55⟩ := x55.six
    go_wp2_with fail
    refine (markA_any _ _ _ _ _ _ _ _ _ K Q1 Q2 C D 1 _ o5 p5 hQ HN.out HM.out hn1 hm1 (by omega) (by omega)).mono ?_
    rintro e w6 ⟨rfl, t6, o6, p6⟩
    have b26 := b25.trans (t6.below b25.size (fun k hk => by rcases hk with ⟨rfl, h⟩ | ⟨rfl, h⟩; exact (hQ1 h).1; exact (hQ2 h).1))
    have x56 := x55.touch t6 (fun hk => by rcases hk with ⟨e, h⟩ | ⟨e, h⟩; have := (hQ1 h).2; omega; have := (hQ2 h).2; omega)
    clear x55 o5 p5 b25 t6 r50 r51 r52 r53 r54 r55
    obtain ⟨r50, r51, r52, r53, r54, r55⟩ := x56.six
    have lenr : ∀ (k : Int) (q : Nat), (ramp k q).length = q := fun k q => ramp_len k q
    go_wp2_with fail
    refine (heldA_any _ _ _ _ _ _ _ _ _ K 1 _ (ownAt_ints o6 (lenr _ _)) (ownAt_ints p6 (lenr _ _)) hn1 hm1 (by omega) (by omega)).mono ?_
    rintro e w7 ⟨rfl, b7⟩
    have x57 := x56.below b7
    have o7 := ownAt_below o6 b7
    have p7 := ownAt_below p6 b7
    have b27 := b26.trans (b7.mono b26.size)
    have B7 := B2.trans (b27.mono B2.size)
    have hm0 : ¬ (1 : Int) + (n : Int) + (m : Int) < 0 := by omega
    clear x56 o6 p6 b26 b7 r50 r51 r52 r53 r54 r55
    go_wp2_with fail
    refine (iaread_at HF.out HN.out HM.out _ hl (ReadsN.below HA.out B7) (Splits.belowA HP.out B7) (Cuts.below HU.out B7) (fun w' h' => HT.out w' (B7.trans (h'.mono B7.size)))).mono ?_
    rintro e w8 ⟨a2, cap2, c2, cap2', Q3, Q4, rfl, b8, o8, p8, -, -, -⟩
    have x58 := x57.below b8
    have o78 := ownAt_below o7 b8
    have p78 := ownAt_below p7 b8
    have b28 := b27.trans (b8.mono b27.size)
    have x38 := x3.below b28
    obtain ⟨r30, r31, r32, r33, r34, r35⟩ := x38.six
    have lt3 := x38.lt
    clear x57 o7 p7 b27 b8
    go_wp2_with fail
    obtain ⟨w9, hw9⟩ : ∃ w9, w9 = w8.alloc (.cells #[.int .i64 kk, .int .i64 pp, .int .i64 zz, .slice a2 n cap2, .slice c2 m cap2', .int .i64 K] 26) := ⟨_, rfl⟩
    have A9 : Below w8.heap.size w8 w9 := by rw [hw9]; exact (Below.refl _ _).alloc (Nat.le_refl _) _
    have o89 := ownAt_below o8 A9
    have p89 := ownAt_below p8 A9
    have o79 := ownAt_below o78 A9
    have p79 := ownAt_below p78 A9
    have b29 := b28.trans (A9.mono b28.size)
    have x59 := x58.below A9
    rw [← hw9]
    clear hw9 o8 p8 o78 p78 b28 x58 x38 r30 r31 r32 r33 r34 r35 lt3 A9
    refine (eqL_same _ _ _ _ _ _ _ _ _ K C D _ _ _ _ _ _ K C D _ (ownAt_ints o89 HN.out) (ownAt_ints p89 HM.out) (iw2.below b29) (jw2.below b29) hn1 hm1 hn1 hm1 HEE.out).mono ?_
    rintro e w10 ⟨rfl, b10⟩
    have x510 := x59.below b10
    have o710 := ownAt_below o79 b10
    have p710 := ownAt_below p79 b10
    have b210 := b29.trans (b10.mono b29.size)
    clear x59 o79 p79 b29 b10 o89 p89
    obtain ⟨r50, r51, r52, r53, r54, r55⟩ := x510.six
    go_wp2_with fail
    refine (heldA_any _ _ _ _ _ _ _ _ _ K 1 _ (ownAt_ints o710 (lenr _ _)) (ownAt_ints p710 (lenr _ _)) hn1 hm1 (by omega) (by omega)).mono ?_
    rintro e w11 ⟨rfl, b11⟩
    have b211 := b210.trans (b11.mono b210.size)
    have B11 := B2.trans (b211.mono B2.size)
    clear x510 o710 p710 b210 b11 r50 r51 r52 r53 r54 r55 b211
    go_wp2
    go_ret
    exact ⟨rfl, B11⟩
  · have hi : (1048576 : Int) < (l.length : Int) := by omega
    go_enter Tryz.func3, Tryz.ntmps3
    go_wp2
    go_ret
    exact ⟨rfl, Below.refl _ _⟩

/-! ### The row's step -/
theorem star : "*" ++ "errors.errorString" = "*errors.errorString" := by decide
theorem rowErr (u : TypeId) (h : Tryz.prog.typeName? 3 u = some "*errors.errorString") : u = 137 :=
  typeName_ptr_named (nm := "errors.errorString") (by rw [star]; kernel_rfl) (by kernel_rfl) (by decide) u (by rw [star]; exact h)
theorem tab_of {W : World} (h : laidMetH Tryz.prog Rows.fnExactActReadRow.laid W) : Lib.TabIs Tryz.prog W "internal/strconv.uint64pow10" .u64 Lib.pow10Tab := by
  rw [MakeChecks.laidMetH_plain _ _ _ (by kernel_rfl)] at h
  have h2 : laidMet Tryz.prog (("internal/strconv.uint64pow10", Lib.tabData .u64 Lib.pow10Tab) :: Rows.fnExactActReadRow.laid.tail.tail.tail) W := h.tail.tail
  exact Lib.tabIs_of_head (g := 5) (t := 154) (e := 119) (n := 20) (by kernel_rfl) (by kernel_rfl) Tryz.underlying154 Tryz.underlying119 (by kernel_rfl) (by kernel_rfl) h2
theorem reads_laid {W : World} (h : laidMetH Tryz.prog Rows.fnExactActReadRow.laid W) : ReadsN W := by
  rw [MakeChecks.laidMetH_plain _ _ _ (by kernel_rfl)] at h
  have hR := h.tail.tail.tail.tail
  obtain ⟨a1, s1, hv1, -, -, -⟩ := laid_sentinel hR (g := 2) (by kernel_rfl) (by kernel_rfl) Tryz.underlying86 rowErr Tryz.underlying137 Tryz.underlying139 rfl rfl Tryz.underlying9 (by kernel_rfl) (by kernel_rfl)
  obtain ⟨a0, s0, hv0, -, -, -⟩ := laid_sentinel hR.tail (g := 1) (by kernel_rfl) (by kernel_rfl) Tryz.underlying86 rowErr Tryz.underlying137 Tryz.underlying139 rfl rfl Tryz.underlying9 (by kernel_rfl) (by kernel_rfl)
  exact reads_of W _ _ _ _ hv0 hv1

set_option maxRecDepth 100000 in
theorem step {H : Type} {enc : TypeId × Value → H} (W : World) (base : Nat) (args : Array Value) (ds gs : List (DataW H)) (before : List MemPlace)
    (hval0 : ∀ (j : Nat) t v, Tryz.f3.params[j]? = some t → args[j]? = some v → Value.okWide Tryz.prog W .any base t v)
    (hW : DataW.Whole enc Tryz.prog Tryz.f3.params.toList Rows.fnExactActReadSpec.vars false W args.toList ds gs before)
    (hL : laidMetH Tryz.prog Rows.fnExactActReadRow.laid W) (hsh : W.ShapedOpen Tryz.prog) :
    Calls Tryz.prog 3 args W fun e W' => ∃ v, e = .returned v ∧ Rows.fnExactActReadSpec.post enc Tryz.prog Tryz.f3 false true false false W args v W' := by
  have hval : ∀ (j : Nat) t v, Tryz.f3.params[j]? = some t → args[j]? = some v → Value.okWide Tryz.prog W .any base t v := hval0
  have hW' := hW
  obtain ⟨p, q, hA0, hV, rfl, hfz, hnd⟩ := hW
  have hA : DataW.TrodAll enc Tryz.prog W 0 (fun _ => true) true Tryz.f3.params.toList args.toList ds p := hA0
  rw [Tryz.params3] at hA hval
  obtain ⟨v0, vs0, d0, ds0, p0, q0, hargs, rfl, rfl, h0, r0⟩ := trodAll_cons hA
  obtain ⟨rfl, rfl, rfl⟩ := trodAll_nil r0
  obtain rfl : args = #[v0] := by cases args; simp_all
  obtain ⟨rfl, rfl⟩ := trodVars_none hV
  have k0 := h0
  have lt0 : ∀ x ∈ p0, x.block < W.heap.size := by obtain ⟨m, hm⟩ := k0; exact DataW.trod_lt m _ _ _ hm
  obtain ⟨s, rfl, rfl, rfl, hs⟩ := open_string Tryz.underlying9 (hval 0 9 v0 rfl rfl) h0
  obtain ⟨l, rfl⟩ : ∃ l : List UInt8, s = ⟨l.toArray⟩ := ⟨s.data.toList, by cases s; simp⟩
  obtain ⟨m, hm⟩ := Tryz.laysM146.s1_3 W hsh
  clear hA0 hval0
  refine (walk W l (reads_laid hL) (splits_of W m hm) (cuts_of W m hm) (Lib.tabBelow_of_tabIs (tab_of hL))).mono fun e W' ⟨he, bel⟩ => ?_
  subst he
  exact ⟨_, rfl, _, _, _, [], _, [], hW', trodAll_mk1 (shut_bool Tryz.underlying4 _), (trodAll_cons_mk (Below.trod laidOut (by kernel_rfl) (of_decide_eq_true (by kernel_rfl)) k0 bel lt0) trodAll_mk0), rfl, bel.frame _, fun h => by cases h⟩

set_option maxRecDepth 100000 in
theorem lifted (os : Os) (started : os.Started) (H : Type) (enc : TypeId × Value → H) :
    ReturnsInHanded {} Tryz.checked os 3 .any (fun w args => (Rows.fnExactActReadSpec.pre enc Tryz.prog Tryz.f3 Rows.fnExactActReadRow.domain false w args ∧ laidMetH Tryz.prog Rows.fnExactActReadRow.laid w) ∧ sizedMet enc Tryz.prog Tryz.f3 (OpenSpec.ofChange Rows.fnExactActReadSpec) false w args) (Rows.fnExactActReadSpec.post enc Tryz.prog Tryz.f3 false true false false) := by
  refine returnsInHanded_of_calls own started (by kernel_rfl)
    (ChangeSpec.witness_shaped (enc := enc) (C := Tryz.checked) (os := os) (X := fun w _ => laidMetH Tryz.prog Rows.fnExactActReadRow.laid w) false (World.laidAll Tryz.prog os Rows.fnExactActReadRow.laid) #[.string ⟨#[]⟩] 8 (World.laidAll_os _ _ _)
      (World.shaped_of_ZipB (by kernel_rfl) (by kernel_rfl)) (by kernel_rfl) (by kernel_rfl) (by kernel_rfl)
      (by rw [MakeChecks.laidMetH_plain _ _ _ (by kernel_rfl)]; exact laidMet_laidAll _ (by kernel_rfl) (by kernel_rfl))) ?_
  intro w0 tape i _ hsh _ hok hpre _
  obtain ⟨_, _, _, fn', hfn', _, _, _, _, hval⟩ := hok
  obtain rfl : fn' = Tryz.f3 := Option.some.inj (hfn'.symm.trans Tryz.func3)
  obtain ⟨⟨⟨ds, gs, before, hw, -⟩, hx⟩, -⟩ := hpre
  have hL : laidMetH Tryz.prog Rows.fnExactActReadRow.laid (w0.forCall tape i) := hx.of_heap (by rfl)
  refine (step (w0.forCall tape i) w0.heap.size i.args ds gs before hval (DataW.Whole.of_heap (w' := w0.forCall tape i) (by rfl) hw) hL hsh).mono ?_
  rintro e W' ⟨v, rfl, hp⟩
  exact ChangeSpec.post_blind hp

theorem over : Rows.fnExactActReadRow.holds Tryz.pinned (OpenSpec.ofChange Rows.fnExactActReadSpec) :=
  OpenClaim.holds_of_wide 3 Tryz.f3 rfl rfl rfl rfl rfl rfl rfl ⟨rfl, rfl, rfl, rfl, rfl⟩ rfl rfl rfl rfl rfl (by kernel_rfl) Tryz.func3 (by kernel_rfl)
    (of_decide_eq_true (by kernel_rfl)) (by unfold Func.isWrapper; first | (rw [if_pos (by decide +kernel)]; kernel_rfl) | (rw [if_neg (by decide +kernel)]; exact ⟨rfl, rfl⟩))
    (fun os started H enc _ => lifted os started H enc)

end Go.Proofs.YtkmacleakfbobabGreatDoor.fnExactActRead
namespace Go.Proofs.YtkmacleakfbobabGreatDoor
/-- The statement. -/
theorem fnExactActRead_holds : Rows.FnExactActReadCardSaid :=
  Claim7.holds_tied_plain_at .later [] [.data, .data, .data, .data, .sentinel, .sentinel, .pinned] true Rows.fnExactActReadCard.stood.harness Rows.fnExactActReadCard.stood.looks fnExactActRead.over (fun _ h => by cases h) (by kernel_rfl) (fun _ h => by cases h) fnExactActRead_row_tie rfl ⟨rfl, rfl⟩ (by kernel_rfl) rfl
    (fun f fn hf hfn => by
      obtain rfl : f = 3 := Option.some.inj ((show Tryz.prog.funcNamed Rows.fnExactActReadRow.func = some 3 by kernel_rfl).symm.trans hf) |>.symm
      obtain rfl : fn = Tryz.f3 := (Option.some.inj (Tryz.func3.symm.trans hfn)).symm
      exact ⟨by kernel_rfl, fun j t ht => by
        rw [Tryz.params3] at ht
        have hm : t ∈ [9] := by simpa using Array.mem_of_getElem? ht
        have hall : ([9].all fun u => !Tryz.prog.wantsStandIn u) = true := by kernel_rfl
        exact (show Tryz.prog.wantsStandIn t = false by simpa using List.all_eq_true.1 hall t hm)⟩)
    (by kernel_rfl)
#print axioms fnExactActRead_holds
end Go.Proofs.YtkmacleakfbobabGreatDoor
