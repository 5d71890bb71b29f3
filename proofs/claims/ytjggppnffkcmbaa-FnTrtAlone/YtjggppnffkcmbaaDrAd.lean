/-
  What a site has added, drawn: some list of at most four numbers, in new memory.
-/
import Derived.Test.YtjggppnffkcmbaaDrL
namespace Go.Proofs.Ytjggppnffkcmbaa
open Go.RowKit
set_option linter.unusedVariables false
set_option maxRecDepth 100000

theorem J.lit3 {w W : World} {R : Nat} {a : Option Addr} {n cap : Nat} {bs : List Int} {p : Int} {v : Value} {xs : List Int} (j : J w R a n cap bs p v xs W) (x y z : Int) : J w R a n cap bs p (.slice (some ⟨W.heap.size, 0, none⟩) 3 3) [x, y, z] (W.alloc (.cells #[.int .i64 x, .int .i64 y, .int .i64 z] 3)) :=
  ⟨(j.alloc _).t, (j.alloc _).r, World.ownsRow_lit W #[.int .i64 x, .int .i64 y, .int .i64 z] 3 j.t.size (by unfold maxLen; omega) rfl, j.lR, j.lb⟩

set_option maxHeartbeats 3200000 in
theorem added_gen (R : Nat) (a : Option Addr) (n cap : Nat) (bs : List Int) (p N : Int) (w : World) (hR : Rd w R a n cap bs p) (hp : 0 ≤ p) (hp1 : p ≤ 9000000) (hN : 1 ≤ N) (hN1 : N ≤ 1000) (hlb : 0 < n → ∀ b o, a = some ⟨b, o, none⟩ → b < w.heap.size) :
    Calls Try.prog 69 #[.pointer (some ⟨R, 0, none⟩), .int .i64 N] w fun e w' => ∃ a' n' cap' zs q, e = .returned (.slice a' n' cap') ∧ Dn w w' R a n cap bs p q a' n' zs := by
  have j := J.start hR hlb
  obtain ⟨i0, hi, hz0, hz1, hz2⟩ := info_parts Try.infoInt
  clear hR hlb
  go_enter Try.func69, Try.ntmps69
  go_wp2_with fail
  refine (pick_any R a n cap bs p 9 _ j.r (by omega) (by omega) (by omega) (by omega)).mono ?_
  rintro e w1 ⟨x, x0, x1, rfl, t1, R1⟩
  have j1 := j.pick t1 R1
  clear t1 R1 j
  go_wp2_with fail
  refine (pick_any R a n cap bs (p + 1) 9 _ j1.r (by omega) (by omega) (by omega) (by omega)).mono ?_
  rintro e w2 ⟨y, y0, y1, rfl, t2, R2⟩
  have j2 := j1.pick t2 R2
  clear t2 R2 j1
  go_wp2_with fail
  refine (pick_any R a n cap bs (p + 1 + 1) 4 _ (j2.alloc _).r (by omega) (by omega) (by omega) (by omega)).mono ?_
  rintro e w3 ⟨u, u0, u1, rfl, t3, R3⟩
  have j3 := (j2.alloc (.cells #[.int .i64 0, .int .i64 0, .int .i64 1, .int .i64 (-2)] 3)).pick t3 R3
  have tb := (Cel.new w2 [.int .i64 0, .int .i64 0, .int .i64 1, .int .i64 (-2)] 3).touch t3 (by have := j2.t.size; have := j2.lR; omega)
  obtain ⟨un, rfl⟩ := Int.eq_ofNat_of_zero_le u0
  have ct : w3.cell? ⟨w2.heap.size, un, none⟩ = some (.int .i64 ([0, 0, 1, -2][un]?.getD 0)) := by
    rw [tb.cell un]
    match un, u1 with
    | 0, _ => rfl
    | 1, _ => rfl
    | 2, _ => rfl
    | 3, _ => rfl
    | (m + 4), h => omega
  have hun : (un : Int) < 4 := by omega
  generalize ([0, 0, 1, -2] : List Int)[un]?.getD 0 = z at ct
  have j4 := j3.lit3 (x - 4) (y - 4) z
  have lw3 := j3.t.size
  clear t3 R3 j2 j3 tb
  go_wp2_with fail
  refine (pick_any R a n cap bs (p + 1 + 1 + 1) N _ j4.r (by omega) (by omega) (by omega) (by omega)).mono ?_
  rintro e w4 ⟨r, r0, r2, rfl, t4, R4⟩
  have j5 := j4.pick t4 R4
  clear t4 R4 j4 ct
  by_cases hr : r = 0
  · subst hr
    go_wp2_with fail
    refine (pick_any R a n cap bs (p + 1 + 1 + 1 + 1) 3 _ j5.r (by omega) (by omega) (by omega) (by omega)).mono ?_
    rintro e w5 ⟨s, s0, s3, rfl, t5, R5⟩
    have j6 := j5.pick t5 R5
    clear t5 R5 j5
    obtain ⟨g, cap', hv, hcap, hg, hI, hfz⟩ := j6.ints (by simp)
    simp only [Value.slice.injEq, Option.some.injEq, Addr.mk.injEq, and_true, List.length_cons, List.length_nil] at hv
    obtain ⟨rfl, _, rfl⟩ := hv
    simp only [List.length_cons, List.length_nil] at hI
    rcases (show s = 0 ∨ s = 1 ∨ s = 2 from by omega) with rfl | rfl | rfl
    · go_wp2
      go_ret
      exact ⟨_, 2, 3, [x - 4, y - 4], _, rfl, j6.t, j6.r, hI.cut (k := 2) (by omega), by omega, by omega, fun b o e => by simp only [Option.some.injEq, Addr.mk.injEq] at e; omega, by omega, by omega⟩
    · go_wp2_with fail
      refine (pick_any R a n cap bs (p + 1 + 1 + 1 + 1 + 1) 3 _ (j6.alloc _).r (by omega) (by omega) (by omega) (by omega)).mono ?_
      rintro e w6 ⟨k, k0, k1, rfl, t6, R6⟩
      have j7 := (j6.alloc (.cells #[.int .i64 20001, .int .i64 60, .int .i64 (-60)] 3)).pick t6 R6
      have tb := (Cel.new w5 [.int .i64 20001, .int .i64 60, .int .i64 (-60)] 3).touch t6 (by have := j6.t.size; have := j6.lR; omega)
      obtain ⟨kn, rfl⟩ := Int.eq_ofNat_of_zero_le k0
      have ct : w6.cell? ⟨w5.heap.size, kn, none⟩ = some (.int .i64 ([20001, 60, -60][kn]?.getD 0)) := by
        rw [tb.cell kn]
        match kn, k1 with
        | 0, _ => rfl
        | 1, _ => rfl
        | 2, _ => rfl
        | (m + 3), h => omega
      have hkn : (kn : Int) < 3 := by omega
      generalize ([20001, 60, -60] : List Int)[kn]?.getD 0 = y9 at ct
      obtain ⟨g2, cap2, hv2, hcap2, hg2, hI2, hfz2⟩ := j7.ints (by simp)
      simp only [Value.slice.injEq, Option.some.injEq, Addr.mk.injEq, and_true, List.length_cons, List.length_nil] at hv2
      obtain ⟨rfl, _, rfl⟩ := hv2
      simp only [List.length_cons, List.length_nil] at hI2
      have cg : w6.cell? ⟨w3.heap.size, 0, none⟩ = some (.int .i64 (x - 4)) := by
        obtain ⟨b, o, e1, hh⟩ := hI2.2 0 (by omega)
        simp only [Option.some.injEq, Addr.mk.injEq, and_true] at e1
        obtain ⟨rfl, rfl⟩ := e1
        simpa using hh
      have fg := hfz2 0
      have IS := ints_set hI2 (s := 0) (by omega) y9
      have TS := j7.t.setNewD hg2 0 (.int .i64 y9)
      have RS := j7.setR hg2 0 (.int .i64 y9)
      clear t6 R6 j6 j7 tb hI hfz hI2 hfz2
      go_wp2
      go_ret
      exact ⟨_, 3, 3, _, _, rfl, TS, RS, IS, by omega, by omega, fun b o e => by simp only [Option.some.injEq, Addr.mk.injEq] at e; omega, by omega, by omega⟩
    · go_wp2_with (at_builtin; refine wpList_append_own _ rfl (.tmp 24) (.tmp 25) 26 rfl w.heap.size 3 i0 (.int .i64 0) 1 8 Try.underlying26 hi hz0 hz1 hz2 rfl (by decide) _ _ _ rfl (j6.alloc _).o ⟨w5.heap.size, 0, none⟩ 1 1 [.int .i64 0] rfl rfl ?d1 ?d2 ?d3 ?d4 ?d5 ?_)
      case d1 =>
        intro i u hu
        match i, hu with
        | 0, hu => simp at hu; subst hu; simp [Addr.add]
      case d2 => intro u hu; simp at hu; subst hu; rfl
      case d3 => unfold maxLen; simp
      case d4 => simp
      case d5 => have := j6.t.size; simp; omega
      intro v' w6 hown' hgrow _
      have j7 : J w R a n cap bs (p + 1 + 1 + 1 + 1 + 1) v' ([x - 4, y - 4, z] ++ [0]) w6 := (j6.alloc _).own (by simpa using hown') hgrow
      obtain ⟨g', cap2, hv', hcap2, hg', hI', hfz'⟩ := j7.ints (by simp)
      subst hv'
      clear hown' hgrow j6 hI hfz
      go_wp2
      go_ret
      exact ⟨_, _, cap2, _, _, rfl, j7.t, j7.r, hI', by simp, by simp, fun b o e => by simp only [Option.some.injEq, Addr.mk.injEq] at e; omega, by omega, by omega⟩
  · obtain ⟨g, cap', hv, hcap, hg, hI, hfz⟩ := j5.ints (by simp)
    simp only [Value.slice.injEq, Option.some.injEq, Addr.mk.injEq, and_true, List.length_cons, List.length_nil] at hv
    obtain ⟨rfl, _, rfl⟩ := hv
    have hr' : (r == 0) = false := by simpa using hr
    go_wp2
    go_ret
    exact ⟨_, _, 3, _, _, rfl, j5.t, j5.r, hI, by simp, by simp, fun b o e => by simp only [Option.some.injEq, Addr.mk.injEq] at e; omega, by omega, by omega⟩

end Go.Proofs.Ytjggppnffkcmbaa
