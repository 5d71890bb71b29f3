/-
  Two lists of ints, one by one together: both texts make it. Three numbers each, within bounds.
-/
import Derived.Test.YtmbhcngddpoonaaOwn
import Derived.Test.YtmbhcngddpoonaaKeyed
import Derived.Deep.AppendLies
namespace Go.Proofs.Ytmbhcngddpoonaa
open Go.RowKit
set_option linter.unusedVariables false

theorem zip_take {xs ys : List Int} {k : Nat} (hx : k < xs.length) (hy : k < ys.length) : (List.zipWith (· + ·) xs ys).take (k + 1) = (List.zipWith (· + ·) xs ys).take k ++ [xs[k]?.getD 0 + ys[k]?.getD 0] := by
  have hl : k < (List.zipWith (· + ·) xs ys).length := by rw [List.length_zipWith]; omega
  rw [List.take_succ_eq_append_getElem hl, List.getElem_zipWith, List.getElem?_eq_getElem hx, List.getElem?_eq_getElem hy]
  rfl

set_option maxHeartbeats 1600000 in
theorem sum5_any (a c : Option Addr) (cap cap' : Nat) (xs ys : List Int) (w : World) (h : Ints w a 3 xs) (h' : Ints w c 3 ys) (hM : bnd 1000000000 xs) (hM' : bnd 1000000000 ys) :
    Calls Try.prog 54 #[.slice a 3 cap, .slice c 3 cap'] w fun e w' => ∃ v, e = .returned v ∧ JA w v (List.zipWith (· + ·) xs ys) w' := by
  have HX : Hid (xs.length = 3) := h.1
  have HY : Hid (ys.length = 3) := h'.1
  obtain ⟨i0, hi, hz0, hz1, hz2⟩ := info_parts Try.infoInt
  go_enter Try.func54, Try.ntmps54
  go_wp2_with fail
  go_loopw [5, 6] (fun v i wr => ∃ k : Nat, k ≤ 3 ∧ i = .int .i64 k ∧ ∃ zs : List Int, zs.length = k ∧ zs = (List.zipWith (· + ·) xs ys).take k ∧ JA w v zs wr) (fun _ i _ => 3 - (intOf i).toNat)
  case atStart => exact ⟨0, by omega, rfl, [], rfl, rfl, JA.lit w⟩
  case round =>
    obtain ⟨k, hk, rfl, zs, hzl, hzs, j⟩ := hrel
    have HL : Hid (zs.length = k) := hzl
    have HZS : Hid (zs = (List.zipWith (· + ·) xs ys).take k) := hzs
    clear hzl hzs
    by_cases hlt : k < 3
    · obtain ⟨b, off, rfl, hcell⟩ := h.pos (by omega)
      obtain ⟨b', off', rfl, hcell'⟩ := h'.pos (by omega)
      have c0 : w.cell? ⟨b, off + k, none⟩ = some (.int .i64 (xs[k]?.getD 0)) := by rw [hcell k hlt]; simp
      have c1 : w.cell? ⟨b', off' + k, none⟩ = some (.int .i64 (ys[k]?.getD 0)) := by rw [hcell' k hlt]; simp
      have HP : Hid _ := zip_take (xs := xs) (ys := ys) (k := k) (by rw [HX.out]; exact hlt) (by rw [HY.out]; exact hlt)
      obtain ⟨m1, m2⟩ := hM k
      obtain ⟨m3, m4⟩ := hM' k
      generalize HG : xs[k]?.getD 0 = x at *
      generalize HG' : ys[k]?.getD 0 = y at *
      clear HG HG' hcell hcell' hM hM' h h'
      have KP : Hid (∀ W : World, Below w.heap.size w W → W.cell? ⟨b, off + k, none⟩ = some (.int .i64 x) ∧ W.cell? ⟨b', off' + k, none⟩ = some (.int .i64 y)) := fun W hW =>
        ⟨by rw [hW.cell (p := ⟨b, off + k, none⟩) (block_lt c0)]; exact c0, by rw [hW.cell (p := ⟨b', off' + k, none⟩) (block_lt c1)]; exact c1⟩
      have hSS := And.intro (KP.out _ j.b.drew) (True.intro)
      clear c0 c1
      have hlt' : (k : Int) < 3 := by omega
      have hwr : IntKind.i64.wrap (x + y) = x + y := wrap_id (by omega) (by omega)
      go_upto_region 5 with fail
      refine wp_region_ends (fun w' => w'.cell? ⟨b, off + k, none⟩ = some (.int .i64 x) ∧ w'.cell? ⟨b', off' + k, none⟩ = some (.int .i64 y)) (fun _ => True) 12 (by kernel_rfl) ?_
      refine wpAnyE_take0 (i := 0) (v := ?v0) rfl (by kernel_rfl) (by kernel_rfl) (by kernel_rfl) (by decide) (fun _ _ _ h => h) (Or.inl ⟨by rfl, ?hy0⟩) hSS ?_
      case hy0 => (intro wz hSw; (try dsimp only at hSw); go_simp; try (with_reducible rfl))
      refine wpAnyE_take0 (i := 1) (v := ?v1) rfl (by kernel_rfl) (by kernel_rfl) (by kernel_rfl) (by decide) (fun _ _ _ h => h) (Or.inl ⟨by rfl, ?hy1⟩) hSS ?_
      case hy1 => (intro wz hSw; (try dsimp only at hSw); go_simp; try (with_reducible rfl))
      refine wpAnyE_take0 (i := 2) (v := ?v2) rfl (by kernel_rfl) (by kernel_rfl) (by kernel_rfl) (by decide) (fun _ _ _ h => h) (Or.inl ⟨by rfl, ?hy2⟩) hSS ?_
      case hy2 => (intro wz hSw; (try dsimp only at hSw); go_simp; try (with_reducible rfl))
      refine wpAnyE_take0 (i := 3) (v := ?v3) rfl (by kernel_rfl) (by kernel_rfl) (by kernel_rfl) (by decide) (fun _ _ _ h => h) (Or.inl ⟨by rfl, ?hy3⟩) hSS ?_
      case hy3 => (intro wz hSw; (try dsimp only at hSw); go_simp; try (with_reducible rfl))
      refine wpAnyE_take0 (i := 4) (v := ?v4) rfl (by kernel_rfl) (by kernel_rfl) (by kernel_rfl) (by decide) (fun _ _ _ h => h) (Or.inl ⟨by rfl, ?hy4⟩) hSS ?_
      case hy4 => (intro wz hSw; (try dsimp only at hSw); go_simp; try (with_reducible rfl))
      refine wpAnyE_take0 (i := 5) (v := ?v5) rfl (by kernel_rfl) (by kernel_rfl) (by kernel_rfl) (by decide) (fun _ _ _ h => h) (Or.inl ⟨by rfl, ?hy5⟩) hSS ?_
      case hy5 => (intro wz hSw; (try dsimp only at hSw); go_simp; try (with_reducible rfl))
      refine wpAnyE_take0 (i := 6) (v := ?v6) rfl (by kernel_rfl) (by kernel_rfl) (by kernel_rfl) (by decide) (fun _ _ _ h => h) (Or.inl ⟨by rfl, ?hy6⟩) hSS ?_
      case hy6 => (intro wz hSw; (try dsimp only at hSw); go_simp; try (with_reducible rfl))
      refine wpAnyE_take0 (i := 7) (v := ?v7) rfl (by kernel_rfl) (by kernel_rfl) (by kernel_rfl) (by decide) (fun _ _ _ h => h) (Or.inl ⟨by rfl, ?hy7⟩) hSS ?_
      case hy7 => (intro wz hSw; (try dsimp only at hSw); go_simp; try (with_reducible rfl))
      refine wpAnyE_take0 (i := 8) (v := ?v8) rfl (by kernel_rfl) (by kernel_rfl) (by kernel_rfl) (by decide) (fun _ _ _ h => h) (Or.inl ⟨by rfl, ?hy8⟩) hSS ?_
      case hy8 => (intro wz hSw; (try dsimp only at hSw); go_simp; try (with_reducible rfl))
      refine wpAnyE_take0 (i := 9) (v := ?v9) rfl (by kernel_rfl) (by kernel_rfl) (by kernel_rfl) (by decide) (fun _ _ _ h => h) (Or.inl ⟨by rfl, ?hy9⟩) hSS ?_
      case hy9 => (intro wz hSw; (try dsimp only at hSw); go_simp; try (with_reducible rfl))
      refine wpAnyE_one (i := 10) (by kernel_rfl) rfl (fun K hK => ?_)
      go_simp
      have j1 := j.below (W' := wr.drew) ((Below.refl _ _).drew)
      have jo := j1.o
      rw [HL.out] at jo
      have j2 := j1.alloc (.cells #[.int .i64 (x + y)] 3)
      have hjb := j1.b.size
      refine hK.out _ _ ⟨KP.out _ j2.b, fun _ => trivial⟩ ?_
      clear hK K hSS
      refine wpAnyE_one (i := 11) (by kernel_rfl) rfl (fun K hK => ?_)
      rw [if_pos (by rfl)]
      refine wp_append_lies _ (.tmp 12) (.tmp 22) 22 rfl w.heap.size 3 i0 (.int .i64 0) 1 8 Try.underlying22 hi hz0 hz1 hz2 rfl (by decide) _ k _ (by rfl) (jo.alloc _) ⟨wr.heap.size, 0, none⟩ 1 1 [.int .i64 (x + y)] (by rfl) (by rfl) (news1 wr.drew _ _) (one1 _ _) (by omega) (by unfold maxLen; omega) (by omega) j2.b.size _ rfl ?_
      intro g cp2 w6 hown hgrow hat hlt6
      have j6 := j1.app HL.out hown hgrow
      refine hK.out _ _ ⟨KP.out _ j6.b, fun _ => trivial⟩ ?_
      clear hK K hown hgrow hat j1 j2 jo j
      refine wpAnyE_one (i := 12) (by kernel_rfl) rfl (fun K hK => ?_)
      go_simp
      refine hK.out _ _ ⟨KP.out _ j6.b, fun _ => trivial⟩ ?_
      clear hK K
      refine wpAnyE_done (by kernel_rfl) ?_ _
      go_wp2
      go_roundw
      case rel => exact ⟨k + 1, by omega, by go_num, _, by rw [List.length_append, HL.out]; rfl, by rw [HP.out, HZS.out], j6⟩
      case measure => simp [intOf]; omega
    · obtain rfl : k = 3 := by omega
      have e : zs = List.zipWith (· + ·) xs ys := by rw [HZS.out, List.take_of_length_le (by rw [List.length_zipWith, HX.out, HY.out]; omega)]
      subst e
      go_wp2
      go_ret
      exact ⟨_, rfl, j⟩

set_option maxHeartbeats 1600000 in
theorem sums_any (a c : Option Addr) (cap cap' : Nat) (xs ys : List Int) (M M' : Int) (w : World) (h : Ints w a 3 xs) (h' : Ints w c 3 ys) (hM : bnd M xs) (hM' : bnd M' ys) (hb : M ≤ 2000000000000000000) (hb' : M' ≤ 2000000000000000000) :
    Calls Try.prog 68 #[.slice a 3 cap, .slice c 3 cap'] w fun e w' => ∃ a' cap2 B, e = .returned (.slice a' 3 cap2) ∧ Below w.heap.size w w' ∧ OwnX w' a' B 3 (List.zipWith (· + ·) xs ys) ∧ w.heap.size ≤ B := by
  have HX : Hid (xs.length = 3) := h.1
  go_enter Try.func68, Try.ntmps68
  go_wp2_with fail
  refine (clone_any _ _ _ xs _ h (by omega) (by omega)).mono ?_
  rintro e w1 ⟨v, rfl, j⟩
  have hc1 := h'.below j.b
  have B1 := j.b
  obtain ⟨x, cx, B, rfl, hO, hB0⟩ := j.ownx HX.out
  have hB := hB0 (by omega)
  clear j hB0
  go_wp2_with fail
  refine (addX_any _ _ B _ _ _ xs ys M M' _ hO hc1 (fun b o e => by
    obtain ⟨b1, o1, e1, hcell⟩ := h'.pos (by omega)
    rw [e1] at e
    simp only [Option.some.injEq, Addr.mk.injEq, and_true] at e
    have := block_lt (hcell 0 (by omega))
    omega) (by omega) hM hM' hb hb').mono ?_
  rintro e w2 ⟨rfl, t2, hO2⟩
  have B2 : Below w.heap.size w w2 := B1.trans (t2.below B1.size (fun k hk => by rw [hk.1]; exact hB))
  go_wp2
  go_ret
  exact ⟨_, _, B, rfl, B2, hO2, hB⟩

end Go.Proofs.Ytmbhcngddpoonaa
