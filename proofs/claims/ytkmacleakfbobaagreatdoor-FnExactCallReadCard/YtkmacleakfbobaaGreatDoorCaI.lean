/-
  A call, as the program reads it. The library's strconv.Atoi and strings.Split are taken by what they answer (ReadsN, Splits); its table of powers of ten is as its text lays it.
-/
import Derived.Test.YtkmacleakfbobaaGreatDoorCaS
import Derived.Test.YtkmacleakfbobaaGreatDoorCallI
import Derived.Test.YtkmacleakfbobaaGreatDoorOwn0
namespace Go.Proofs.YtkmacleakfbobaaGreatDoor
open Go.RowKit
set_option linter.unusedVariables false
set_option maxRecDepth 100000

theorem atoiS_lenC : ∀ {ws : List (List UInt8)} {xs : List Int}, atoiS ws = some xs → xs.length = ws.length
  | [], xs, h => by
    have : [] = xs := by simpa [atoiS] using h
    rw [← this]; rfl
  | x :: t, xs, h => by
    rw [atoiS] at h
    cases hx : Lib.atoiAll x with
    | ok z =>
      rw [hx] at h
      cases ht : atoiS t with
      | none => rw [ht] at h; cases h
      | some ys =>
        rw [ht] at h
        have : z :: ys = xs := by simpa using h
        rw [← this, List.length_cons, List.length_cons, atoiS_lenC ht]
    | «syntax» => rw [hx] at h; cases h
    | range => rw [hx] at h; cases h
theorem ca_hitN {l : List UInt8} {cl sq ac : Int} {n : Nat} {zs : List Int} (h2 : zs.length = n) (h : callText cl sq ac n zs = l) (h0 : l ≠ []) : caF l = ((cl, sq, ac, zs), true) := by
  cases e : callOkB cl sq ac n zs
  · exact absurd (h.symm.trans (callText_no e)) h0
  · have hn : n = 2 := by
      unfold callOkB okN at e
      simp only [Bool.and_eq_true, decide_eq_true_eq] at e
      omega
    subst hn
    exact ca_hit h2 h (by rw [h]; exact h0)
theorem three_of {zs : List Int} (h : zs.length = 3) : ∃ a b c, zs = [a, b, c] := by
  match zs, h with
  | [x, y, z], _ => exact ⟨x, y, z, rfl⟩

set_option maxHeartbeats 12800000 in
theorem ictx_any (l : List UInt8) (w : World) (hl : l.length ≤ 1048576) (hA : ReadsN w) (hSp : Splits w) (hT : Lib.TabBelow Tryz.prog w.heap.size w "internal/strconv.uint64pow10" .u64 Lib.pow10Tab) :
    Calls Tryz.prog 13 #[.string ⟨l.toArray⟩] w fun e w' => ∃ cl sq ac a n cap B xs err ok, e = .returned (.tuple #[clV cl sq ac a n cap, err]) ∧ Below w.heap.size w w' ∧ OwnX w' a B n xs ∧ (0 < n → w.heap.size ≤ B) ∧ caF l = ((cl, sq, ac, xs), ok) ∧ (ok = true → err = .nilIface) ∧ (ok = false → ∃ x : Int, 1 ≤ x ∧ err = .iface 48 (.agg #[.int .i64 x])) := by
  have HA : Hid _ := hA
  have HP : Hid _ := hSp
  have HTB : Hid _ := hT
  clear hA hSp hT
  have bx := Cel.new w [.int .i64 0, .int .i64 0, .int .i64 0, .slice none 0 0] 24
  have B0 := (Below.refl w.heap.size w).alloc (Nat.le_refl _) (.cells #[.int .i64 0, .int .i64 0, .int .i64 0, .slice none 0 0] 24)
  by_cases h120 : l.length ≤ 120
  case neg =>
    have hi : (120 : Int) < (l.length : Int) := by omega
    have HR : Hid _ := caF_long (by omega : 120 < l.length)
    have r0 := bx.cell 0
    have r1 := bx.cell 1
    have r2 := bx.cell 2
    have r3 := bx.cell 3
    simp only [List.getElem?_cons_zero, List.getElem?_cons_succ] at r0 r1 r2 r3
    go_enter Tryz.func13, Tryz.ntmps13
    go_wp2
    refine bodyPost_ret (v := .tuple #[clV 0 0 0 none 0 0, .iface 48 (.agg #[.int .i64 1])]) (by simp [results, Tryz.results13, go_sem, r0, r1, r2, r3]) rfl ⟨0, 0, 0, none, 0, 0, 0, [], _, false, rfl, ?_, OwnX.nil _ _ _, (fun h => absurd h (by omega)), HR.out, (fun h => by cases h), fun _ => ⟨1, by omega, rfl⟩⟩
    first | exact B0 | exact (((B0.setCell (Nat.le_refl _) _).setCell (Nat.le_refl _) _).setCell (Nat.le_refl _) _).setCell (Nat.le_refl _) _
  have hi : ¬ (120 : Int) < (l.length : Int) := by omega
  obtain ⟨x0, ws, hws⟩ : ∃ x0 ws, wordsOf l = x0 :: ws := by
    cases h : wordsOf l with
    | nil => exact absurd h (words_ne l)
    | cons a b => exact ⟨a, b, rfl⟩
  obtain ⟨k, hk⟩ : ∃ k, (wordsOf l).length = k := ⟨_, rfl⟩
  have HK : Hid _ := hk
  have hk0 : 0 < k := by rw [← hk, hws]; simp
  have hk121 : k ≤ 122 := by have := words_few h120 hws; rw [← hk, hws, List.length_cons]; omega
  have HS : Hid (∀ (i : Nat) (x : List UInt8), (wordsOf l)[i]? = some x → 0 < i → x.length ≤ 120) := fun i x hx hi => by
    rw [hws] at hx
    match i, hi with
    | i + 1, _ =>
      rw [List.getElem?_cons_succ] at hx
      exact Nat.le_trans (words_short hws x (List.mem_of_getElem? hx)) h120
  clear hk hws
  go_enter Tryz.func13, Tryz.ntmps13
  go_wp2_with fail
  refine (HP.out _ B0 l h120).mono ?_
  rintro e w1 ⟨rfl, hg, hcs, b1⟩
  rw [HK.out]
  have bx1 := bx.below b1
  have B1 := B0.trans (b1.mono B0.size)
  rw [World.size_alloc] at hg hcs ⊢
  have HCS : Hid _ := hcs
  clear hcs bx b1 B0
  obtain ⟨r0, r1, r2, r3⟩ := bx1.quadC
  have f0 := bx1.free 0
  have f1 := bx1.free 1
  have f2 := bx1.free 2
  have f3 := bx1.free 3
  have lt_bx1 := bx1.lt
  by_cases h7 : k < 7
  · have h7' : (k : Int) < 7 := by omega
    have HR : Hid (caF l = ((0, 0, 0, []), false)) := caF_no (fun c hc => by have := (can_cand hc).1; rw [HK.out] at this; omega)
    go_wp2
    refine bodyPost_ret (v := .tuple #[clV 0 0 0 none 0 0, .iface 48 (.agg #[.int .i64 2])]) (by simp [results, Tryz.results13, go_sem, r0, r1, r2, r3]) rfl ⟨0, 0, 0, none, 0, 0, 0, [], _, false, rfl, ?_, OwnX.nil _ _ _, (fun h => absurd h (by omega)), HR.out, (fun h => by cases h), fun _ => ⟨2, by omega, rfl⟩⟩
    exact (((B1.setCell (Nat.le_refl _) _).setCell (Nat.le_refl _) _).setCell (Nat.le_refl _) _).setCell (Nat.le_refl _) _
  obtain ⟨m, rfl⟩ : ∃ m, k = m + 7 := ⟨k - 7, by omega⟩
  have hm7 : (7 : Int) ≤ (m : Int) + 7 := by omega
  have hm7' : ¬ (m : Int) + 7 < 7 := by omega
  have hm1 : (1 : Int) < (m : Int) + 7 := by omega
  have hm3 : (3 : Int) < (m : Int) + 7 := by omega
  have hm5 : (5 : Int) < (m : Int) + 7 := by omega
  have hx : ∀ i, i < m + 7 → ∃ x, (wordsOf l)[i]? = some x := fun i hi => ⟨_, List.getElem?_eq_getElem (by rw [HK.out]; exact hi)⟩
  obtain ⟨x1, e1⟩ := hx 1 (by omega)
  obtain ⟨x3, e3⟩ := hx 3 (by omega)
  obtain ⟨x5, e5⟩ := hx 5 (by omega)
  clear hx h7 hk0
  have HE : Hid ([(wordsOf l)[1]?.getD [], (wordsOf l)[3]?.getD [], (wordsOf l)[5]?.getD []] = [x1, x3, x5]) := by show _ = _; rw [e1, e3, e5]; rfl
  have HS3 : Hid (∀ x ∈ [x1, x3, x5], x.length ≤ 120) := fun x hx => by
    simp only [List.mem_cons, List.not_mem_nil, or_false] at hx
    rcases hx with rfl | rfl | rfl
    · exact HS.out 1 _ e1 (by omega)
    · exact HS.out 3 _ e3 (by omega)
    · exact HS.out 5 _ e5 (by omega)
  have CC : Hid (∀ X : World, Below w1.heap.size w1 X → X.cell? ⟨w.heap.size + 1, 1, none⟩ = some (.string ⟨x1.toArray⟩) ∧ X.cell? ⟨w.heap.size + 1, 3, none⟩ = some (.string ⟨x3.toArray⟩) ∧ X.cell? ⟨w.heap.size + 1, 5, none⟩ = some (.string ⟨x5.toArray⟩)) := fun X hB => ⟨by rw [hB.cell (p := ⟨w.heap.size + 1, 1, none⟩) hg]; exact HCS.out 1 x1 e1, by rw [hB.cell (p := ⟨w.heap.size + 1, 3, none⟩) hg]; exact HCS.out 3 x3 e3, by rw [hB.cell (p := ⟨w.heap.size + 1, 5, none⟩) hg]; exact HCS.out 5 x5 e5⟩
  clear e1 e3 e5 r0 r1 r2 r3 f0 f1 f2 f3
  go_upto_region 6 with fail
  have bd : Below w1.heap.size w1 w1.drew := (Below.refl _ _).drew
  have hS0 : (w1.drew.cell? ⟨w.heap.size + 1, 1, none⟩ = some (.string ⟨x1.toArray⟩) ∧ w1.drew.cell? ⟨w.heap.size + 1, 3, none⟩ = some (.string ⟨x3.toArray⟩) ∧ w1.drew.cell? ⟨w.heap.size + 1, 5, none⟩ = some (.string ⟨x5.toArray⟩)) ∧ True := ⟨CC.out _ bd, trivial⟩
  refine wp_region_ends (fun X => X.cell? ⟨w.heap.size + 1, 1, none⟩ = some (.string ⟨x1.toArray⟩) ∧ X.cell? ⟨w.heap.size + 1, 3, none⟩ = some (.string ⟨x3.toArray⟩) ∧ X.cell? ⟨w.heap.size + 1, 5, none⟩ = some (.string ⟨x5.toArray⟩)) (fun _ => True) 15 (by kernel_rfl) ?_
  refine wpAnyE_take0 (i := 0) (v := ?v0) rfl (by kernel_rfl) (by kernel_rfl) (by kernel_rfl) (by decide) (fun _ _ _ h => h) (Or.inl ⟨by rfl, ?hy0⟩) hS0 ?_
  case hy0 => (intro wz hSw; (try dsimp only at hSw); go_simp; try (with_reducible rfl))
  refine wpAnyE_take0 (i := 1) (v := ?v1) rfl (by kernel_rfl) (by kernel_rfl) (by kernel_rfl) (by decide) (fun _ _ _ h => h) (Or.inl ⟨by rfl, ?hy1⟩) hS0 ?_
  case hy1 => (intro wz hSw; (try dsimp only at hSw); go_simp; try (with_reducible rfl))
  refine wpAnyE_take0 (i := 2) (v := ?v2) rfl (by kernel_rfl) (by kernel_rfl) (by kernel_rfl) (by decide) (fun _ _ _ h => h) (Or.inl ⟨by rfl, ?hy2⟩) hS0 ?_
  case hy2 => (intro wz hSw; (try dsimp only at hSw); go_simp; try (with_reducible rfl))
  refine wpAnyE_take0 (i := 3) (v := ?v3) rfl (by kernel_rfl) (by kernel_rfl) (by kernel_rfl) (by decide) (fun _ _ _ h => h) (Or.inl ⟨by rfl, ?hy3⟩) hS0 ?_
  case hy3 => (intro wz hSw; (try dsimp only at hSw); go_simp; try (with_reducible rfl))
  refine wpAnyE_take0 (i := 4) (v := ?v4) rfl (by kernel_rfl) (by kernel_rfl) (by kernel_rfl) (by decide) (fun _ _ _ h => h) (Or.inl ⟨by rfl, ?hy4⟩) hS0 ?_
  case hy4 => (intro wz hSw; (try dsimp only at hSw); go_simp; try (with_reducible rfl))
  refine wpAnyE_take0 (i := 5) (v := ?v5) rfl (by kernel_rfl) (by kernel_rfl) (by kernel_rfl) (by decide) (fun _ _ _ h => h) (Or.inl ⟨by rfl, ?hy5⟩) hS0 ?_
  case hy5 => (intro wz hSw; (try dsimp only at hSw); go_simp; try (with_reducible rfl))
  refine wpAnyE_take0 (i := 6) (v := ?v6) rfl (by kernel_rfl) (by kernel_rfl) (by kernel_rfl) (by decide) (fun _ _ _ h => h) (Or.inl ⟨by rfl, ?hy6⟩) hS0 ?_
  case hy6 => (intro wz hSw; (try dsimp only at hSw); go_simp; try (with_reducible rfl))
  refine wpAnyE_take0 (i := 7) (v := ?v7) rfl (by kernel_rfl) (by kernel_rfl) (by kernel_rfl) (by decide) (fun _ _ _ h => h) (Or.inl ⟨by rfl, ?hy7⟩) hS0 ?_
  case hy7 => (intro wz hSw; (try dsimp only at hSw); go_simp; try (with_reducible rfl))
  refine wpAnyE_take0 (i := 8) (v := ?v8) rfl (by kernel_rfl) (by kernel_rfl) (by kernel_rfl) (by decide) (fun _ _ _ h => h) (Or.inl ⟨by rfl, ?hy8⟩) hS0 ?_
  case hy8 => (intro wz hSw; (try dsimp only at hSw); go_simp; try (with_reducible rfl))
  refine wpAnyE_one (i := 9) (by kernel_rfl) rfl (fun Kn hK => ?_)
  go_simp
  have q5 := (Cel.new w1 [.string ⟨x1.toArray⟩, .string ⟨x3.toArray⟩, .string ⟨x5.toArray⟩] 9).below ((Below.refl _ _).drew)
  have b5 := ((Below.refl w1.heap.size w1).alloc (Nat.le_refl _) (.cells #[.string ⟨x1.toArray⟩, .string ⟨x3.toArray⟩, .string ⟨x5.toArray⟩] 9)).drew
  refine hK.out _ _ ⟨CC.out _ b5, fun _ => trivial⟩ ?_
  clear hK hS0
  refine wpAnyE_one (i := 10) (by kernel_rfl) rfl (fun Kn hK => ?_)
  go_simp
  obtain ⟨W5, hW5⟩ : ∃ W, W = (w1.alloc (.cells #[.string ⟨x1.toArray⟩, .string ⟨x3.toArray⟩, .string ⟨x5.toArray⟩] 9)).drew := ⟨_, rfl⟩
  rw [← hW5] at q5 b5 ⊢
  clear hW5
  have B5 := B1.trans (b5.mono B1.size)
  refine (inums_any [x1, x3, x5] _ 0 3 3 _ rfl (by omega) q5.lt (fun i x hx => by
    rw [Nat.zero_add, q5.cell i]
    match i, hx with
    | 0, hx => simp only [List.getElem?_cons_zero, Option.some.injEq] at hx; rw [← hx]; rfl
    | 1, hx => simp only [List.getElem?_cons_zero, List.getElem?_cons_succ, Option.some.injEq] at hx; rw [← hx]; rfl
    | 2, hx => simp only [List.getElem?_cons_zero, List.getElem?_cons_succ, Option.some.injEq] at hx; rw [← hx]; rfl) HS3.out (ReadsN.below HA.out B5)).mono ?_
  rintro e w6 ⟨v1, xs1, ok1, rfl, j1, hok1, hnok1⟩
  have b6 := b5.trans (j1.b.mono b5.size)
  obtain ⟨na, nc, rfl, -, ni, -⟩ := j1.ints
  obtain ⟨q1, hq1⟩ : ∃ q, xs1.length = q := ⟨_, rfl⟩
  rw [hq1] at ni ⊢
  have HQ1 : Hid _ := hq1
  have HOK1 : Hid _ := hok1
  have HNOK1 : Hid _ := hnok1
  clear hq1 hok1 hnok1 j1 q5 b5 B5
  dsimp only
  have hS6 : (w6.cell? ⟨w.heap.size + 1, 1, none⟩ = some (.string ⟨x1.toArray⟩) ∧ w6.cell? ⟨w.heap.size + 1, 3, none⟩ = some (.string ⟨x3.toArray⟩) ∧ w6.cell? ⟨w.heap.size + 1, 5, none⟩ = some (.string ⟨x5.toArray⟩)) ∧ True := ⟨CC.out _ b6, trivial⟩
  refine hK.out _ _ ⟨hS6.1, fun _ => trivial⟩ ?_
  clear hK
  refine wpAnyE_take0 (i := 11) (v := ?v11) rfl (by kernel_rfl) (by kernel_rfl) (by kernel_rfl) (by decide) (fun _ _ _ h => h) (Or.inl ⟨by rfl, ?hy11⟩) hS6 ?_
  case hy11 => (intro wz hSw; (try dsimp only at hSw); go_simp; try (with_reducible rfl))
  refine wpAnyE_take0 (i := 12) (v := ?v12) rfl (by kernel_rfl) (by kernel_rfl) (by kernel_rfl) (by decide) (fun _ _ _ h => h) (Or.inl ⟨by rfl, ?hy12⟩) hS6 ?_
  case hy12 => (intro wz hSw; (try dsimp only at hSw); go_simp; try (with_reducible rfl))
  refine wpAnyE_take0 (i := 13) (v := ?v13) rfl (by kernel_rfl) (by kernel_rfl) (by kernel_rfl) (by decide) (fun _ _ _ h => h) (Or.inl ⟨by rfl, ?hy13⟩) hS6 ?_
  case hy13 => (intro wz hSw; (try dsimp only at hSw); go_simp; try (with_reducible rfl))
  refine wpAnyE_take0 (i := 14) (v := ?v14) rfl (by kernel_rfl) (by kernel_rfl) (by kernel_rfl) (by decide) (fun _ _ _ h => h) (Or.inl ⟨by rfl, ?hy14⟩) hS6 ?_
  case hy14 => (intro wz hSw; (try dsimp only at hSw); go_simp; try (with_reducible rfl))
  refine wpAnyE_one (i := 15) (by kernel_rfl) rfl (fun Kn hK => ?_)
  go_simp
  refine hK.out _ _ ⟨hS6.1, fun _ => trivial⟩ ?_
  clear hK hS6
  refine wpAnyE_done (by kernel_rfl) ?_ _
  have B6 := B1.trans (b6.mono B1.size)
  have bx6 := bx1.below b6
  have hg6 : w.heap.size + 1 < w6.heap.size := Nat.lt_of_lt_of_le hg b6.size
  have HD : Hid (∀ (i : Nat) (x : List UInt8), ((wordsOf l).drop 7)[i]? = some x → w6.cell? ⟨w.heap.size + 1, 7 + i, none⟩ = some (.string ⟨x.toArray⟩)) := fun i x hx => by
    rw [b6.cell (p := ⟨w.heap.size + 1, 7 + i, none⟩) hg]
    exact HCS.out (7 + i) x (by rw [List.getElem?_drop] at hx; exact hx)
  have HDS : Hid (∀ x ∈ (wordsOf l).drop 7, x.length ≤ 120) := fun x hx => by
    obtain ⟨i, hi⟩ := List.getElem?_of_mem hx
    rw [List.getElem?_drop] at hi
    exact HS.out (7 + i) x hi (by omega)
  have HDL : Hid (((wordsOf l).drop 7).length = m) := by show _ = _; rw [List.length_drop, HK.out]; omega
  clear CC HCS HS b6 bx1 B1 bd
  have hq121 : m ≤ 121 := by omega
  go_wp2_with fail
  · subst h
    have hcall := inums_any ((wordsOf l).drop 7) (w.heap.size + 1) 0 0 0 w6 (by have h2 := HDL.out; omega) (by omega) hg6 (fun i x hx => by exfalso; have h1 := (List.getElem?_eq_some_iff.1 hx).1; have h2 := HDL.out; omega) HDS.out (ReadsN.below HA.out B6)
    refine hcall.mono ?_
    clear hcall
    rintro e w7 ⟨v2, xs2, ok2, rfl, j2, hok2, hnok2⟩
    obtain ⟨n2, hn2⟩ : ∃ n, xs2.length = n := ⟨_, rfl⟩
    obtain ⟨a2, c2, BB, rfl, own, hBB⟩ := j2.ownx hn2
    have HN2 : Hid _ := hn2
    have b7 := j2.b
    have B7 := B6.trans (b7.mono B6.size)
    have bx7 := bx6.below b7
    have ni7 := ni.below b7
    have HOK2 : Hid _ := hok2
    have HNOK2 : Hid _ := hnok2
    have hBB' : 0 < n2 → w.heap.size + 1 < BB := fun h => by have := hBB h; omega
    clear hn2 hok2 hnok2 j2 bx6 hBB ni
    obtain ⟨r0, r1, r2, r3⟩ := bx7.quadC
    have f0 := bx7.free 0
    have f1 := bx7.free 1
    have f2 := bx7.free 2
    have f3 := bx7.free 3
    have lt_bx7 := bx7.lt
    cases ok1
    case false =>
      have HR : Hid (caF l = ((0, 0, 0, []), false)) := caF_no (fun c hc => by have h3 := (can_cand hc).2.2.1; rw [HE.out, HNOK1.out rfl] at h3; cases h3)
      go_wp2
      refine bodyPost_ret (v := .tuple #[clV 0 0 0 none 0 0, .iface 48 (.agg #[.int .i64 3])]) (by simp [results, Tryz.results13, go_sem, r0, r1, r2, r3]) rfl ⟨0, 0, 0, none, 0, 0, 0, [], _, false, rfl, ?_, OwnX.nil _ _ _, (fun h => absurd h (by omega)), HR.out, (fun h => by cases h), fun _ => ⟨3, by omega, rfl⟩⟩
      exact (((B7.setCell (Nat.le_refl _) _).setCell (Nat.le_refl _) _).setCell (Nat.le_refl _) _).setCell (Nat.le_refl _) _
    cases ok2
    case false =>
      have HR : Hid (caF l = ((0, 0, 0, []), false)) := caF_no (fun c hc => by have h3 := (can_cand hc).2.2.2; rw [HNOK2.out rfl] at h3; cases h3)
      go_wp2
      refine bodyPost_ret (v := .tuple #[clV 0 0 0 none 0 0, .iface 48 (.agg #[.int .i64 3])]) (by simp [results, Tryz.results13, go_sem, r0, r1, r2, r3]) rfl ⟨0, 0, 0, none, 0, 0, 0, [], _, false, rfl, ?_, OwnX.nil _ _ _, (fun h => absurd h (by omega)), HR.out, (fun h => by cases h), fun _ => ⟨3, by omega, rfl⟩⟩
      exact (((B7.setCell (Nat.le_refl _) _).setCell (Nat.le_refl _) _).setCell (Nat.le_refl _) _).setCell (Nat.le_refl _) _
    have h3 := atoiS_lenC (HOK1.out rfl)
    obtain ⟨n1, n3, n5, rfl⟩ := three_of (zs := xs1) h3
    have hq3 : q1 = 3 := by rw [← HQ1.out]; rfl
    subst hq3
    have hn121 : n2 ≤ 121 := by rw [← HN2.out, atoiS_lenC (HOK2.out rfl), HDL.out]; exact hq121
    obtain ⟨nb, no, rfl, hcell⟩ := ni7.pos (by omega)
    have k0 := hcell 0 (by omega)
    have k1 := hcell 1 (by omega)
    have k2 := hcell 2 (by omega)
    have hnb := block_lt k0
    have HNX : Hid (∀ c, Can l c → c = (n1, n3, n5, xs2)) := fun c hc => by
      have g3 := (can_cand hc).2.2.1
      have g4 := (can_cand hc).2.2.2
      rw [HE.out, HOK1.out rfl] at g3
      rw [HOK2.out rfl] at g4
      obtain ⟨c1, c2, c3, c4⟩ := c
      simp only [Option.some.injEq, List.cons.injEq, and_true] at g3 g4
      obtain ⟨rfl, rfl, rfl⟩ := g3
      rw [g4]
    have CN : Hid (∀ X : World, Below w7.heap.size w7 X → X.cell? ⟨nb, no, none⟩ = some (.int .i64 n1) ∧ X.cell? ⟨nb, no + 1, none⟩ = some (.int .i64 n3) ∧ X.cell? ⟨nb, no + 2, none⟩ = some (.int .i64 n5)) := fun X hB => ⟨by rw [hB.cell (p := ⟨nb, no, none⟩) hnb]; exact k0, by rw [hB.cell (p := ⟨nb, no + 1, none⟩) hnb]; exact k1, by rw [hB.cell (p := ⟨nb, no + 2, none⟩) hnb]; exact k2⟩
    clear k0 k1 k2 hcell ni7 r0 r1 r2 r3 f0 f1 f2 f3
    go_upto_region 10 with fail
    have hS7 : (w7.drew.cell? ⟨nb, no, none⟩ = some (.int .i64 n1) ∧ w7.drew.cell? ⟨nb, no + 1, none⟩ = some (.int .i64 n3) ∧ w7.drew.cell? ⟨nb, no + 2, none⟩ = some (.int .i64 n5)) ∧ True := ⟨CN.out _ (Below.refl _ _).drew, trivial⟩
    refine wp_region_ends (fun X => X.cell? ⟨nb, no, none⟩ = some (.int .i64 n1) ∧ X.cell? ⟨nb, no + 1, none⟩ = some (.int .i64 n3) ∧ X.cell? ⟨nb, no + 2, none⟩ = some (.int .i64 n5)) (fun _ => True) 12 (by kernel_rfl) ?_
    refine wpAnyE_take0 (i := 0) (v := ?gav0) rfl (by kernel_rfl) (by kernel_rfl) (by kernel_rfl) (by decide) (fun _ _ _ h => h) (Or.inl ⟨by rfl, ?gahy0⟩) hS7 ?_
    case gahy0 => (intro wz hSw; (try dsimp only at hSw); go_simp; try (with_reducible rfl))
    refine wpAnyE_take0 (i := 1) (v := ?gav1) rfl (by kernel_rfl) (by kernel_rfl) (by kernel_rfl) (by decide) (fun _ _ _ h => h) (Or.inl ⟨by rfl, ?gahy1⟩) hS7 ?_
    case gahy1 => (intro wz hSw; (try dsimp only at hSw); go_simp; try (with_reducible rfl))
    refine wpAnyE_take0 (i := 2) (v := ?gav2) rfl (by kernel_rfl) (by kernel_rfl) (by kernel_rfl) (by decide) (fun _ _ _ h => h) (Or.inl ⟨by rfl, ?gahy2⟩) hS7 ?_
    case gahy2 => (intro wz hSw; (try dsimp only at hSw); go_simp; try (with_reducible rfl))
    refine wpAnyE_take0 (i := 3) (v := ?gav3) rfl (by kernel_rfl) (by kernel_rfl) (by kernel_rfl) (by decide) (fun _ _ _ h => h) (Or.inl ⟨by rfl, ?gahy3⟩) hS7 ?_
    case gahy3 => (intro wz hSw; (try dsimp only at hSw); go_simp; try (with_reducible rfl))
    refine wpAnyE_take0 (i := 4) (v := ?gav4) rfl (by kernel_rfl) (by kernel_rfl) (by kernel_rfl) (by decide) (fun _ _ _ h => h) (Or.inl ⟨by rfl, ?gahy4⟩) hS7 ?_
    case gahy4 => (intro wz hSw; (try dsimp only at hSw); go_simp; try (with_reducible rfl))
    refine wpAnyE_take0 (i := 5) (v := ?gav5) rfl (by kernel_rfl) (by kernel_rfl) (by kernel_rfl) (by decide) (fun _ _ _ h => h) (Or.inl ⟨by rfl, ?gahy5⟩) hS7 ?_
    case gahy5 => (intro wz hSw; (try dsimp only at hSw); go_simp; try (with_reducible rfl))
    refine wpAnyE_take0 (i := 6) (v := ?gav6) rfl (by kernel_rfl) (by kernel_rfl) (by kernel_rfl) (by decide) (fun _ _ _ h => h) (Or.inl ⟨by rfl, ?gahy6⟩) hS7 ?_
    case gahy6 => (intro wz hSw; (try dsimp only at hSw); go_simp; try (with_reducible rfl))
    refine wpAnyE_take0 (i := 7) (v := ?gav7) rfl (by kernel_rfl) (by kernel_rfl) (by kernel_rfl) (by decide) (fun _ _ _ h => h) (Or.inl ⟨by rfl, ?gahy7⟩) hS7 ?_
    case gahy7 => (intro wz hSw; (try dsimp only at hSw); go_simp; try (with_reducible rfl))
    refine wpAnyE_take0 (i := 8) (v := ?gav8) rfl (by kernel_rfl) (by kernel_rfl) (by kernel_rfl) (by decide) (fun _ _ _ h => h) (Or.inl ⟨by rfl, ?gahy8⟩) hS7 ?_
    case gahy8 => (intro wz hSw; (try dsimp only at hSw); go_simp; try (with_reducible rfl))
    refine wpAnyE_take0 (i := 9) (v := ?gav9) rfl (by kernel_rfl) (by kernel_rfl) (by kernel_rfl) (by decide) (fun _ _ _ h => h) (Or.inl ⟨by rfl, ?gahy9⟩) hS7 ?_
    case gahy9 => (intro wz hSw; (try dsimp only at hSw); go_simp; try (with_reducible rfl))
    refine wpAnyE_take0 (i := 10) (v := ?gav10) rfl (by kernel_rfl) (by kernel_rfl) (by kernel_rfl) (by decide) (fun _ _ _ h => h) (Or.inl ⟨by rfl, ?gahy10⟩) hS7 ?_
    case gahy10 => (intro wz hSw; (try dsimp only at hSw); go_simp; try (with_reducible rfl))
    refine wpAnyE_one (i := 11) (by kernel_rfl) rfl (fun Kn hK => ?_)
    go_simp
    refine hK.out _ _ ⟨CN.out _ (((Below.refl w7.heap.size w7).alloc (Nat.le_refl _) _).drew), fun _ => trivial⟩ ?_
    clear hK hS7
    refine wpAnyE_one (i := 12) (by kernel_rfl) rfl (fun Kn hK => ?_)
    go_simp
    have b8 := ((Below.refl w7.heap.size w7).alloc (Nat.le_refl _) (.cells #[.int .i64 n1, .int .i64 n3, .int .i64 n5, .slice a2 n2 c2] 24)).drew
    have cb8 := (Cel.new w7 [.int .i64 n1, .int .i64 n3, .int .i64 n5, .slice a2 n2 c2] 24).below ((Below.refl _ _).drew)
    obtain ⟨W8, hW8⟩ : ∃ W, W = (w7.alloc (.cells #[.int .i64 n1, .int .i64 n3, .int .i64 n5, .slice a2 n2 c2] 24)).drew := ⟨_, rfl⟩
    rw [← hW8] at b8 cb8 ⊢
    clear hW8
    refine hK.out _ _ ⟨CN.out _ b8, fun _ => trivial⟩ ?_
    clear hK
    refine wpAnyE_done (by kernel_rfl) ?_ _
    have own8 := own.below b8
    have B8 := B7.trans (b8.mono B7.size)
    have bx8 := bx7.below b8
    have HLN : Hid (l ≠ []) := fun h => by
      have h1 : (wordsOf ([] : List UInt8)).length = 1 := rfl
      have h2 := HK.out
      rw [h, h1] at h2
      omega
    clear CN own b8 B7 bx7
    obtain ⟨d0, d1, d2, d3⟩ := cb8.quadC
    obtain ⟨T, hT⟩ : ∃ T, callText n1 n3 n5 n2 xs2 = T := ⟨_, rfl⟩
    have HT : Hid _ := hT
    clear hT
    go_wp2_with fail
    refine (ictext_any _ _ _ _ _ _ xs2 _ own8.ints (by omega) (fun w' h' => HTB.out w' (B8.trans (h'.mono B8.size)))).mono ?_
    rintro e w9 ⟨rfl, b9⟩
    rw [HT.out]
    have own9 := own8.below b9
    have B9 := B8.trans (b9.mono B8.size)
    have bx9 := bx8.below b9
    have cb9 := cb8.below b9
    clear own8 B8 bx8 cb8 b9 d0 d1 d2 d3
    obtain ⟨r0, r1, r2, r3⟩ := bx9.quadC
    obtain ⟨d0, d1, d2, d3⟩ := cb9.quadC
    have f0 := bx9.free 0
    have f1 := bx9.free 1
    have f2 := bx9.free 2
    have f3 := bx9.free 3
    have lt_bx9 := bx9.lt
    have lt_cb9 := cb9.lt
    by_cases he : T = l
    · have hE : (T == l) = true := by rw [he]; simp
      have hE2 : (T != l) = false := by rw [he]; simp
      have HR : Hid _ := ca_hitN HN2.out (HT.out.trans he) HLN.out
      clear he
      go_wp2
      refine bodyPost_ret (v := .tuple #[clV n1 n3 n5 a2 n2 c2, .nilIface]) (by simp [results, Tryz.results13, go_sem, r0, r1, r2, r3]) rfl ⟨n1, n3, n5, a2, n2, c2, BB, xs2, _, true, rfl, ?_, ?_, (fun h => by have := hBB' h; omega), HR.out, (fun _ => rfl), fun h => by cases h⟩
      · exact (((B9.setCell (Nat.le_refl _) _).setCell (Nat.le_refl _) _).setCell (Nat.le_refl _) _).setCell (Nat.le_refl _) _
      · exact (((own9.setOther (fun h => by have := hBB' h; omega) _ _).setOther (fun h => by have := hBB' h; omega) _ _).setOther (fun h => by have := hBB' h; omega) _ _).setOther (fun h => by have := hBB' h; omega) _ _
    · have hE : (T == l) = false := by simpa using he
      have hE2 : (T != l) = true := by simpa using he
      have HR : Hid (caF l = ((0, 0, 0, []), false)) := ca_miss (fun c hc => by
        have e := HNX.out c hc
        have h2 := hc.2.1
        subst e
        have h2' : n2 = 2 := by rw [← HN2.out]; exact h2
        rw [← h2']
        show callText n1 n3 n5 n2 xs2 ≠ l
        rw [HT.out]
        exact he)
      clear he
      go_wp2
      refine bodyPost_ret (v := .tuple #[clV 0 0 0 none 0 0, .iface 48 (.agg #[.int .i64 4])]) (by simp [results, Tryz.results13, go_sem, r0, r1, r2, r3]) rfl ⟨0, 0, 0, none, 0, 0, 0, [], _, false, rfl, ?_, OwnX.nil _ _ _, (fun h => absurd h (by omega)), HR.out, (fun h => by cases h), fun _ => ⟨4, by omega, rfl⟩⟩
      exact (((B9.setCell (Nat.le_refl _) _).setCell (Nat.le_refl _) _).setCell (Nat.le_refl _) _).setCell (Nat.le_refl _) _
  · refine (inums_any ((wordsOf l).drop 7) (w.heap.size + 1) 7 m _ _ HDL.out hq121 hg6 HD.out HDS.out (ReadsN.below HA.out B6)).mono ?_
    rintro e w7 ⟨v2, xs2, ok2, rfl, j2, hok2, hnok2⟩
    obtain ⟨n2, hn2⟩ : ∃ n, xs2.length = n := ⟨_, rfl⟩
    obtain ⟨a2, c2, BB, rfl, own, hBB⟩ := j2.ownx hn2
    have HN2 : Hid _ := hn2
    have b7 := j2.b
    have B7 := B6.trans (b7.mono B6.size)
    have bx7 := bx6.below b7
    have ni7 := ni.below b7
    have HOK2 : Hid _ := hok2
    have HNOK2 : Hid _ := hnok2
    have hBB' : 0 < n2 → w.heap.size + 1 < BB := fun h => by have := hBB h; omega
    clear hn2 hok2 hnok2 j2 bx6 hBB ni
    obtain ⟨r0, r1, r2, r3⟩ := bx7.quadC
    have f0 := bx7.free 0
    have f1 := bx7.free 1
    have f2 := bx7.free 2
    have f3 := bx7.free 3
    have lt_bx7 := bx7.lt
    cases ok1
    case false =>
      have HR : Hid (caF l = ((0, 0, 0, []), false)) := caF_no (fun c hc => by have h3 := (can_cand hc).2.2.1; rw [HE.out, HNOK1.out rfl] at h3; cases h3)
      go_wp2
      refine bodyPost_ret (v := .tuple #[clV 0 0 0 none 0 0, .iface 48 (.agg #[.int .i64 3])]) (by simp [results, Tryz.results13, go_sem, r0, r1, r2, r3]) rfl ⟨0, 0, 0, none, 0, 0, 0, [], _, false, rfl, ?_, OwnX.nil _ _ _, (fun h => absurd h (by omega)), HR.out, (fun h => by cases h), fun _ => ⟨3, by omega, rfl⟩⟩
      exact (((B7.setCell (Nat.le_refl _) _).setCell (Nat.le_refl _) _).setCell (Nat.le_refl _) _).setCell (Nat.le_refl _) _
    cases ok2
    case false =>
      have HR : Hid (caF l = ((0, 0, 0, []), false)) := caF_no (fun c hc => by have h3 := (can_cand hc).2.2.2; rw [HNOK2.out rfl] at h3; cases h3)
      go_wp2
      refine bodyPost_ret (v := .tuple #[clV 0 0 0 none 0 0, .iface 48 (.agg #[.int .i64 3])]) (by simp [results, Tryz.results13, go_sem, r0, r1, r2, r3]) rfl ⟨0, 0, 0, none, 0, 0, 0, [], _, false, rfl, ?_, OwnX.nil _ _ _, (fun h => absurd h (by omega)), HR.out, (fun h => by cases h), fun _ => ⟨3, by omega, rfl⟩⟩
      exact (((B7.setCell (Nat.le_refl _) _).setCell (Nat.le_refl _) _).setCell (Nat.le_refl _) _).setCell (Nat.le_refl _) _
    have h3 := atoiS_lenC (HOK1.out rfl)
    obtain ⟨n1, n3, n5, rfl⟩ := three_of (zs := xs1) h3
    have hq3 : q1 = 3 := by rw [← HQ1.out]; rfl
    subst hq3
    have hn121 : n2 ≤ 121 := by rw [← HN2.out, atoiS_lenC (HOK2.out rfl), HDL.out]; exact hq121
    obtain ⟨nb, no, rfl, hcell⟩ := ni7.pos (by omega)
    have k0 := hcell 0 (by omega)
    have k1 := hcell 1 (by omega)
    have k2 := hcell 2 (by omega)
    have hnb := block_lt k0
    have HNX : Hid (∀ c, Can l c → c = (n1, n3, n5, xs2)) := fun c hc => by
      have g3 := (can_cand hc).2.2.1
      have g4 := (can_cand hc).2.2.2
      rw [HE.out, HOK1.out rfl] at g3
      rw [HOK2.out rfl] at g4
      obtain ⟨c1, c2, c3, c4⟩ := c
      simp only [Option.some.injEq, List.cons.injEq, and_true] at g3 g4
      obtain ⟨rfl, rfl, rfl⟩ := g3
      rw [g4]
    have CN : Hid (∀ X : World, Below w7.heap.size w7 X → X.cell? ⟨nb, no, none⟩ = some (.int .i64 n1) ∧ X.cell? ⟨nb, no + 1, none⟩ = some (.int .i64 n3) ∧ X.cell? ⟨nb, no + 2, none⟩ = some (.int .i64 n5)) := fun X hB => ⟨by rw [hB.cell (p := ⟨nb, no, none⟩) hnb]; exact k0, by rw [hB.cell (p := ⟨nb, no + 1, none⟩) hnb]; exact k1, by rw [hB.cell (p := ⟨nb, no + 2, none⟩) hnb]; exact k2⟩
    clear k0 k1 k2 hcell ni7 r0 r1 r2 r3 f0 f1 f2 f3
    go_upto_region 10 with fail
    have hS7 : (w7.drew.cell? ⟨nb, no, none⟩ = some (.int .i64 n1) ∧ w7.drew.cell? ⟨nb, no + 1, none⟩ = some (.int .i64 n3) ∧ w7.drew.cell? ⟨nb, no + 2, none⟩ = some (.int .i64 n5)) ∧ True := ⟨CN.out _ (Below.refl _ _).drew, trivial⟩
    refine wp_region_ends (fun X => X.cell? ⟨nb, no, none⟩ = some (.int .i64 n1) ∧ X.cell? ⟨nb, no + 1, none⟩ = some (.int .i64 n3) ∧ X.cell? ⟨nb, no + 2, none⟩ = some (.int .i64 n5)) (fun _ => True) 12 (by kernel_rfl) ?_
    refine wpAnyE_take0 (i := 0) (v := ?gbv0) rfl (by kernel_rfl) (by kernel_rfl) (by kernel_rfl) (by decide) (fun _ _ _ h => h) (Or.inl ⟨by rfl, ?gbhy0⟩) hS7 ?_
    case gbhy0 => (intro wz hSw; (try dsimp only at hSw); go_simp; try (with_reducible rfl))
    refine wpAnyE_take0 (i := 1) (v := ?gbv1) rfl (by kernel_rfl) (by kernel_rfl) (by kernel_rfl) (by decide) (fun _ _ _ h => h) (Or.inl ⟨by rfl, ?gbhy1⟩) hS7 ?_
    case gbhy1 => (intro wz hSw; (try dsimp only at hSw); go_simp; try (with_reducible rfl))
    refine wpAnyE_take0 (i := 2) (v := ?gbv2) rfl (by kernel_rfl) (by kernel_rfl) (by kernel_rfl) (by decide) (fun _ _ _ h => h) (Or.inl ⟨by rfl, ?gbhy2⟩) hS7 ?_
    case gbhy2 => (intro wz hSw; (try dsimp only at hSw); go_simp; try (with_reducible rfl))
    refine wpAnyE_take0 (i := 3) (v := ?gbv3) rfl (by kernel_rfl) (by kernel_rfl) (by kernel_rfl) (by decide) (fun _ _ _ h => h) (Or.inl ⟨by rfl, ?gbhy3⟩) hS7 ?_
    case gbhy3 => (intro wz hSw; (try dsimp only at hSw); go_simp; try (with_reducible rfl))
    refine wpAnyE_take0 (i := 4) (v := ?gbv4) rfl (by kernel_rfl) (by kernel_rfl) (by kernel_rfl) (by decide) (fun _ _ _ h => h) (Or.inl ⟨by rfl, ?gbhy4⟩) hS7 ?_
    case gbhy4 => (intro wz hSw; (try dsimp only at hSw); go_simp; try (with_reducible rfl))
    refine wpAnyE_take0 (i := 5) (v := ?gbv5) rfl (by kernel_rfl) (by kernel_rfl) (by kernel_rfl) (by decide) (fun _ _ _ h => h) (Or.inl ⟨by rfl, ?gbhy5⟩) hS7 ?_
    case gbhy5 => (intro wz hSw; (try dsimp only at hSw); go_simp; try (with_reducible rfl))
    refine wpAnyE_take0 (i := 6) (v := ?gbv6) rfl (by kernel_rfl) (by kernel_rfl) (by kernel_rfl) (by decide) (fun _ _ _ h => h) (Or.inl ⟨by rfl, ?gbhy6⟩) hS7 ?_
    case gbhy6 => (intro wz hSw; (try dsimp only at hSw); go_simp; try (with_reducible rfl))
    refine wpAnyE_take0 (i := 7) (v := ?gbv7) rfl (by kernel_rfl) (by kernel_rfl) (by kernel_rfl) (by decide) (fun _ _ _ h => h) (Or.inl ⟨by rfl, ?gbhy7⟩) hS7 ?_
    case gbhy7 => (intro wz hSw; (try dsimp only at hSw); go_simp; try (with_reducible rfl))
    refine wpAnyE_take0 (i := 8) (v := ?gbv8) rfl (by kernel_rfl) (by kernel_rfl) (by kernel_rfl) (by decide) (fun _ _ _ h => h) (Or.inl ⟨by rfl, ?gbhy8⟩) hS7 ?_
    case gbhy8 => (intro wz hSw; (try dsimp only at hSw); go_simp; try (with_reducible rfl))
    refine wpAnyE_take0 (i := 9) (v := ?gbv9) rfl (by kernel_rfl) (by kernel_rfl) (by kernel_rfl) (by decide) (fun _ _ _ h => h) (Or.inl ⟨by rfl, ?gbhy9⟩) hS7 ?_
    case gbhy9 => (intro wz hSw; (try dsimp only at hSw); go_simp; try (with_reducible rfl))
    refine wpAnyE_take0 (i := 10) (v := ?gbv10) rfl (by kernel_rfl) (by kernel_rfl) (by kernel_rfl) (by decide) (fun _ _ _ h => h) (Or.inl ⟨by rfl, ?gbhy10⟩) hS7 ?_
    case gbhy10 => (intro wz hSw; (try dsimp only at hSw); go_simp; try (with_reducible rfl))
    refine wpAnyE_one (i := 11) (by kernel_rfl) rfl (fun Kn hK => ?_)
    go_simp
    refine hK.out _ _ ⟨CN.out _ (((Below.refl w7.heap.size w7).alloc (Nat.le_refl _) _).drew), fun _ => trivial⟩ ?_
    clear hK hS7
    refine wpAnyE_one (i := 12) (by kernel_rfl) rfl (fun Kn hK => ?_)
    go_simp
    have b8 := ((Below.refl w7.heap.size w7).alloc (Nat.le_refl _) (.cells #[.int .i64 n1, .int .i64 n3, .int .i64 n5, .slice a2 n2 c2] 24)).drew
    have cb8 := (Cel.new w7 [.int .i64 n1, .int .i64 n3, .int .i64 n5, .slice a2 n2 c2] 24).below ((Below.refl _ _).drew)
    obtain ⟨W8, hW8⟩ : ∃ W, W = (w7.alloc (.cells #[.int .i64 n1, .int .i64 n3, .int .i64 n5, .slice a2 n2 c2] 24)).drew := ⟨_, rfl⟩
    rw [← hW8] at b8 cb8 ⊢
    clear hW8
    refine hK.out _ _ ⟨CN.out _ b8, fun _ => trivial⟩ ?_
    clear hK
    refine wpAnyE_done (by kernel_rfl) ?_ _
    have own8 := own.below b8
    have B8 := B7.trans (b8.mono B7.size)
    have bx8 := bx7.below b8
    have HLN : Hid (l ≠ []) := fun h => by
      have h1 : (wordsOf ([] : List UInt8)).length = 1 := rfl
      have h2 := HK.out
      rw [h, h1] at h2
      omega
    clear CN own b8 B7 bx7
    obtain ⟨d0, d1, d2, d3⟩ := cb8.quadC
    obtain ⟨T, hT⟩ : ∃ T, callText n1 n3 n5 n2 xs2 = T := ⟨_, rfl⟩
    have HT : Hid _ := hT
    clear hT
    go_wp2_with fail
    refine (ictext_any _ _ _ _ _ _ xs2 _ own8.ints (by omega) (fun w' h' => HTB.out w' (B8.trans (h'.mono B8.size)))).mono ?_
    rintro e w9 ⟨rfl, b9⟩
    rw [HT.out]
    have own9 := own8.below b9
    have B9 := B8.trans (b9.mono B8.size)
    have bx9 := bx8.below b9
    have cb9 := cb8.below b9
    clear own8 B8 bx8 cb8 b9 d0 d1 d2 d3
    obtain ⟨r0, r1, r2, r3⟩ := bx9.quadC
    obtain ⟨d0, d1, d2, d3⟩ := cb9.quadC
    have f0 := bx9.free 0
    have f1 := bx9.free 1
    have f2 := bx9.free 2
    have f3 := bx9.free 3
    have lt_bx9 := bx9.lt
    have lt_cb9 := cb9.lt
    by_cases he : T = l
    · have hE : (T == l) = true := by rw [he]; simp
      have hE2 : (T != l) = false := by rw [he]; simp
      have HR : Hid _ := ca_hitN HN2.out (HT.out.trans he) HLN.out
      clear he
      go_wp2
      refine bodyPost_ret (v := .tuple #[clV n1 n3 n5 a2 n2 c2, .nilIface]) (by simp [results, Tryz.results13, go_sem, r0, r1, r2, r3]) rfl ⟨n1, n3, n5, a2, n2, c2, BB, xs2, _, true, rfl, ?_, ?_, (fun h => by have := hBB' h; omega), HR.out, (fun _ => rfl), fun h => by cases h⟩
      · exact (((B9.setCell (Nat.le_refl _) _).setCell (Nat.le_refl _) _).setCell (Nat.le_refl _) _).setCell (Nat.le_refl _) _
      · exact (((own9.setOther (fun h => by have := hBB' h; omega) _ _).setOther (fun h => by have := hBB' h; omega) _ _).setOther (fun h => by have := hBB' h; omega) _ _).setOther (fun h => by have := hBB' h; omega) _ _
    · have hE : (T == l) = false := by simpa using he
      have hE2 : (T != l) = true := by simpa using he
      have HR : Hid (caF l = ((0, 0, 0, []), false)) := ca_miss (fun c hc => by
        have e := HNX.out c hc
        have h2 := hc.2.1
        subst e
        have h2' : n2 = 2 := by rw [← HN2.out]; exact h2
        rw [← h2']
        show callText n1 n3 n5 n2 xs2 ≠ l
        rw [HT.out]
        exact he)
      clear he
      go_wp2
      refine bodyPost_ret (v := .tuple #[clV 0 0 0 none 0 0, .iface 48 (.agg #[.int .i64 4])]) (by simp [results, Tryz.results13, go_sem, r0, r1, r2, r3]) rfl ⟨0, 0, 0, none, 0, 0, 0, [], _, false, rfl, ?_, OwnX.nil _ _ _, (fun h => absurd h (by omega)), HR.out, (fun h => by cases h), fun _ => ⟨4, by omega, rfl⟩⟩
      exact (((B9.setCell (Nat.le_refl _) _).setCell (Nat.le_refl _) _).setCell (Nat.le_refl _) _).setCell (Nat.le_refl _) _

end Go.Proofs.YtkmacleakfbobaaGreatDoor
