/-
  A call, as the specification reads it, of whatever length: the walk.
-/
import Derived.Test.YtkmacleakfbobaaGreatDoorCaS
namespace Go.Proofs.YtkmacleakfbobaaGreatDoor
open Go.RowKit
set_option linter.unusedVariables false
set_option maxRecDepth 100000

theorem two_ints {W : World} {B : Nat} {p q : Int} {t : TypeId} (h : Cel W B [.int .i64 p, .int .i64 q] t) : Ints W (some ⟨B, 0, none⟩) 2 [p, q] := ⟨rfl, fun i hi => ⟨_, _, rfl, by
    rw [Nat.zero_add, h.cell i]
    match i, hi with
    | 0, _ => rfl
    | 1, _ => rfl⟩⟩

theorem cwords_long (l : List UInt8) (w : World) (hl : 120 < l.length) :
    Calls Tryz.prog 9 #[.string ⟨l.toArray⟩] w fun e w' => e = .returned (.slice (some ⟨w.heap.size, 0, none⟩) 0 0) ∧ Below w.heap.size w w' := by
  have hi : (120 : Int) < (l.length : Int) := by omega
  have B0 := (Below.refl w.heap.size w).alloc (Nat.le_refl _) (.cells #[] 9)
  go_enter Tryz.func9, Tryz.ntmps9
  go_wp2
  go_ret
  exact ⟨rfl, B0⟩

set_option maxHeartbeats 6400000 in
theorem scread_any (l : List UInt8) (w : World) :
    Calls Tryz.prog 4 #[.string ⟨l.toArray⟩] w fun e w' => ∃ cl sq ac a n cap xs ok, e = .returned (.tuple #[clV cl sq ac a n cap, .bool ok]) ∧ Below w.heap.size w w' ∧ Ints w' a n xs ∧ caF l = ((cl, sq, ac, xs), ok) := by
  have bx := Cel.new w [.int .i64 0, .int .i64 0, .int .i64 0, .slice none 0 0] 24
  have B0 := (Below.refl w.heap.size w).alloc (Nat.le_refl _) (.cells #[.int .i64 0, .int .i64 0, .int .i64 0, .slice none 0 0] 24)
  by_cases h120 : l.length ≤ 120
  case neg =>
    have HR : Hid _ := caF_long (by omega : 120 < l.length)
    go_enter Tryz.func4, Tryz.ntmps4
    go_wp2_with fail
    refine (cwords_long l _ (by omega)).mono ?_
    rintro e w1 ⟨rfl, b1⟩
    have bx1 := bx.below b1
    have B1 := B0.trans (b1.mono B0.size)
    obtain ⟨r0, r1, r2, r3⟩ := bx1.quadC
    have f0 := bx1.free 0
    have f1 := bx1.free 1
    have f2 := bx1.free 2
    have f3 := bx1.free 3
    have lt1 := bx1.lt
    go_wp2
    refine bodyPost_ret (v := .tuple #[clV 0 0 0 none 0 0, .bool false]) (by simp [results, Tryz.results4, go_sem, r0, r1, r2, r3]) rfl ⟨0, 0, 0, none, 0, 0, [], false, rfl, ?_, ⟨rfl, fun i hi => absurd hi (by omega)⟩, HR.out⟩
    exact (((B1.setCell (Nat.le_refl _) _).setCell (Nat.le_refl _) _).setCell (Nat.le_refl _) _).setCell (Nat.le_refl _) _
  obtain ⟨x0, ws, hws⟩ : ∃ x0 ws, wordsOf l = x0 :: ws := by
    cases h : wordsOf l with
    | nil => exact absurd h (words_ne l)
    | cons a b => exact ⟨a, b, rfl⟩
  obtain ⟨k, hk⟩ : ∃ k, (wordsOf l).length = k := ⟨_, rfl⟩
  have HK : Hid _ := hk
  have hk0 : 0 < k := by rw [← hk, hws]; simp
  have HS : Hid (∀ (i : Nat) (x : List UInt8), (wordsOf l)[i]? = some x → 0 < i → x.length ≤ 120) := fun i x hx hi => by
    rw [hws] at hx
    match i, hi with
    | i + 1, _ =>
      rw [List.getElem?_cons_succ] at hx
      exact Nat.le_trans (words_short hws x (List.mem_of_getElem? hx)) h120
  clear hk hws
  go_enter Tryz.func4, Tryz.ntmps4
  go_wp2_with fail
  refine (words_any l _ h120).mono ?_
  rintro e w1 ⟨v, rfl, j1⟩
  have bx1 := bx.below j1.b
  have B1 := B0.trans (j1.b.mono B0.size)
  obtain ⟨g, gc, rfl, -, hg, hcs⟩ := j1.cells (k := k) (by rw [bytesW, List.length_map]; exact HK.out) hk0
  have HCS : Hid (∀ (i : Nat) (x : List UInt8), (wordsOf l)[i]? = some x → w1.cell? ⟨g, i, none⟩ = some (.string ⟨x.toArray⟩)) := fun i x hx => by
    have := hcs i ⟨x.toArray⟩ (by rw [bytesW, List.getElem?_map, hx]; rfl)
    rwa [Nat.zero_add] at this
  clear hcs j1 bx B0
  obtain ⟨r0, r1, r2, r3⟩ := bx1.quadC
  have f0 := bx1.free 0
  have f1 := bx1.free 1
  have f2 := bx1.free 2
  have f3 := bx1.free 3
  have lt1 := bx1.lt
  by_cases h9 : k = 9
  case neg =>
    have h9' : ((k : Int) == 9) = false := by simp; omega
    have h9'' : ((k : Int) != 9) = true := by simp; omega
    have HR : Hid (caF l = ((0, 0, 0, []), false)) := caF_no (fun c hc => h9 (by rw [← HK.out]; exact (can_cand hc).1))
    go_wp2
    refine bodyPost_ret (v := .tuple #[clV 0 0 0 none 0 0, .bool false]) (by simp [results, Tryz.results4, go_sem, r0, r1, r2, r3]) rfl ⟨0, 0, 0, none, 0, 0, [], false, rfl, ?_, ⟨rfl, fun i hi => absurd hi (by omega)⟩, HR.out⟩
    exact (((B1.setCell (Nat.le_refl _) _).setCell (Nat.le_refl _) _).setCell (Nat.le_refl _) _).setCell (Nat.le_refl _) _
  subst h9
  have hx : ∀ i, i < 9 → ∃ x, (wordsOf l)[i]? = some x := fun i hi => ⟨_, List.getElem?_eq_getElem (by rw [HK.out]; exact hi)⟩
  obtain ⟨x1, e1⟩ := hx 1 (by omega)
  obtain ⟨x3, e3⟩ := hx 3 (by omega)
  obtain ⟨x5, e5⟩ := hx 5 (by omega)
  obtain ⟨x7, e7⟩ := hx 7 (by omega)
  obtain ⟨x8, e8⟩ := hx 8 (by omega)
  clear hx
  have c1 := HCS.out 1 x1 e1
  have c3 := HCS.out 3 x3 e3
  have c5 := HCS.out 5 x5 e5
  have c7 := HCS.out 7 x7 e7
  have c8 := HCS.out 8 x8 e8
  have s1 := HS.out 1 x1 e1 (by omega)
  have s3 := HS.out 3 x3 e3 (by omega)
  have s5 := HS.out 5 x5 e5 (by omega)
  have s7 := HS.out 7 x7 e7 (by omega)
  have s8 := HS.out 8 x8 e8 (by omega)
  have E1 : Hid _ := e1
  have E3 : Hid _ := e3
  have E5 : Hid _ := e5
  have HCD : Hid (candS (wordsOf l) = (atC (wordsOf l) 1, atC (wordsOf l) 3, atC (wordsOf l) 5, [(numL x7).1, (numL x8).1])) := by show _ = _; rw [candS, e7, e8]; rfl
  clear e1 e3 e5 e7 e8 HCS HS
  obtain ⟨n1, hn1⟩ : ∃ n, n = atC (wordsOf l) 1 := ⟨_, rfl⟩
  obtain ⟨n3, hn3⟩ : ∃ n, n = atC (wordsOf l) 3 := ⟨_, rfl⟩
  obtain ⟨n5, hn5⟩ : ∃ n, n = atC (wordsOf l) 5 := ⟨_, rfl⟩
  obtain ⟨p7, hp7⟩ : ∃ n, n = (numL x7).1 := ⟨_, rfl⟩
  obtain ⟨p8, hp8⟩ : ∃ n, n = (numL x8).1 := ⟨_, rfl⟩
  obtain ⟨q7, hq7⟩ : ∃ n, n = (numL x7).2 := ⟨_, rfl⟩
  obtain ⟨q8, hq8⟩ : ∃ n, n = (numL x8).2 := ⟨_, rfl⟩
  rw [← hn1, ← hn3, ← hn5, ← hp7, ← hp8] at HCD
  have N1 : Hid _ := hn1
  have N3 : Hid _ := hn3
  have N5 : Hid _ := hn5
  have P7 : Hid _ := hp7
  have P8 : Hid _ := hp8
  have Q7 : Hid _ := hq7
  have Q8 : Hid _ := hq8
  clear hn1 hn3 hn5 hp7 hp8 hq7 hq8
  go_wp2_with fail
  refine (num_any x7 _ s7).mono ?_
  rintro e w2 ⟨rfl, rfl⟩
  rw [← P7.out, ← Q7.out]
  go_wp2_with fail
  refine (num_any x8 _ s8).mono ?_
  rintro e w2 ⟨rfl, rfl⟩
  rw [← P8.out, ← Q8.out]
  go_wp2_with fail
  refine (l2at_any (wordsOf l) g 9 gc 1 x1 _ E1.out (by omega) s1 c1).mono ?_
  rintro e w2 ⟨rfl, rfl⟩
  rw [← N1.out]
  go_wp2_with fail
  refine (l2at_any (wordsOf l) g 9 gc 3 x3 _ E3.out (by omega) s3 c3).mono ?_
  rintro e w2 ⟨rfl, rfl⟩
  rw [← N3.out]
  go_wp2_with fail
  refine (l2at_any (wordsOf l) g 9 gc 5 x5 _ E5.out (by omega) s5 c5).mono ?_
  rintro e w2 ⟨rfl, rfl⟩
  rw [← N5.out]
  clear c1 c3 c5 c7 c8 s1 s3 s5 s7 s8
  have il := (Cel.new w2 [.int .i64 p7, .int .i64 p8] 3).alloc (.cells #[.int .i64 n1, .int .i64 n3, .int .i64 n5, .slice (some ⟨w2.heap.size, 0, none⟩) 2 2] 24)
  have ib := Cel.new (w2.alloc (.cells #[.int .i64 p7, .int .i64 p8] 3)) [.int .i64 n1, .int .i64 n3, .int .i64 n5, .slice (some ⟨w2.heap.size, 0, none⟩) 2 2] 24
  rw [World.size_alloc] at ib
  have b3 := ((Below.refl w2.heap.size w2).alloc (Nat.le_refl _) (.cells #[.int .i64 p7, .int .i64 p8] 3)).alloc (by simp) (.cells #[.int .i64 n1, .int .i64 n3, .int .i64 n5, .slice (some ⟨w2.heap.size, 0, none⟩) 2 2] 24)
  obtain ⟨W3, hW3⟩ : ∃ W, W = (w2.alloc (.cells #[.int .i64 p7, .int .i64 p8] 3)).alloc (.cells #[.int .i64 n1, .int .i64 n3, .int .i64 n5, .slice (some ⟨w2.heap.size, 0, none⟩) 2 2] 24) := ⟨_, rfl⟩
  go_wp2_with fail
  rw [← hW3]
  rw [← hW3] at il ib b3
  clear hW3
  have ltw : w.heap.size < w2.heap.size := lt1
  have B3 := B1.trans (b3.mono B1.size)
  have bx3 := bx1.below b3
  clear b3 bx1 r0 r1 r2 r3 f0 f1 f2 f3 lt1
  obtain ⟨T, hT⟩ : ∃ T, callText n1 n3 n5 2 [p7, p8] = T := ⟨_, rfl⟩
  have HT : Hid _ := hT
  clear hT
  refine (sctext_any _ _ _ _ _ _ [p7, p8] _ (two_ints il) (by omega)).mono ?_
  rintro e w4 ⟨rfl, b4⟩
  rw [HT.out]
  have il4 := il.below b4
  have ib4 := ib.below b4
  have B4 := B3.trans (b4.mono B3.size)
  have bx4 := bx3.below b4
  clear il ib b4 B3 bx3
  obtain ⟨r0, r1, r2, r3⟩ := bx4.quadC
  have f0 := bx4.free 0
  have f1 := bx4.free 1
  have f2 := bx4.free 2
  have f3 := bx4.free 3
  have lt4 := bx4.lt
  obtain ⟨d0, d1, d2, d3⟩ := ib4.quadC
  have HMISS : Hid (T ≠ l ∨ T = [] → caF l = ((0, 0, 0, []), false)) := fun h => ca_miss (fun c hc => by
    have e := (can_cand hc).2.1
    rw [HCD.out] at e
    subst e
    show callText n1 n3 n5 2 [p7, p8] ≠ l
    rw [HT.out]
    rcases h with h | h
    · exact h
    · rw [h, hc.2.2]; exact fun h => callL_ne h.symm)
  have HHIT : Hid (T = l → T ≠ [] → caF l = ((n1, n3, n5, [p7, p8]), true)) := fun h h0 => ca_hit rfl (by rw [HT.out]; exact h) (by rw [HT.out]; exact h0)
  by_cases h0 : T = []
  · have hm : T.isEmpty = true := by rw [h0]; rfl
    have HR : Hid _ := HMISS.out (Or.inr h0)
    clear h0
    go_wp2
    refine bodyPost_ret (v := .tuple #[clV 0 0 0 none 0 0, .bool false]) (by simp [results, Tryz.results4, go_sem, r0, r1, r2, r3]) rfl ⟨0, 0, 0, none, 0, 0, [], false, rfl, ?_, ⟨rfl, fun i hi => absurd hi (by omega)⟩, HR.out⟩
    exact (((B4.setCell (Nat.le_refl _) _).setCell (Nat.le_refl _) _).setCell (Nat.le_refl _) _).setCell (Nat.le_refl _) _
  have hm : T.isEmpty = false := by cases T with | nil => exact absurd rfl h0 | cons a b => rfl
  have H0 : Hid _ := h0
  clear h0
  go_wp2_with fail
  refine (sctext_any _ _ _ _ _ _ [p7, p8] _ (two_ints il4) (by omega)).mono ?_
  rintro e w5 ⟨rfl, b5⟩
  rw [HT.out]
  have il5 := il4.below b5
  have ib5 := ib4.below b5
  have B5 := B4.trans (b5.mono B4.size)
  have bx5 := bx4.below b5
  clear il4 ib4 b5 B4 bx4 r0 r1 r2 r3 f0 f1 f2 f3 lt4 d0 d1 d2 d3
  obtain ⟨r0, r1, r2, r3⟩ := bx5.quadC
  have f0 := bx5.free 0
  have f1 := bx5.free 1
  have f2 := bx5.free 2
  have f3 := bx5.free 3
  have lt5 := bx5.lt
  obtain ⟨d0, d1, d2, d3⟩ := ib5.quadC
  have lt6 := ib5.lt
  by_cases he : T = l
  · have hE : (T == l) = true := by rw [he]; simp
    have hE2 : (T != l) = false := by rw [he]; simp
    have HR : Hid _ := HHIT.out he H0.out
    clear he
    go_wp2
    refine bodyPost_ret (v := .tuple #[clV n1 n3 n5 (some ⟨w2.heap.size, 0, none⟩) 2 2, .bool true]) (by simp [results, Tryz.results4, go_sem, r0, r1, r2, r3]) rfl ⟨n1, n3, n5, _, 2, 2, [p7, p8], true, rfl, ?_, ?_, HR.out⟩
    · exact (((B5.setCell (Nat.le_refl _) _).setCell (Nat.le_refl _) _).setCell (Nat.le_refl _) _).setCell (Nat.le_refl _) _
    · exact two_ints ((((il5.setOther (by omega) _ _).setOther (by omega) _ _).setOther (by omega) _ _).setOther (by omega) _ _)
  · have hE : (T == l) = false := by simpa using he
    have hE2 : (T != l) = true := by simpa using he
    have HR : Hid _ := HMISS.out (Or.inl he)
    clear he
    go_wp2
    refine bodyPost_ret (v := .tuple #[clV 0 0 0 none 0 0, .bool false]) (by simp [results, Tryz.results4, go_sem, r0, r1, r2, r3]) rfl ⟨0, 0, 0, none, 0, 0, [], false, rfl, ?_, ⟨rfl, fun i hi => absurd hi (by omega)⟩, HR.out⟩
    exact (((B5.setCell (Nat.le_refl _) _).setCell (Nat.le_refl _) _).setCell (Nat.le_refl _) _).setCell (Nat.le_refl _) _

end Go.Proofs.YtkmacleakfbobaaGreatDoor
