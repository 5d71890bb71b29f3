/-
  Whether a call is ok: both functions answer the same. Lengths at most 1048576; the library's table of powers of ten is as its text lays it.
-/
import Derived.Test.YtejeffnonddfhaaDoorPlanW
import Derived.Test.YtejeffnonddfhaaDoorCallI
namespace Go.Proofs.YtejeffnonddfhaaDoor
open Go.RowKit
set_option linter.unusedVariables false
set_option maxRecDepth 100000

/-- A text is not empty. -/
def fullC (l : List UInt8) : Bool := !(⟨l.toArray⟩ : ByteArray).toList.isEmpty
theorem full_call (x sq ac : Int) (n : Nat) (zs : List Int) : fullC (callText x sq ac n zs) = callOkB x sq ac n zs := by
  cases h : callOkB x sq ac n zs
  · rw [callText_no h, fullC, ByteArray.toList_mk]; rfl
  · rw [callText_yes h, fullC, ByteArray.toList_mk, callL]; rfl
/-- A call is ok in a plan that is. -/
def inCallB (cl : Int) (N : Nat) (x sq ac : Int) (n : Nat) (zs : List Int) : Bool := inB x 0 (cl - 1) && (inB sq 1 300 && (inB ac 0 (N - 1) && okN 2 9 n zs))
theorem pln_acts {cl : Int} {N : Nat} {ss : List L2V} {gn : Nat} {G : List Int} {sn : Nat} {S : List Int} (h : plnB cl N ss gn G sn S = true) : 1 ≤ N ∧ N ≤ 4 := by
  simp only [plnB, catB, Bool.and_eq_true] at h
  have h1 := inB_iff.1 h.2.1.1
  omega
theorem inCall_same {cl : Int} {N : Nat} {x sq ac : Int} {n : Nat} {zs : List Int} (h1 : cl ≤ 4) (h2 : N ≤ 4) : (decide (0 ≤ x ∧ x < cl) && (decide (0 ≤ ac ∧ ac < (N : Int)) && fullC (callText x sq ac n zs))) = inCallB cl N x sq ac n zs := by
  rw [full_call, callOkB, inCallB]
  have e1 : decide (0 ≤ x ∧ x < cl) = inB x 0 (cl - 1) := by
    cases h : inB x 0 (cl - 1)
    · have := inB_not.1 h; simp; omega
    · have := inB_iff.1 h; simp; omega
  have e2 : decide (0 ≤ ac ∧ ac < (N : Int)) = inB ac 0 (N - 1) := by
    cases h : inB ac 0 (N - 1)
    · have := inB_not.1 h; simp; omega
    · have := inB_iff.1 h; simp; omega
  rw [e1, e2]
  cases h : inB x 0 (cl - 1)
  · simp
  · have g1 := inB_iff.1 h
    rw [inB_iff.2 (show 0 ≤ x ∧ x ≤ 3 by omega)]
    cases h' : inB ac 0 (N - 1)
    · simp
    · have g2 := inB_iff.1 h'
      rw [inB_iff.2 (show 0 ≤ ac ∧ ac ≤ 3 by omega)]
      simp

set_option maxHeartbeats 1600000 in
theorem l6call_any (cl : Int) (ad : Option Addr) (N cap : Nat) (ga : Option Addr) (gn gc : Nat) (sa : Option Addr) (sn sc : Nat) (x sq ac : Int) (a : Option Addr) (n cc : Nat) (zs : List Int) (w : World) (hC : Ints w a n zs) (hn : n ≤ 1048576) (h1 : 1 ≤ cl ∧ cl ≤ 4) (h2 : 1 ≤ N ∧ N ≤ 4) :
    Calls Tryd.prog 46 #[plV cl ad N cap ga gn gc sa sn sc, clV x sq ac a n cc] w fun e w' => e = .returned (.bool (inCallB cl N x sq ac n zs)) ∧ Below w.heap.size w w' := by
  have B_0 := ((Below.refl w.heap.size w).alloc (Nat.le_refl _) (.cells #[.int .i64 cl, .slice ad N cap, .slice ga gn gc, .slice sa sn sc] 47)).alloc (by simp) (.cells #[.int .i64 x, .int .i64 sq, .int .i64 ac, .slice a n cc] 36)
  obtain ⟨x1, hx1⟩ : ∃ y, y = inB x 0 (cl - 1) := ⟨_, rfl⟩
  obtain ⟨x2, hx2⟩ : ∃ y, y = inB sq 1 300 := ⟨_, rfl⟩
  obtain ⟨x3, hx3⟩ : ∃ y, y = inB ac 0 ((N : Int) - 1) := ⟨_, rfl⟩
  obtain ⟨x4, hx4⟩ : ∃ y, y = okN 2 9 n zs := ⟨_, rfl⟩
  have HB : Hid (inCallB cl N x sq ac n zs = (x1 && (x2 && (x3 && x4)))) := by show _ = _; rw [inCallB, hx1, hx2, hx3, hx4]
  have H1 : Hid _ := hx1
  have H2 : Hid _ := hx2
  have H3 : Hid _ := hx3
  have H4 : Hid _ := hx4
  clear hx1 hx2 hx3 hx4
  obtain ⟨c1, c2⟩ := h1
  obtain ⟨d1, d2⟩ := h2
  go_enter Tryd.func46, Tryd.ntmps46
  go_wp2_with fail
  refine (in_any _ _ _ _).mono ?_
  rintro e w1 ⟨rfl, rfl⟩
  rw [← H1.out]
  cases x1
  · go_wp2
    go_ret
    exact ⟨ret_bool (by rw [HB.out]; rfl), B_0⟩
  go_wp2_with fail
  refine (in_any _ _ _ _).mono ?_
  rintro e w1 ⟨rfl, rfl⟩
  rw [← H2.out]
  cases x2
  · go_wp2
    go_ret
    exact ⟨ret_bool (by rw [HB.out]; rfl), B_0⟩
  go_wp2_with fail
  refine (in_any _ _ _ _).mono ?_
  rintro e w1 ⟨rfl, rfl⟩
  rw [← H3.out]
  cases x3
  · go_wp2
    go_ret
    exact ⟨ret_bool (by rw [HB.out]; rfl), B_0⟩
  go_wp2_with fail
  refine (sarg_any _ _ _ zs _ (hC.below B_0) hn).mono ?_
  rintro e w1 ⟨rfl, rfl⟩
  rw [← H4.out]
  go_wp2
  go_ret
  exact ⟨ret_bool (by rw [HB.out]; rfl), B_0⟩

set_option maxHeartbeats 1600000 in
theorem scallok_any (cl : Int) (ad : Option Addr) (N cap : Nat) (ss : List L2V) (ga : Option Addr) (gn gc : Nat) (G : List Int) (sa : Option Addr) (sn sc : Nat) (S : List Int) (x sq ac : Int) (a : Option Addr) (n cc : Nat) (zs : List Int) (w : World) (h : PlAt w ad N ss ga gn G sa sn S) (hC : Ints w a n zs) (hn : n ≤ 1048576) :
    Calls Tryd.prog 21 #[plV cl ad N cap ga gn gc sa sn sc, clV x sq ac a n cc] w fun e w' => e = .returned (.bool (plnB cl N ss gn G sn S && inCallB cl N x sq ac n zs)) ∧ Below w.heap.size w w' := by
  have q_0 := (BP.new w [.int .i64 cl, .slice ad N cap, .slice ga gn gc, .slice sa sn sc] 47).alloc (.cells #[.int .i64 x, .int .i64 sq, .int .i64 ac, .slice a n cc] 36)
  have y_0 := Cel.new (w.alloc (.cells #[.int .i64 cl, .slice ad N cap, .slice ga gn gc, .slice sa sn sc] 47)) [.int .i64 x, .int .i64 sq, .int .i64 ac, .slice a n cc] 36
  rw [World.size_alloc] at y_0
  cases hp : plnB cl N ss gn G sn S
  · have HP : Hid _ := hp
    clear hp
    go_enter Tryd.func21, Tryd.ntmps21
    go_wp2_with fail
    refine (splnok_any _ _ _ _ ss _ _ _ G _ _ _ S _ ((h.alloc _).alloc _)).mono ?_
    rintro e w1 ⟨rfl, b1⟩
    rw [HP.out]
    have q_1 := q_0.below b1
    go_wp2
    go_ret
    exact ⟨ret_bool (by simp), q_1.b⟩
  have pp := (pln_parts hp).1
  have pa := pln_acts hp
  have HP : Hid _ := hp
  clear hp
  go_enter Tryd.func21, Tryd.ntmps21
  go_wp2_with fail
  refine (splnok_any _ _ _ _ ss _ _ _ G _ _ _ S _ ((h.alloc _).alloc _)).mono ?_
  rintro e w1 ⟨rfl, b1⟩
  rw [HP.out]
  have q_1 := q_0.below b1
  have y_1 := y_0.below b1
  clear q_0 y_0 b1
  obtain ⟨c0, c1, c2, c3⟩ := q_1.p.quadP
  obtain ⟨d0, d1, d2, d3⟩ := y_1.quadC
  go_wp2_with fail
  refine (l6call_any _ _ _ _ _ _ _ _ _ _ _ _ _ _ _ _ zs _ (hC.below q_1.b) hn pp pa).mono ?_
  rintro e w2 ⟨rfl, b2⟩
  have q_2 := q_1.below b2
  go_wp2
  go_ret
  exact ⟨ret_bool (by simp), q_2.b⟩

set_option maxHeartbeats 1600000 in
theorem icallok_any (cl : Int) (ad : Option Addr) (N cap : Nat) (ss : List L2V) (ga : Option Addr) (gn gc : Nat) (G : List Int) (sa : Option Addr) (sn sc : Nat) (S : List Int) (x sq ac : Int) (a : Option Addr) (n cc : Nat) (zs : List Int) (w : World) (h : PlAt w ad N ss ga gn G sa sn S) (hC : Ints w a n zs) (hn : n ≤ 1048576) (hT : Lib.TabBelow Tryd.prog w.heap.size w "internal/strconv.uint64pow10" .u64 Lib.pow10Tab) :
    Calls Tryd.prog 23 #[plV cl ad N cap ga gn gc sa sn sc, clV x sq ac a n cc] w fun e w' => e = .returned (.bool (plnB cl N ss gn G sn S && inCallB cl N x sq ac n zs)) ∧ Below w.heap.size w w' := by
  have HTB : Hid _ := hT
  clear hT
  have q_0 := (BP.new w [.int .i64 cl, .slice ad N cap, .slice ga gn gc, .slice sa sn sc] 47).alloc (.cells #[.int .i64 x, .int .i64 sq, .int .i64 ac, .slice a n cc] 36)
  have y_0 := Cel.new (w.alloc (.cells #[.int .i64 cl, .slice ad N cap, .slice ga gn gc, .slice sa sn sc] 47)) [.int .i64 x, .int .i64 sq, .int .i64 ac, .slice a n cc] 36
  rw [World.size_alloc] at y_0
  cases hp : plnB cl N ss gn G sn S
  · have HP : Hid _ := hp
    clear hp
    go_enter Tryd.func23, Tryd.ntmps23
    go_wp2_with fail
    refine (iplnok_any _ _ _ _ ss _ _ _ G _ _ _ S _ ((h.alloc _).alloc _)).mono ?_
    rintro e w1 ⟨rfl, b1⟩
    rw [HP.out]
    have q_1 := q_0.below b1
    go_wp2
    go_ret
    exact ⟨ret_bool (by simp), q_1.b⟩
  have pp := (pln_parts hp).1
  have pa := pln_acts hp
  have HP : Hid _ := hp
  clear hp
  obtain ⟨x1, hx1⟩ : ∃ y, y = decide (0 ≤ x ∧ x < cl) := ⟨_, rfl⟩
  obtain ⟨x2, hx2⟩ : ∃ y, y = decide (0 ≤ ac ∧ ac < (N : Int)) := ⟨_, rfl⟩
  obtain ⟨T, hx3⟩ : ∃ y : ByteArray, y = ⟨(callText x sq ac n zs).toArray⟩ := ⟨_, rfl⟩
  have HB : Hid (inCallB cl N x sq ac n zs = (x1 && (x2 && !T.toList.isEmpty))) := by show _ = _; rw [← inCall_same pp.2 pa.2, hx1, hx2, hx3]; rfl
  have H1 : Hid _ := hx1
  have H2 : Hid _ := hx2
  have H3 : Hid _ := hx3
  clear hx1 hx2 hx3
  go_enter Tryd.func23, Tryd.ntmps23
  go_wp2_with fail
  refine (iplnok_any _ _ _ _ ss _ _ _ G _ _ _ S _ ((h.alloc _).alloc _)).mono ?_
  rintro e w1 ⟨rfl, b1⟩
  rw [HP.out]
  have q_1 := q_0.below b1
  have y_1 := y_0.below b1
  clear q_0 y_0 b1
  obtain ⟨c0, c1, c2, c3⟩ := q_1.p.quadP
  obtain ⟨d0, d1, d2, d3⟩ := y_1.quadC
  go_wp2_with fail
  refine (place_any _ _ _).mono ?_
  rintro e w2 ⟨rfl, rfl⟩
  rw [← H1.out]
  cases x1
  · go_wp2
    go_ret
    exact ⟨ret_bool (by rw [HB.out]; rfl), q_1.b⟩
  go_wp2_with fail
  refine (place_any _ _ _).mono ?_
  rintro e w2 ⟨rfl, rfl⟩
  rw [← H2.out]
  cases x2
  · go_wp2
    go_ret
    exact ⟨ret_bool (by rw [HB.out]; rfl), q_1.b⟩
  have B_1 := q_1.b
  go_wp2_with fail
  refine (ictext_any _ _ _ _ _ _ zs _ (hC.below q_1.b) hn (fun w' h' => HTB.out w' (B_1.trans (h'.mono B_1.size)))).mono ?_
  rintro e w2 ⟨rfl, b2⟩
  rw [← H3.out]
  have q_2 := q_1.below b2
  clear c0 c1 c2 c3 d0 d1 d2 d3 q_1 y_1 B_1 b2
  go_wp2
  go_ret
  exact ⟨ret_bool (by rw [HB.out]; rfl), q_2.b⟩

end Go.Proofs.YtejeffnonddfhaaDoor
