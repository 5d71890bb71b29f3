/-
  TrtBounds: what both texts answer. Lengths at most 1048576.
-/
import Derived.Test.YtmbhcngddpoonaaBounds
namespace Go.Proofs.Ytmbhcngddpoonaa
open Go.RowKit Go.Deep
set_option linter.unusedVariables false

set_option maxRecDepth 100000 in
set_option maxHeartbeats 6400000 in
theorem ibounds_any (a : Option Addr) (n cap : Nat) (c : Option Addr) (m cap' : Nat) (ad : Option Addr) (N pc : Nat) (s : Int) (e : Option Addr) (k ec : Nat) (fa : Option Addr) (fn fcap : Nat) (fc : Option Addr) (fm fcap' : Nat) (FK : Int) (u : Option Addr) (l uc : Nat) (C D E FC FD U : List Int) (ss : List IV) (w : World)
    (hC : Ints w a n C) (hD : Ints w c m D) (hE : Ints w e k E) (hA : Ints w fa fn FC) (hB : Ints w fc fm FD) (hU : Ints w u l U) (hN : ss.length = N) (hF : ISG w ad ss) (hn : n ≤ 1048576) (hm : m ≤ 1048576) (hk : k ≤ 1048576) (hfn : fn ≤ 1048576) (hfm : fm ≤ 1048576) (hl : l ≤ 1048576) (hN1 : N ≤ 1048576) :
    Calls Try.prog 28 #[treV a n cap c m cap', .slice ad N pc, .int .i64 s, .slice e k ec, formV fa fn fcap fc fm fcap' FK, .slice u l uc] w fun r w' => r = .returned (ansV (bansB n m C D ss s k E fn fm FC FD FK l U)) ∧ Below w.heap.size w w' := by
  have HN : Hid (ss.length = N) := hN
  clear hN
  have q_0 := (Cel.new w [.slice a n cap, .slice c m cap'] 27).alloc (.cells #[.slice fa fn fcap, .slice fc fm fcap', .int .i64 FK] 48)
  have f_0 := Cel.new (w.alloc (.cells #[.slice a n cap, .slice c m cap'] 27)) [.slice fa fn fcap, .slice fc fm fcap', .int .i64 FK] 48
  have B_0 := ((Below.refl w.heap.size w).alloc (Nat.le_refl _) (.cells #[.slice a n cap, .slice c m cap'] 27)).alloc (by simp) (.cells #[.slice fa fn fcap, .slice fc fm fcap', .int .i64 FK] 48)
  rw [World.size_alloc] at f_0
  have v_0 := Cel.new ((w.alloc (.cells #[.slice a n cap, .slice c m cap'] 27)).alloc (.cells #[.slice fa fn fcap, .slice fc fm fcap', .int .i64 FK] 48)) [.slice a n cap, .slice c m cap', .slice ad N pc, .int .i64 s, .slice e k ec, .slice u l uc] 77
  have q_1 := q_0.alloc (.cells #[.slice a n cap, .slice c m cap', .slice ad N pc, .int .i64 s, .slice e k ec, .slice u l uc] 77)
  have f_1 := f_0.alloc (.cells #[.slice a n cap, .slice c m cap', .slice ad N pc, .int .i64 s, .slice e k ec, .slice u l uc] 77)
  have B_1 := B_0.alloc B_0.size (.cells #[.slice a n cap, .slice c m cap', .slice ad N pc, .int .i64 s, .slice e k ec, .slice u l uc] 77)
  rw [World.size_alloc, World.size_alloc] at v_0
  clear q_0 f_0 B_0
  cases h0 : viewB n m C D ss s k E
  · go_enter Try.func28, Try.ntmps28
    go_wp2_with fail
    refine (vok_any _ _ _ _ _ _ _ _ _ _ _ _ _ _ _ _ C D E ss _ (hC.below B_1) (hD.below B_1) (hE.below B_1) HN.out (hF.below B_1) hn hm hk hN1).mono ?_
    rintro r w2 ⟨rfl, b_2⟩
    rw [h0]
    have B_2 := B_1.trans (b_2.mono B_1.size)
    have q_2 := q_1.below b_2
    have f_2 := f_1.below b_2
    have v_2 := v_0.below b_2
    clear B_1 f_1 q_1 v_0 b_2
    obtain ⟨c_q0, c_q1⟩ := q_2.two
    obtain ⟨c_f0, c_f1, c_f2⟩ := f_2.three
    obtain ⟨c_v0, c_v1, c_v2, c_v3, c_v4, c_v5⟩ := v_2.six
    go_wp2
    refine bodyPost_ret (v := .tuple #[.int .i64 0, .int .i64 0, .bool false]) (by simp [results, Try.results28, go_sem]) rfl ⟨?_, B_2⟩
    rw [bansB, if_neg (by simp [bokB, h0])]
    rfl
  cases h1 : formB fn fm FC FD FK
  · go_enter Try.func28, Try.ntmps28
    go_wp2_with fail
    refine (vok_any _ _ _ _ _ _ _ _ _ _ _ _ _ _ _ _ C D E ss _ (hC.below B_1) (hD.below B_1) (hE.below B_1) HN.out (hF.below B_1) hn hm hk hN1).mono ?_
    rintro r w2 ⟨rfl, b_2⟩
    rw [h0]
    have B_2 := B_1.trans (b_2.mono B_1.size)
    have q_2 := q_1.below b_2
    have f_2 := f_1.below b_2
    have v_2 := v_0.below b_2
    clear B_1 f_1 q_1 v_0 b_2
    obtain ⟨c_q0, c_q1⟩ := q_2.two
    obtain ⟨c_f0, c_f1, c_f2⟩ := f_2.three
    obtain ⟨c_v0, c_v1, c_v2, c_v3, c_v4, c_v5⟩ := v_2.six
    go_wp2_with fail
    refine (iok_any _ _ _ _ _ _ _ FC FD _ (hA.below B_2) (hB.below B_2) hfn hfm).mono ?_
    rintro r w3 ⟨rfl, b_3⟩
    rw [h1]
    clear c_q0 c_q1 c_f0 c_f1 c_f2 c_v0 c_v1 c_v2 c_v3 c_v4 c_v5
    have B_3 := B_2.trans (b_3.mono B_2.size)
    have q_3 := q_2.below b_3
    have f_3 := f_2.below b_3
    have v_3 := v_2.below b_3
    clear B_2 f_2 q_2 v_2 b_3
    obtain ⟨c_q0, c_q1⟩ := q_3.two
    obtain ⟨c_f0, c_f1, c_f2⟩ := f_3.three
    obtain ⟨c_v0, c_v1, c_v2, c_v3, c_v4, c_v5⟩ := v_3.six
    go_wp2
    refine bodyPost_ret (v := .tuple #[.int .i64 0, .int .i64 0, .bool false]) (by simp [results, Try.results28, go_sem]) rfl ⟨?_, B_3⟩
    rw [bansB, if_neg (by simp [bokB, h1])]
    rfl
  cases h2 : okN 2 9 l U
  · go_enter Try.func28, Try.ntmps28
    go_wp2_with fail
    refine (vok_any _ _ _ _ _ _ _ _ _ _ _ _ _ _ _ _ C D E ss _ (hC.below B_1) (hD.below B_1) (hE.below B_1) HN.out (hF.below B_1) hn hm hk hN1).mono ?_
    rintro r w2 ⟨rfl, b_2⟩
    rw [h0]
    have B_2 := B_1.trans (b_2.mono B_1.size)
    have q_2 := q_1.below b_2
    have f_2 := f_1.below b_2
    have v_2 := v_0.below b_2
    clear B_1 f_1 q_1 v_0 b_2
    obtain ⟨c_q0, c_q1⟩ := q_2.two
    obtain ⟨c_f0, c_f1, c_f2⟩ := f_2.three
    obtain ⟨c_v0, c_v1, c_v2, c_v3, c_v4, c_v5⟩ := v_2.six
    go_wp2_with fail
    refine (iok_any _ _ _ _ _ _ _ FC FD _ (hA.below B_2) (hB.below B_2) hfn hfm).mono ?_
    rintro r w3 ⟨rfl, b_3⟩
    rw [h1]
    clear c_q0 c_q1 c_f0 c_f1 c_f2 c_v0 c_v1 c_v2 c_v3 c_v4 c_v5
    have B_3 := B_2.trans (b_3.mono B_2.size)
    have q_3 := q_2.below b_3
    have f_3 := f_2.below b_3
    have v_3 := v_2.below b_3
    clear B_2 f_2 q_2 v_2 b_3
    obtain ⟨c_q0, c_q1⟩ := q_3.two
    obtain ⟨c_f0, c_f1, c_f2⟩ := f_3.three
    obtain ⟨c_v0, c_v1, c_v2, c_v3, c_v4, c_v5⟩ := v_3.six
    go_wp2_with fail
    refine (iarg_any _ _ _ U _ (hU.below B_3) hl).mono ?_
    rintro r w4 ⟨rfl, rfl⟩
    rw [h2]
    go_wp2
    refine bodyPost_ret (v := .tuple #[.int .i64 0, .int .i64 0, .bool false]) (by simp [results, Try.results28, go_sem]) rfl ⟨?_, B_3⟩
    rw [bansB, if_neg (by simp [bokB, h2])]
    rfl
  have hbo : bokB n m C D ss s k E fn fm FC FD FK l U = true := by simp [bokB, h0, h1, h2]
  obtain ⟨e1, bC, m1, m2, -, s0, s1, e2, bE, bD⟩ := viewB_elim h0
  obtain ⟨e3, e4, bA, bB, K1, K2⟩ := formB_elim h1
  obtain ⟨e5, bU⟩ := okN_elim (by omega) h2
  have e6 : l = 2 := by omega
  clear e5
  rw [bansB, if_pos hbo]
  subst e1 e2 e3 e4 e6
  have H0 : Hid _ := h0
  have H1 : Hid _ := h1
  have H2 : Hid _ := h2
  clear hbo h0 h1 h2
  go_enter Try.func28, Try.ntmps28
  go_wp2_with fail
  refine (vok_any _ _ _ _ _ _ _ _ _ _ _ _ _ _ _ _ C D E ss _ (hC.below B_1) (hD.below B_1) (hE.below B_1) HN.out (hF.below B_1) hn hm hk hN1).mono ?_
  rintro r w2 ⟨rfl, b_2⟩
  rw [H0.out]
  have B_2 := B_1.trans (b_2.mono B_1.size)
  have q_2 := q_1.below b_2
  have f_2 := f_1.below b_2
  have v_2 := v_0.below b_2
  clear B_1 f_1 q_1 v_0 b_2
  obtain ⟨c_q0, c_q1⟩ := q_2.two
  obtain ⟨c_f0, c_f1, c_f2⟩ := f_2.three
  obtain ⟨c_v0, c_v1, c_v2, c_v3, c_v4, c_v5⟩ := v_2.six
  go_wp2_with fail
  refine (iok_any _ _ _ _ _ _ _ FC FD _ (hA.below B_2) (hB.below B_2) hfn hfm).mono ?_
  rintro r w3 ⟨rfl, b_3⟩
  rw [H1.out]
  clear c_q0 c_q1 c_f0 c_f1 c_f2 c_v0 c_v1 c_v2 c_v3 c_v4 c_v5
  have B_3 := B_2.trans (b_3.mono B_2.size)
  have q_3 := q_2.below b_3
  have f_3 := f_2.below b_3
  have v_3 := v_2.below b_3
  clear B_2 f_2 q_2 v_2 b_3
  obtain ⟨c_q0, c_q1⟩ := q_3.two
  obtain ⟨c_f0, c_f1, c_f2⟩ := f_3.three
  obtain ⟨c_v0, c_v1, c_v2, c_v3, c_v4, c_v5⟩ := v_3.six
  go_wp2_with fail
  refine (iarg_any _ _ _ U _ (hU.below B_3) hl).mono ?_
  rintro r w4 ⟨rfl, rfl⟩
  rw [H2.out]
  go_wp2_with fail
  refine (vbounds_any _ _ _ _ _ _ _ _ _ _ _ _ _ _ _ _ _ _ C D E U FC FD ss _ (hC.below B_3) (hD.below B_3) (hE.below B_3) (hU.below B_3) (hA.below B_3) (hB.below B_3) HN.out (hF.below B_3) hN1 m2 bC bE bU bA bB ⟨K1, K2⟩ bD).mono ?_
  rintro r w5 ⟨x, hx, rfl, b_5⟩
  clear c_q0 c_q1 c_f0 c_f1 c_f2 c_v0 c_v1 c_v2 c_v3 c_v4 c_v5
  have B_5 := B_3.trans (b_5.mono B_3.size)
  clear B_3 f_3 q_3 v_3 b_5
  have HX : Hid _ := hx
  clear hx
  obtain ⟨x0, x1, x2⟩ := x
  go_upto_region 5 with fail
  go_quiet (fail)
  go_wp2
  refine bodyPost_ret (v := .tuple #[.int .i64 x0, .int .i64 x1, .bool x2]) (by simp [results, Try.results28, go_sem]) rfl ⟨by rw [← HX.out]; rfl, below_drewN (B_5.alloc B_5.size _) _⟩

end Go.Proofs.Ytmbhcngddpoonaa
