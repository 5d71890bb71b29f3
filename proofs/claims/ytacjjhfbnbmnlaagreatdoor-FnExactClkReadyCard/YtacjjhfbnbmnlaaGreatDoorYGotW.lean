/-
  Whether what sites have told is ok, who has told, and whether calls that wait are ok: over plain lists, and the small functions of both texts. Lengths at most 1048576.
-/
import Derived.Test.YtacjjhfbnbmnlaaGreatDoorYIkeep
import Derived.Test.YtacjjhfbnbmnlaaGreatDoorYClkP
import Derived.Test.YtacjjhfbnbmnlaaGreatDoorYCallOkW
namespace Go.Proofs.YtacjjhfbnbmnlaaGreatDoor
open Go.RowKit Go.Deep
set_option linter.unusedVariables false
set_option maxRecDepth 100000

theorem pln_catC {cl : Int} {N : Nat} {ss : List L2V} {gn : Nat} {G : List Int} {sn : Nat} {S : List Int} (h : plnB cl N ss gn G sn S = true) : catB N ss = true := by
  simp only [plnB, Bool.and_eq_true] at h
  exact h.2.1
/-- Numbers of clients are ok. -/
def seqsB (cl : Int) (n : Nat) (zs : List Int) : Bool := decide ((n : Int) = cl) && betB 0 300 zs
theorem seqs_not {cl : Int} {n : Nat} {zs : List Int} (h : ¬ (n : Int) = cl) : seqsB cl n zs = false := by simp [seqsB, h]
theorem seqs_is {cl : Int} {n : Nat} {zs : List Int} (h : (n : Int) = cl) : seqsB cl n zs = betB 0 300 zs := by simp [seqsB, h]
/-- What a site has told is ok. -/
def gotP (cl : Int) (gn bn : Nat) (bx G : List Int) (T : List (List Int)) (R : Nat → Bool) (i : Nat) (f : GV) : Bool :=
  if f.h = true then keepT bn gn bx G T i f.t.n f.t.x && (stillB R f.t.x && seqsB cl f.u.n f.u.x) else decide (f.t.n = 0) && decide (f.u.n = 0)
def gotsTo (cl : Int) (gn bn : Nat) (bx G : List Int) (T : List (List Int)) (R : Nat → Bool) (fs : List GV) (k : Nat) : Bool := (List.range k).all fun i => gotP cl gn bn bx G T R i (fs[i]?.getD noG)
def gotsB (cl : Int) (gn bn : Nat) (bx G : List Int) (T : List (List Int)) (R : Nat → Bool) (en : Nat) (fs : List GV) : Bool := decide (en = gn) && gotsTo cl gn bn bx G T R fs en
theorem range_go {P : Nat → Bool} {k : Nat} (h : (List.range k).all P = true) (h1 : P k = true) : (List.range (k + 1)).all P = true := by
  rw [List.range_succ, List.all_append, h]; simp [h1]
theorem range_no {P : Nat → Bool} {k n : Nat} (h : k < n) (h1 : P k = false) : (List.range n).all P = false := by
  rw [List.all_eq_false]
  exact ⟨k, by simpa using h, by simp [h1]⟩
theorem got_yes {cl : Int} {gn bn : Nat} {bx G : List Int} {T : List (List Int)} {R : Nat → Bool} {i : Nat} {t u : IV} : gotP cl gn bn bx G T R i ⟨true, t, u⟩ = (keepT bn gn bx G T i t.n t.x && (stillB R t.x && seqsB cl u.n u.x)) := by rw [gotP, if_pos rfl]
theorem got_no {cl : Int} {gn bn : Nat} {bx G : List Int} {T : List (List Int)} {R : Nat → Bool} {i : Nat} {t u : IV} : gotP cl gn bn bx G T R i ⟨false, t, u⟩ = (decide (t.n = 0) && decide (u.n = 0)) := by rw [gotP, if_neg (by simp)]
theorem map_list {α β : Type} (d : α) (f : α → β) {xs ys : List α} (hl : ys.length = xs.length) (h : ∀ i, i < ys.length → f (ys[i]?.getD d) = f (xs[i]?.getD d)) : ys.map f = xs.map f := by
  apply List.ext_getElem?
  intro i
  by_cases hi : i < ys.length
  · have e := h i hi
    rw [List.getElem?_eq_getElem hi, List.getElem?_eq_getElem (by omega)] at e
    simp only [Option.getD_some] at e
    rw [List.getElem?_map, List.getElem?_map, List.getElem?_eq_getElem hi, List.getElem?_eq_getElem (by omega)]
    simp [e]
  · rw [List.getElem?_eq_none (by simp; omega), List.getElem?_eq_none (by simp; omega)]
theorem range_same {P Q : Nat → Bool} {n : Nat} (h : ∀ i, i < n → P i = Q i) : (List.range n).all P = (List.range n).all Q := by
  induction n with
  | zero => rfl
  | succ n ih =>
    rw [List.range_succ, List.all_append, List.all_append, ih (fun i hi => h i (by omega))]
    simp [h n (by omega)]
theorem gots_copy {cl : Int} {gn bn : Nat} {bx G : List Int} {T : List (List Int)} {R : Nat → Bool} {en : Nat} {fs gs : List GV} (hl : gs.length = en) (h : copiesGS fs gs) : gotsB cl gn bn bx G T R en gs = gotsB cl gn bn bx G T R en fs := by
  rw [gotsB, gotsB, gotsTo, gotsTo, range_same (fun i hi => ?_)]
  obtain ⟨e1, ⟨e2, e3⟩, ⟨e4, e5⟩, -⟩ := h i (by omega)
  rw [gotP, gotP, e1, e2, e3, e4, e5]
theorem same_copyG {fs gs hs : List GV} {N : Nat} (h1 : gs.length = N) (h2 : hs.length = N) (c1 : copiesGS fs gs) (c2 : copiesGS fs hs) : ∀ i, i < N → sameG (gs[i]?.getD noG) (hs[i]?.getD noG) := fun i hi => by
  obtain ⟨a1, a2, a3, -⟩ := c1 i (by omega)
  obtain ⟨b1, b2, b3, -⟩ := c2 i (by omega)
  exact ⟨by rw [a1, b1], by show _ = _; rw [a2.2, b2.2], by show _ = _; rw [a3.2, b3.2], trivial⟩
theorem same_copyQ {fs gs hs : List QV} {N : Nat} (h1 : gs.length = N) (h2 : hs.length = N) (c1 : copiesQS fs gs) (c2 : copiesQS fs hs) : ∀ i, i < N → sameQ (gs[i]?.getD noQ) (hs[i]?.getD noQ) := fun i hi => by
  obtain ⟨a1, a2, a3, a4, -⟩ := c1 i (by omega)
  obtain ⟨b1, b2, b3, b4, -⟩ := c2 i (by omega)
  exact ⟨by rw [a1, b1], by rw [a2, b2], by rw [a3, b3], by show _ = _; rw [a4.2, b4.2], trivial⟩
/-- How many have told. -/
def hasN (fs : List GV) : Nat := fs.countP GV.h
def hasAll (fs : List GV) : Bool := fs.all GV.h
theorem hasN_copy {fs gs : List GV} (hl : gs.length = fs.length) (h : copiesGS fs gs) : hasN gs = hasN fs := by
  have e : ∀ xs : List GV, hasN xs = (xs.map GV.h).countP id := fun xs => by rw [hasN, List.countP_map]; rfl
  rw [e, e, map_list noG GV.h hl (fun i hi => (h i hi).1)]
theorem hasAll_copy {fs gs : List GV} (hl : gs.length = fs.length) (h : copiesGS fs gs) : hasAll gs = hasAll fs := by
  have e : ∀ xs : List GV, hasAll xs = (xs.map GV.h).all id := fun xs => by simp [hasAll, List.all_map]
  rw [e, e, map_list noG GV.h hl (fun i hi => (h i hi).1)]
theorem has_snoc {fs : List GV} {k : Nat} (h : k < fs.length) : hasN (fs.take (k + 1)) = hasN (fs.take k) + (if (fs[k]?.getD noG).h = true then 1 else 0) := by
  rw [hasN, hasN, List.take_succ_eq_append_getElem h, List.countP_append, List.getElem?_eq_getElem h]
  simp [List.countP_cons]
theorem has_le (fs : List GV) : hasN fs ≤ fs.length := List.countP_le_length
theorem has_all {fs : List GV} {gn : Nat} (h : fs.length = gn) : decide ((hasN fs : Int) = (gn : Int)) = hasAll fs := by
  rw [hasAll]
  cases hh : fs.all GV.h
  · have : ¬ hasN fs = fs.length := fun e => by
      rw [hasN, List.countP_eq_length] at e
      rw [List.all_eq_false] at hh
      obtain ⟨x, hx, hn⟩ := hh
      exact hn (e x hx)
    simp; omega
  · have : hasN fs = fs.length := by
      rw [hasN, List.countP_eq_length]
      rw [List.all_eq_true] at hh
      exact hh
    simp; omega
theorem has_none {fs : List GV} {k : Nat} (h : k < fs.length) (h1 : (fs[k]?.getD noG).h = true) : hasN fs ≠ 0 := fun e => by
  rw [hasN, List.countP_eq_zero] at e
  rw [List.getElem?_eq_getElem h] at h1
  exact e _ (List.getElem_mem h) h1
/-- A call that waits is ok behind those ahead of it. -/
def wantP (cl : Int) (N : Nat) (fs : List QV) (k : Nat) : Bool := inCallB cl N (fs[k]?.getD noQ).x (fs[k]?.getD noQ).q (fs[k]?.getD noQ).c (fs[k]?.getD noQ).t.n (fs[k]?.getD noQ).t.x && decide (k = 0 ∨ (fs[k - 1]?.getD noQ).x < (fs[k]?.getD noQ).x)
def wantsB (cl : Int) (N kn : Nat) (fs : List QV) : Bool := (List.range kn).all (wantP cl N fs)
theorem wants_copy {cl : Int} {N kn : Nat} {fs gs : List QV} (hl : gs.length = kn) (h : copiesQS fs gs) : wantsB cl N kn gs = wantsB cl N kn fs := by
  refine range_same (fun i hi => ?_)
  obtain ⟨e1, e2, e3, ⟨e4, e5⟩, -⟩ := h i (by omega)
  obtain ⟨d1, -⟩ := h (i - 1) (by omega)
  rw [wantP, wantP, e1, e2, e3, e4, e5, d1]
/-- A clerk is ok, of a plan that is, with these parts and pins. -/
def clerkB (cl : Int) (N gn : Nat) (G : List Int) (T : List (List Int)) (R : Nat → Bool) (u : Bool) (r : Int) (bn : Nat) (bx : List Int) (dn : Nat) (dx : List DV) (kn : Nat) (kx : List QV) (en : Nat) (ex : List GV) : Bool :=
  inB r 0 200 && (okN 3 10000 bn bx && (donesB cl dn dx && (wantsB cl N kn kx && (gotsB cl gn bn bx G T R en ex && (u || (decide (kn = 0) && decide (hasN ex = 0)))))))
def clkB (cl : Int) (N : Nat) (ss : List L2V) (gn : Nat) (G : List Int) (sn : Nat) (S : List Int) (u : Bool) (r : Int) (bn : Nat) (bx : List Int) (dn : Nat) (dx : List DV) (kn : Nat) (kx : List QV) (en : Nat) (ex : List GV) : Bool :=
  plnB cl N ss gn G sn S && clerkB cl N gn G (catP ss) (pinsA ss) u r bn bx dn dx kn kx en ex
theorem clkB_copy {cl : Int} {N : Nat} {ss ts : List L2V} {gn : Nat} {G : List Int} {sn : Nat} {S : List Int} {u : Bool} {r : Int} {bn : Nat} {bx : List Int} {dn : Nat} {dx dy : List DV} {kn : Nat} {kx ky : List QV} {en : Nat} {ex ey : List GV} (h1 : ts.length = ss.length) (h2 : copiesL2S ss ts) (h3 : dy.length = dx.length) (h4 : copiesDS dx dy) (h5 : ky.length = kn) (h6 : copiesQS kx ky) (h7 : ey.length = en) (h8 : ex.length = en) (h9 : copiesGS ex ey) :
    clkB cl N ts gn G sn S u r bn bx dn dy kn ky en ey = clkB cl N ss gn G sn S u r bn bx dn dx kn kx en ex := by
  rw [clkB, clkB, clerkB, clerkB, plnB, plnB, copies_catP h1 h2, catP_copies h1 h2, pins_copies h1 h2, dones_copy h3 h4, wants_copy h5 h6, gots_copy h7 h9, hasN_copy (by omega) h9]

theorem iroundC_any (r : Int) (w : World) : Calls Tryz.prog 49 #[.int .i64 r] w fun e w' => e = .returned (.bool (inB r 0 200)) ∧ Below w.heap.size w w' := by
  go_enter Tryz.func49, Tryz.ntmps49
  go_wp2_with fail
  refine (between_any _ _ _ [r] _ _ _ (one_ints w r 3) (by omega)).mono ?_
  rintro e w1 ⟨rfl, rfl⟩
  go_wp2
  go_ret
  exact ⟨ret_bool (bet_one _ _ _), (Below.refl _ _).alloc (Nat.le_refl _) _⟩

set_option maxHeartbeats 800000 in
theorem sseqs_any (cl : Int) (ad : Option Addr) (N cap : Nat) (ga : Option Addr) (gn gc : Nat) (sa : Option Addr) (sn sc : Nat) (a : Option Addr) (n cc : Nat) (zs : List Int) (w : World) (h : Ints w a n zs) (hn : n ≤ 1048576) :
    Calls Tryz.prog 161 #[plV cl ad N cap ga gn gc sa sn sc, .slice a n cc] w fun e w' => e = .returned (.bool (seqsB cl n zs)) ∧ Below w.heap.size w w' := by
  have HZ : Hid (zs.length = n) := h.1
  have B0 := (Below.refl w.heap.size w).alloc (Nat.le_refl _) (.cells #[.int .i64 cl, .slice ad N cap, .slice ga gn gc, .slice sa sn sc] 34)
  by_cases hc : (n : Int) = cl
  · have hc' : ((n : Int) != cl) = false := by simpa using hc
    have HC : Hid _ := hc
    clear hc
    go_enter Tryz.func161, Tryz.ntmps161
    go_wp2_with fail
    obtain ⟨W0, hW0⟩ : ∃ W, W = w.alloc (.cells #[.int .i64 cl, .slice ad N cap, .slice ga gn gc, .slice sa sn sc] 34) := ⟨_, rfl⟩
    rw [← hW0] at B0 ⊢
    clear hW0
    have h' := h.below B0
    clear h
    go_loop [5] (fun i => ∃ k : Nat, k ≤ n ∧ i = .int .i64 k ∧ betB 0 300 (zs.take k) = true) (fun i => n - (intOf i).toNat)
    case atStart => exact ⟨0, Nat.zero_le _, rfl, rfl⟩
    case round =>
      obtain ⟨k, hk, rfl, hall⟩ := hrel
      have HA : Hid _ := hall
      clear hall
      by_cases hlt : k < n
      · obtain ⟨b, off, rfl, hcell⟩ := h'.pos (by omega)
        have hck := hcell k hlt
        have hlt' : (k : Int) < (n : Int) := by omega
        clear hcell
        cases hin : inB (zs[k]?.getD 0) 0 300
        · go_wp2_with (go_at_call 42; refine (in_any _ _ _ _).mono ?_; rintro e w' ⟨rfl, rfl⟩)
          go_ret
          exact ⟨ret_bool (by rw [seqs_is HC.out, betB_false (by rw [HZ.out]; exact hlt) hin]), B0⟩
        · go_wp2_with (go_at_call 42; refine (in_any _ _ _ _).mono ?_; rintro e w' ⟨rfl, rfl⟩)
          go_round
          case rel => exact ⟨k + 1, by omega, by go_num, betB_step (by rw [HZ.out]; exact hlt) HA.out hin⟩
          case measure => simp [intOf]; omega
      · go_wp2
        go_ret
        exact ⟨ret_bool (by rw [seqs_is HC.out, betB_end (by rw [HZ.out]; omega) HA.out]), B0⟩
  · have hc' : ((n : Int) != cl) = true := by simpa using hc
    go_enter Tryz.func161, Tryz.ntmps161
    go_wp2
    go_ret
    exact ⟨ret_bool (by rw [seqs_not hc]), B0⟩

set_option maxHeartbeats 800000 in
theorem iseqs_any (cl : Int) (ad : Option Addr) (N cap : Nat) (ga : Option Addr) (gn gc : Nat) (sa : Option Addr) (sn sc : Nat) (a : Option Addr) (n cc : Nat) (zs : List Int) (w : World) (h : Ints w a n zs) (hn : n ≤ 1048576) :
    Calls Tryz.prog 123 #[plV cl ad N cap ga gn gc sa sn sc, .slice a n cc] w fun e w' => e = .returned (.bool (seqsB cl n zs)) ∧ Below w.heap.size w w' := by
  have B0 := (Below.refl w.heap.size w).alloc (Nat.le_refl _) (.cells #[.int .i64 cl, .slice ad N cap, .slice ga gn gc, .slice sa sn sc] 34)
  by_cases hc : (n : Int) = cl
  · have hc' : ((n : Int) == cl) = true := by simpa using hc
    have HC : Hid _ := hc
    clear hc
    go_enter Tryz.func123, Tryz.ntmps123
    go_wp2_with fail
    refine (between_any _ _ _ zs _ _ _ (h.below B0) hn).mono ?_
    rintro e w1 ⟨rfl, rfl⟩
    go_wp2
    go_ret
    exact ⟨ret_bool (by rw [seqs_is HC.out]), B0⟩
  · have hc' : ((n : Int) == cl) = false := by simpa using hc
    go_enter Tryz.func123, Tryz.ntmps123
    go_wp2
    go_ret
    exact ⟨ret_bool (by rw [seqs_not hc]), B0⟩

set_option maxHeartbeats 800000 in
theorem inone_any (h : Bool) (ta : Option Addr) (tn tc : Nat) (ua : Option Addr) (un uc : Nat) (w : World) :
    Calls Tryz.prog 124 #[gtV h ta tn tc ua un uc] w fun e w' => e = .returned (.bool (!h && (decide (tn = 0) && decide (un = 0)))) ∧ Below w.heap.size w w' := by
  have B0 := (Below.refl w.heap.size w).alloc (Nat.le_refl _) (.cells #[.bool h, .slice ta tn tc, .slice ua un uc] 159)
  cases h
  · by_cases h1 : tn = 0
    · subst h1
      have e2 : ((un : Int) == 0) = decide (un = 0) := by by_cases hn : un = 0 <;> simp [hn]
      go_enter Tryz.func124, Tryz.ntmps124
      go_wp2
      go_ret
      exact ⟨ret_bool (by simp), B0⟩
    · have h1' : ((tn : Int) == 0) = false := by simp; omega
      go_enter Tryz.func124, Tryz.ntmps124
      go_wp2
      go_ret
      exact ⟨ret_bool (by simp [h1]), B0⟩
  · go_enter Tryz.func124, Tryz.ntmps124
    go_wp2
    go_ret
    exact ⟨ret_bool (by simp), B0⟩

end Go.Proofs.YtacjjhfbnbmnlaaGreatDoor
