/-
  What happens by a line, as the program reads it. What strings.Cut, strings.Split and strconv.Atoi answer is taken as it is laid.
-/
import Derived.Test.YtmdjcfplhmkocaaDoorDeR
namespace Go.Proofs.YtmdjcfplhmkocaaDoor
open Go.RowKit Go.MapKept
set_option linter.unusedVariables false
set_option linter.unusedSimpArgs false
set_option maxRecDepth 100000

theorem evx_1 (zs : List Int) : evX [99, 97, 108, 108] zs = callL zs := rfl
theorem evx_2 (zs : List Int) : evX [116, 114, 121] zs = oneL 2 zs := rfl
theorem evx_3 (zs : List Int) : evX [100, 101, 97, 102] zs = oneL 3 zs := rfl
theorem evx_4 (zs : List Int) : evX [98, 114, 105, 110, 103] zs = oneL 4 zs := rfl
theorem evx_5 (zs : List Int) : evX [108, 111, 115, 101] zs = oneL 5 zs := rfl
theorem evx_6 (zs : List Int) : evX [116, 119, 105, 99, 101] zs = oneL 6 zs := rfl
theorem evx_7 (zs : List Int) : evX [116, 105, 99, 107] zs = bareL 7 0 zs := rfl
theorem evx_8 (zs : List Int) : evX [102, 97, 108, 108] zs = oneL 8 zs := rfl
theorem evx_9 (zs : List Int) : evX [114, 105, 115, 101] zs = oneL 9 zs := rfl
theorem evx_10 (zs : List Int) : evX [99, 108, 101, 114, 107, 102, 97, 108, 108, 115] zs = bareL 10 0 zs := rfl
theorem evx_11 (zs : List Int) : evX [99, 108, 101, 114, 107, 114, 105, 115, 101, 115] zs = bareL 10 1 zs := rfl

theorem evx_no {x : List UInt8} (h : ∀ p ∈ rdrs, p.1 ≠ x) (zs : List Int) : evX x zs = noE := by
  simp only [rdrs, List.mem_cons, List.not_mem_nil, or_false, forall_eq_or_imp, forall_eq] at h
  obtain ⟨h1, h2, h3, h4, h5, h6, h7, h8, h9, h10, h11⟩ := h
  rw [evX, if_neg (Ne.symm h1), if_neg (Ne.symm h7), if_neg (Ne.symm h10), if_neg (Ne.symm h11), if_pos]
  show kd0 x = 0
  rw [kd0, if_neg h2, kd1, if_neg h3, kd2, if_neg h4, kd3, if_neg h5, kd4, if_neg h6, kd5, if_neg (Ne.symm h8), if_neg (Ne.symm h9)]

/-- The reader of a word. -/
theorem readers {x : List UInt8} {v : Value} (hp : (x, v) ∈ rdrs) : (∃ k : Int, v = evF k ∧ ∀ (a : Option Addr) (n cap : Nat) (zs : List Int) (w : World), Ints w a n zs → n ≤ cap → n ≤ 121 → Calls Tryd.prog 28 #[.int .i64 k, .slice a n cap] w (EvP (evX x zs) w)) ∨ (v = riseF ∧ ∀ zs, evX x zs = bareL 10 1 zs) := by
  simp only [rdrs, List.mem_cons, List.not_mem_nil, or_false, Prod.mk.injEq] at hp
  rcases hp with ⟨rfl, rfl⟩ | ⟨rfl, rfl⟩ | ⟨rfl, rfl⟩ | ⟨rfl, rfl⟩ | ⟨rfl, rfl⟩ | ⟨rfl, rfl⟩ | ⟨rfl, rfl⟩ | ⟨rfl, rfl⟩ | ⟨rfl, rfl⟩ | ⟨rfl, rfl⟩ | ⟨rfl, rfl⟩
  · exact Or.inl ⟨1, rfl, fun a n cap zs w h h1 h2 => by rw [evx_1]; exact icall_any a n cap zs w h h1⟩
  · exact Or.inl ⟨2, rfl, fun a n cap zs w h h1 h2 => by rw [evx_2]; exact ione_any 2 (by omega) a n cap zs w h h1 h2⟩
  · exact Or.inl ⟨3, rfl, fun a n cap zs w h h1 h2 => by rw [evx_3]; exact ione_any 3 (by omega) a n cap zs w h h1 h2⟩
  · exact Or.inl ⟨4, rfl, fun a n cap zs w h h1 h2 => by rw [evx_4]; exact ione_any 4 (by omega) a n cap zs w h h1 h2⟩
  · exact Or.inl ⟨5, rfl, fun a n cap zs w h h1 h2 => by rw [evx_5]; exact ione_any 5 (by omega) a n cap zs w h h1 h2⟩
  · exact Or.inl ⟨6, rfl, fun a n cap zs w h h1 h2 => by rw [evx_6]; exact ione_any 6 (by omega) a n cap zs w h h1 h2⟩
  · exact Or.inl ⟨7, rfl, fun a n cap zs w h h1 h2 => by rw [evx_7]; exact ibare_any 7 (Or.inl rfl) a n cap zs w h⟩
  · exact Or.inl ⟨8, rfl, fun a n cap zs w h h1 h2 => by rw [evx_8]; exact ione_any 8 (by omega) a n cap zs w h h1 h2⟩
  · exact Or.inl ⟨9, rfl, fun a n cap zs w h h1 h2 => by rw [evx_9]; exact ione_any 9 (by omega) a n cap zs w h h1 h2⟩
  · exact Or.inl ⟨10, rfl, fun a n cap zs w h h1 h2 => by rw [evx_10]; exact ibare_any 10 (Or.inr rfl) a n cap zs w h⟩
  · exact Or.inr ⟨rfl, evx_11⟩
theorem splits_below {w w' : World} (h : Splits w) (b : Below w.heap.size w w') : Splits w' := fun W hW => h W (b.trans (hW.mono b.size))
theorem rdrs_one {x : List UInt8} {v : Value} (h : (x, v) ∈ rdrs) : ∀ p ∈ rdrs, p.1 = x → p.2 = v := by
  have hn : (rdrs.map Prod.fst).Nodup := by decide
  have one : ∀ (L : List (List UInt8 × Value)), (L.map Prod.fst).Nodup → (x, v) ∈ L → ∀ p ∈ L, p.1 = x → p.2 = v := by
    intro L
    induction L with
    | nil => intro _ h; exact absurd h (by simp)
    | cons b t ih =>
      intro hn h p hp e
      rw [List.map_cons, List.nodup_cons] at hn
      rcases List.mem_cons.1 h with h | h
      · rcases List.mem_cons.1 hp with hp | hp
        · rw [hp, ← h]
        · exact absurd (List.mem_map.2 ⟨p, hp, by rw [e, ← h]⟩) hn.1
      · rcases List.mem_cons.1 hp with hp | hp
        · exact absurd (List.mem_map.2 ⟨(x, v), h, by rw [← hp, e]⟩) hn.1
        · exact ih hn.2 h p hp e
  exact one rdrs hn h
theorem line_few {l : List UInt8} {zs : List Int} (h : lineN l = some zs) : zs.length ≤ 121 := by
  rw [lineN] at h
  split at h
  · rename_i hl
    have h1 := nmS_len h
    have h2 := wordsF_len l []
    rw [List.length_drop] at h1
    have : (wordsOf l).length ≤ l.length + 1 := h2
    omega
  · cases h

set_option maxHeartbeats 6400000 in
theorem idsk_any (l : List UInt8) (w : World) (hl : l.length ≤ 1048576) (hC : CutsB w) (hA : ReadsN w) (hSp : Splits w) (hT : Lib.TabBelow Tryd.prog w.heap.size w "internal/strconv.uint64pow10" .u64 Lib.pow10Tab) : Calls Tryd.prog 6 #[.string ⟨l.toArray⟩] w (EvP (evL l) w) := by
  have HC : Hid _ := hC
  have HA : Hid _ := hA
  have HP : Hid _ := hSp
  have HT : Hid (∀ W, Below w.heap.size w W → Lib.TabBelow Tryd.prog W.heap.size W "internal/strconv.uint64pow10" .u64 Lib.pow10Tab) := fun W b w' h => hT w' (b.trans (h.mono b.size))
  clear hC hA hSp hT
  have r0 := Cel.new w [.int .i64 0, .int .i64 0, .int .i64 0, .slice none 0 0] 26
  have B0 : Below w.heap.size w (w.alloc (.cells #[.int .i64 0, .int .i64 0, .int .i64 0, .slice none 0 0] 26)) := (Below.refl _ _).alloc (Nat.le_refl _) _
  go_enter Tryd.func6, Tryd.ntmps6
  go_wp2_with fail
  refine (irdrs_any _).mono ?_
  rintro e W1 ⟨mb, rfl, m1, b1⟩
  have r1 := r0.below b1
  have B1 := B0.trans (b1.mono B0.size)
  clear r0 B0 b1
  go_wp2_with fail
  refine (ifirst_any l W1 hl (CutsB.below HC.out B1)).mono ?_
  rintro e W2 ⟨rfl, b2⟩
  have m2 := m1.below b2
  have r2 := r1.below b2
  have B2 := B1.trans (b2.mono B1.size)
  clear r1 m1 b2 B1
  rw [cut_first]
  obtain ⟨x, hx⟩ : ∃ x, (wordsOf l).headD [] = x := ⟨_, rfl⟩
  rw [hx]
  have HE : Hid (∀ zs, lineN l = some zs → evL l = evX x zs) := fun zs h => by rw [evL_some h, hx]
  clear hx
  go_wp2_with fail
  by_cases hw : ∃ p ∈ rdrs, p.1 = x
  · obtain ⟨⟨y, v⟩, hp, rfl⟩ := hw
    rw [look_yes y m2 (v := v) (rdrs_one hp) ⟨_, hp, rfl⟩]
    have HV := readers hp
    clear m2 hp
    go_wp2_with fail
    refine (inol_any l W2 hl (ReadsN.below HA.out B2) (splits_below HP.out B2) (HT.out W2 B2)).mono ?_
    rintro e W3 ⟨nv, xs, ok, rfl, j3, hok, hnok⟩
    obtain ⟨a, cap, rfl, hcap, hI, -⟩ := j3.ints
    have r3 := r2.below j3.b
    have B3 := B2.trans (j3.b.mono B2.size)
    have g0 := r3.cell 0
    have g1 := r3.cell 1
    have g2 := r3.cell 2
    have g3 := r3.cell 3
    have k0 := r3.free 0
    have k1 := r3.free 1
    have k2 := r3.free 2
    have k3 := r3.free 3
    simp only [List.getElem?_cons_zero, List.getElem?_cons_succ] at g0 g1 g2 g3
    clear j3 r2 B2
    cases ok with
    | false =>
      have HX : Hid (evL l = noE) := evL_none (hnok rfl)
      clear hok hnok hI HV
      have bz := below_put4 B3 (Nat.le_refl _) (.int .i64 0) (.int .i64 0) (.int .i64 0) (.slice none 0 0)
      have dz := r3.put4 (.int .i64 0) (.int .i64 0) (.int .i64 0) (.slice none 0 0)
      have z0 := dz.cell 0
      have z1 := dz.cell 1
      have z2 := dz.cell 2
      have z3 := dz.cell 3
      simp only [List.getElem?_cons_zero, List.getElem?_cons_succ] at z0 z1 z2 z3
      go_wp2
      all_goals rw [HX.out]
      all_goals exact bodyPost_ret (v := .tuple #[evV 0 0 0 none 0 0, .bool false]) (by simp [results, Tryd.results6, go_sem, z0, z1, z2, z3]) rfl (EvP.no bz)
    | true =>
      have HX : Hid (evL l = evX y xs) := HE.out xs (hok rfl)
      have hq := line_few (hok rfl)
      obtain ⟨q, hqq⟩ : ∃ q, xs.length = q := ⟨_, rfl⟩
      rw [hqq] at hcap hI hq ⊢
      have HI : Hid _ := hI
      clear hok hnok hqq hI
      rcases HV with ⟨k, rfl, hv⟩ | ⟨rfl, hv⟩
      · have HV : Hid _ := hv a q cap xs W3 HI.out hcap hq
        clear hv hcap hq g0 g1 g2 g3 k0 k1 k2 k3
        go_wp2_with fail
        refine Calls.mono HV.out ?_
        rintro e W4 ⟨a4, n4, c4, rfl, hn4, j4⟩
        have r4 := r3.below j4.b
        have B4 := B3.trans (j4.b.mono B3.size)
        have f0 := r4.cell 0
        have f1 := r4.cell 1
        have f2 := r4.cell 2
        have f3 := r4.cell 3
        have m0 := r4.free 0
        have m1 := r4.free 1
        have m2 := r4.free 2
        have m3 := r4.free 3
        simp only [List.getElem?_cons_zero, List.getElem?_cons_succ] at f0 f1 f2 f3
        obtain ⟨R, hR⟩ : ∃ R : EvR, R = evX y xs := ⟨_, rfl⟩
        rw [← hR] at hn4 j4 ⊢
        obtain ⟨rk, rt, rc, ra, ro⟩ := R
        have HRR : Hid (evL l = (rk, rt, rc, ra, ro)) := by show _ = _; rw [HX.out, hR]
        have HN4 : Hid (ra.length = n4) := hn4
        have d := r4.put4 (.int .i64 rk) (.int .i64 rt) (.int .i64 rc) (.slice a4 n4 c4)
        have d0 := d.cell 0
        have d1 := d.cell 1
        have d2 := d.cell 2
        have d3 := d.cell 3
        simp only [List.getElem?_cons_zero, List.getElem?_cons_succ] at d0 d1 d2 d3
        have bd := below_put4 B4 (Nat.le_refl _) (.int .i64 rk) (.int .i64 rt) (.int .i64 rc) (.slice a4 n4 c4)
        have OD := own_weak (own_put4 j4.o (show w.heap.size < W3.heap.size from r3.lt) (.int .i64 rk) (.int .i64 rt) (.int .i64 rc) (.slice a4 n4 c4)) B3.size
        clear hR hn4 j4 HX
        go_wp2
        rw [HRR.out]
        exact bodyPost_ret (v := .tuple #[evV rk rt rc a4 n4 c4, .bool ro]) (by simp [results, Tryd.results6, go_sem, d0, d1, d2, d3]) rfl ⟨a4, n4, c4, rfl, HN4.out, ⟨bd, OD⟩⟩
      · have HX2 : Hid (evL l = bareL 10 1 xs) := by show _ = _; rw [HX.out, hv]
        clear hv hcap hq g0 g1 g2 g3 k0 k1 k2 k3
        go_wp2_with fail
        refine (irise_any a q cap xs W3 HI.out).mono ?_
        rintro e W4 ⟨a4, n4, c4, rfl, hn4, j4⟩
        have r4 := r3.below j4.b
        have B4 := B3.trans (j4.b.mono B3.size)
        have f0 := r4.cell 0
        have f1 := r4.cell 1
        have f2 := r4.cell 2
        have f3 := r4.cell 3
        have m0 := r4.free 0
        have m1 := r4.free 1
        have m2 := r4.free 2
        have m3 := r4.free 3
        simp only [List.getElem?_cons_zero, List.getElem?_cons_succ] at f0 f1 f2 f3
        obtain ⟨R, hR⟩ : ∃ R : EvR, R = bareL 10 1 xs := ⟨_, rfl⟩
        rw [← hR] at hn4 j4 ⊢
        obtain ⟨rk, rt, rc, ra, ro⟩ := R
        have HRR : Hid (evL l = (rk, rt, rc, ra, ro)) := by show _ = _; rw [HX2.out, hR]
        have HN4 : Hid (ra.length = n4) := hn4
        have d := r4.put4 (.int .i64 rk) (.int .i64 rt) (.int .i64 rc) (.slice a4 n4 c4)
        have d0 := d.cell 0
        have d1 := d.cell 1
        have d2 := d.cell 2
        have d3 := d.cell 3
        simp only [List.getElem?_cons_zero, List.getElem?_cons_succ] at d0 d1 d2 d3
        have bd := below_put4 B4 (Nat.le_refl _) (.int .i64 rk) (.int .i64 rt) (.int .i64 rc) (.slice a4 n4 c4)
        have OD := own_weak (own_put4 j4.o (show w.heap.size < W3.heap.size from r3.lt) (.int .i64 rk) (.int .i64 rt) (.int .i64 rc) (.slice a4 n4 c4)) B3.size
        clear hR hn4 j4 HX HX2
        go_wp2
        rw [HRR.out]
        exact bodyPost_ret (v := .tuple #[evV rk rt rc a4 n4 c4, .bool ro]) (by simp [results, Tryd.results6, go_sem, d0, d1, d2, d3]) rfl ⟨a4, n4, c4, rfl, HN4.out, ⟨bd, OD⟩⟩
  · have hno : ∀ p ∈ rdrs, p.1 ≠ x := fun p hp e => hw ⟨p, hp, e⟩
    rw [look_no x m2 hno (z := .nilFunc) rfl]
    have HNO : Hid (∀ zs, evX x zs = noE) := evx_no hno
    clear hw hno m2
    go_wp2_with fail
    refine (inol_any l W2 hl (ReadsN.below HA.out B2) (splits_below HP.out B2) (HT.out W2 B2)).mono ?_
    rintro e W3 ⟨nv, xs, ok, rfl, j3, hok, hnok⟩
    obtain ⟨a, cap, rfl, hcap, hI, -⟩ := j3.ints
    have r3 := r2.below j3.b
    have B3 := B2.trans (j3.b.mono B2.size)
    have g0 := r3.cell 0
    have g1 := r3.cell 1
    have g2 := r3.cell 2
    have g3 := r3.cell 3
    have k0 := r3.free 0
    have k1 := r3.free 1
    have k2 := r3.free 2
    have k3 := r3.free 3
    simp only [List.getElem?_cons_zero, List.getElem?_cons_succ] at g0 g1 g2 g3
    have HX : Hid (evL l = noE) := by
      show _ = _
      cases ok with
      | false => exact evL_none (hnok rfl)
      | true => rw [HE.out xs (hok rfl), HNO.out]
    clear hok hnok hI j3 r2 B2
    have bz := below_put4 B3 (Nat.le_refl _) (.int .i64 0) (.int .i64 0) (.int .i64 0) (.slice none 0 0)
    have dz := r3.put4 (.int .i64 0) (.int .i64 0) (.int .i64 0) (.slice none 0 0)
    have z0 := dz.cell 0
    have z1 := dz.cell 1
    have z2 := dz.cell 2
    have z3 := dz.cell 3
    simp only [List.getElem?_cons_zero, List.getElem?_cons_succ] at z0 z1 z2 z3
    go_wp2
    all_goals rw [HX.out]
    all_goals exact bodyPost_ret (v := .tuple #[evV 0 0 0 none 0 0, .bool false]) (by simp [results, Tryd.results6, go_sem, z0, z1, z2, z3]) rfl (EvP.no bz)

end Go.Proofs.YtmdjcfplhmkocaaDoor
