/-
  What an act's ways tell of, or add by (spec.CatReads). Length at most 1048576.
-/
import Derived.Test.YtjggppnffkcmbaaReads
import Derived.Test.YtjggppnffkcmbaaWayA
namespace Go.Proofs.Ytjggppnffkcmbaa
open Go.RowKit Go.Deep
set_option linter.unusedVariables false
set_option maxRecDepth 100000

/-- No number of a row is too great. -/
structure RowFit (r : RowM) : Prop where
  g : ∀ k, k < r.guards.length → fitX 10000000 (r.guards[k]?.getD ([], [], 0))
  a : ∀ k, k < r.adds.length → fitX 10000000 (r.adds[k]?.getD ([], [], 0))
  t : ∀ k, k < r.tells.length → fitX 10000000 (r.tells[k]?.getD ([], [], 0))
  lg : r.guards.length ≤ 1000
  la : r.adds.length ≤ 3
  lt : r.tells.length ≤ 1000
theorem endW_fit {i : Nat} {y : Way} (h : WayOk i y) (hi : i ≤ 1000) : RowFit (endW y) := by
  refine ⟨fun k hk => h.gf k hk, fun k hk => ?_, fun k hk => h.tf k hk, ?_, ?_, ?_⟩
  · have hk3 : k < 3 := by
      have : (endW y).adds.length = 3 := by simp [endW]
      omega
    have e : (endW y).adds[k]?.getD ([], [], 0) = lessX (y.pots[k]?.getD noX) k := by
      rw [show (endW y).adds = (List.range 3).map (fun v => lessX (y.pots[v]?.getD noX) v) from rfl, List.getElem?_map, List.getElem?_range hk3]
      rfl
    rw [e, ← plus_neg]
    have h1 := h.pf k hk3
    have h6 := wb_six (n := min i 6) (by omega)
    have hp := wb_pos (min i 6)
    exact (plusX_fit h1 (negX_fit hk3) (by omega)).mono (by omega)
  · show y.guards.length ≤ 1000; have := h.gl; omega
  · simp [endW]
  · show y.tells.length ≤ 1000; have := h.tl; omega
theorem stopW_fit {i : Nat} {y : Way} (h : WayOk i y) (hi : i ≤ 1000) : RowFit (stopW y) :=
  ⟨fun k hk => h.gf k hk, fun k hk => by simp [stopW] at hk, fun k hk => by simp [stopW] at hk, by show y.guards.length ≤ 1000; have := h.gl; omega, by simp [stopW], by simp [stopW]⟩
theorem goW_fit {ls : List LV} (h6 : ls.length ≤ 6) (hall : ls.all LV.ok = true) (hD : ∀ k, k < ls.length → (ls[k]?.getD noLV).f.D.length = (ls[k]?.getD noLV).f.m) (f : Nat) : ∀ (i : Nat) (y : Way), i ≤ 12 + 7 * (7 - f) → f ≤ 7 → WayOk i y → ∀ r ∈ goW ls f i y, RowFit r := by
  induction f with
  | zero => intro i y hi _ h r hr; simp only [goW, List.mem_cons, List.not_mem_nil, or_false] at hr; subst hr; exact endW_fit h (by omega)
  | succ f ih =>
    intro i y hi hf7 h r hr
    rw [goW] at hr
    by_cases hl : i < ls.length
    · rw [if_pos hl] at hr
      have hok : (ls[i]?.getD noLV).ok = true := by
        rw [List.getElem?_eq_getElem hl]
        exact List.all_eq_true.1 hall _ (List.getElem_mem hl)
      have hDD := hD i hl
      generalize ls[i]?.getD noLV = q at *
      by_cases hk4 : q.kind = 4
      · rw [if_neg (by omega), if_neg (by omega), if_neg (by omega)] at hr
        simp only [List.mem_cons, List.not_mem_nil, or_false] at hr
        subst hr
        exact stopW_fit h (by omega)
      · obtain ⟨hsm, hkk, hz, hp⟩ := lineW (show lineB q.kind q.pot q.skip q.f.n q.f.m q.f.C q.f.D q.f.K = true from hok) hk4
        obtain ⟨f1, f2, f3⟩ := h.into (by omega) (f := q.f) hsm hDD
        rcases hkk with e | e | e
        · rw [if_pos e] at hr
          have hz' := hz e
          rcases List.mem_append.1 hr with hr | hr
          · exact ih _ _ (by omega) (by omega) (h.guard (by omega) f2) r hr
          · exact ih _ _ (by omega) (by omega) (h.guard (by omega) f3) r hr
        · rw [if_neg (by omega), if_pos e] at hr
          have hp' := hp e
          exact ih _ _ (by omega) (by omega) (h.add (by omega) (by omega) f1) r hr
        · rw [if_neg (by omega), if_neg (by omega), if_pos e] at hr
          exact ih _ _ (by omega) (by omega) (h.tell (by omega) f2) r hr
    · rw [if_neg hl] at hr
      simp only [List.mem_cons, List.not_mem_nil, or_false] at hr
      subst hr
      exact endW_fit h (by omega)

/-- What ways tell of, or add by. -/
def readsR (rs : List RowM) (v : Nat) : Bool := rs.any fun r => r.adds.any (fun f => hasP f v) || r.tells.any (fun f => hasP f v)
theorem readsR_snoc (rs : List RowM) (k : Nat) (hk : k < rs.length) (v : Nat) : readsR (rs.take (k + 1)) v = readsF (readsF (readsR (rs.take k)) (rs[k]?.getD noR).adds) (rs[k]?.getD noR).tells v := by
  rw [readsR, List.take_succ_eq_append_getElem hk, List.any_append, List.getElem?_eq_getElem hk]
  simp [readsF, readsR, Bool.or_assoc]
theorem rowsL_fit {ls : List LV} {w : World} {ad : Option Addr} (h6 : ls.length ≤ 6) (hall : ls.all LV.ok = true) (hF : LinesG w ad ls) : ∀ r ∈ rowsL ls, RowFit r :=
  goW_fit h6 hall (fun k hk => by obtain ⟨b, off, e, hc, hA⟩ := hF k hk; exact hA.D.1) 7 0 way0 (by omega) (by omega) WayOk.start

theorem OwnB.below {W W' : World} {G : Nat} {f : Nat → Bool} (h : OwnB W G f) (b : Below W.heap.size W W') : OwnB W' G f := by
  obtain ⟨cur, hc, hv⟩ := h
  exact ⟨cur, hc.below b, hv⟩

set_option maxHeartbeats 6400000 in
theorem scatreads_any (ad : Option Addr) (N cap : Nat) (ls : List LV) (w : World) (hN : ls.length = N) (hF : LinesG w ad ls) (hN1 : N ≤ 1048576) :
    Calls Try.prog 35 #[.slice ad N cap] w fun e w' => Below w.heap.size w w' ∧ ((actB N ls = false ∧ ∃ G, e = .returned (.slice (some ⟨G, 0, none⟩) 0 0)) ∨ (actB N ls = true ∧ ∃ G cG, e = .returned (.slice (some ⟨G, 0, none⟩) 3 cG) ∧ w.heap.size ≤ G ∧ OwnB w' G (readsR (rowsL ls)))) := by
  have HN : Hid (ls.length = N) := hN
  clear hN
  obtain ⟨u, hu⟩ : ∃ u, actB N ls = u := ⟨_, rfl⟩
  have HU : Hid (actB N ls = u) := hu
  go_enter Try.func35, Try.ntmps35
  go_wp2_with fail
  refine (sact_any _ _ _ ls _ HN.out hF hN1).mono ?_
  rintro e w1 ⟨rfl, b1⟩
  rw [hu]
  clear hu
  cases u with
  | false =>
    have B2 := b1.alloc b1.size (.cells #[] 4)
    go_wp2
    go_ret
    exact ⟨B2, .inl ⟨HU.out, _, rfl⟩⟩
  | true =>
    obtain ⟨h6, hall⟩ := actB_parts HU.out
    have HFIT : Hid _ := rowsL_fit (by rw [HN.out]; exact h6) hall hF
    have HRB : Hid (rowsB N ls = rowsL ls) := by show _ = _; rw [rowsB, HU.out]; rfl
    have A : Below w1.heap.size w1 (w1.alloc (.cells #[.bool false, .bool false, .bool false] 4)) := (Below.refl _ _).alloc (Nat.le_refl _) _
    have o0 : OwnB (w1.alloc (.cells #[.bool false, .bool false, .bool false] 4)) w1.heap.size (readsR ((rowsL ls).take 0)) := ⟨_, Cel.new w1 [.bool false, .bool false, .bool false] 4, fun v hv => by
      match v, hv with
      | 0, _ => simp [readsR]
      | 1, _ => simp [readsR]
      | 2, _ => simp [readsR]⟩
    have B2 := b1.trans (A.mono b1.size)
    clear hall
    go_wp2_with fail
    refine (srows_any _ _ _ ls _ HN.out (hF.below B2) hN1).mono ?_
    rw [HRB.out]
    rintro ee w3 ⟨Gr, cr, xs, rfl, j3⟩
    have B3 := B2.trans (j3.b.mono B2.size)
    have o3 := o0.below j3.b
    have lG0 : w.heap.size ≤ w1.heap.size := b1.size
    obtain ⟨R, hR⟩ : ∃ R, R = rowsL ls := ⟨_, rfl⟩
    have HR : Hid (R = rowsL ls) := hR
    have q1 : R.length ≤ 128 := by rw [hR]; exact goW_128 (by omega)
    rw [← hR] at o3 j3 HFIT ⊢
    obtain ⟨wb, hwb⟩ : ∃ wb, wb = w1.alloc (.cells #[.bool false, .bool false, .bool false] 4) := ⟨_, rfl⟩
    rw [← hwb] at j3
    clear o0 A hR hwb B2 HRB
    go_wp2_with fail
    go_loopw [3, 5] (fun p i wr => ∃ (k G cG : Nat), k ≤ R.length ∧ i = .int .i64 k ∧ p = .slice (some ⟨G, 0, none⟩) 3 cG ∧ w.heap.size ≤ G ∧ Below w.heap.size w wr ∧ OwnB wr G (readsR (R.take k)) ∧ JR wb Gr cr xs R wr) (fun _ i _ => R.length - (intOf i).toNat)
    case atStart => exact ⟨0, w1.heap.size, 3, Nat.zero_le _, rfl, rfl, lG0, B3, o3, j3⟩
    case round =>
      clear B3 o3 j3 lG0
      obtain ⟨k, G, cG, hk, rfl, rfl, lG, hb, o, j⟩ := hrel
      by_cases hlt : k < R.length
      · have hlt' : (k : Int) < R.length := by omega
        obtain ⟨ga, gc, aa, ac, ta, tc, x0, x1, x2, x3, f0, f1, f2⟩ := j.r k hlt
        have HS : Hid (∀ v, readsR (R.take (k + 1)) v = readsF (readsF (readsR (R.take k)) (R[k]?.getD noR).adds) (R[k]?.getD noR).tells v) := fun v => readsR_snoc R k hlt v
        have hfit : RowFit (R[k]?.getD noR) := HFIT.out _ (by rw [List.getElem?_eq_getElem hlt]; exact List.getElem_mem hlt)
        generalize R[k]?.getD noR = q at *
        have HA : Hid _ := hfit.a
        have HTt : Hid _ := hfit.t
        have la := hfit.la
        have lt := hfit.lt
        have sl := j.o.1
        have n1 := (own_cell j.o (k * 4 + 1) (by omega)).trans x1
        have n2 := (own_cell j.o (k * 4 + 2) (by omega)).trans x2
        have lGr := j.lt
        have FA := f1.at
        have FT := f2.at
        have KP : Hid (∀ W, Below wr.heap.size wr W → (W.cell? ⟨Gr, k * 4 + 1, none⟩ = some (.slice aa q.adds.length ac) ∧ W.cell? ⟨Gr, k * 4 + 2, none⟩ = some (.slice ta q.tells.length tc))) := fun W hW => ⟨(hW.cell (p := ⟨Gr, k * 4 + 1, none⟩) lGr.2).trans n1, (hW.cell (p := ⟨Gr, k * 4 + 2, none⟩) lGr.2).trans n2⟩
        have e0 : Below wr.heap.size wr wr.drew := (Below.refl _ _).drew
        have hSS := And.intro (KP.out _ e0) (True.intro)
        clear hfit x0 x1 x2 x3 f0 f1 f2
        go_upto_region 8 with fail
        refine wp_region_ends (fun w' => w'.cell? ⟨Gr, k * 4 + 1, none⟩ = some (.slice aa q.adds.length ac) ∧ w'.cell? ⟨Gr, k * 4 + 2, none⟩ = some (.slice ta q.tells.length tc)) (fun _ => True) 13 (by kernel_rfl) ?_
        refine wpAnyE_take0 (i := 0) (v := ?v0) rfl (by kernel_rfl) (by kernel_rfl) (by kernel_rfl) (by decide) (fun _ _ _ h => h) (Or.inl ⟨by rfl, ?hy0⟩) hSS ?_
        case hy0 => (intro wz hSw; (try dsimp only at hSw); go_simp; try (with_reducible rfl))
        refine wpAnyE_take0 (i := 1) (v := ?v1) rfl (by kernel_rfl) (by kernel_rfl) (by kernel_rfl) (by decide) (fun _ _ _ h => h) (Or.inl ⟨by rfl, ?hy1⟩) hSS ?_
        case hy1 => (intro wz hSw; (try dsimp only at hSw); go_simp; try (with_reducible rfl))
        refine wpAnyE_take0 (i := 2) (v := ?v2) rfl (by kernel_rfl) (by kernel_rfl) (by kernel_rfl) (by decide) (fun _ _ _ h => h) (Or.inl ⟨by rfl, ?hy2⟩) hSS ?_
        case hy2 => (intro wz hSw; (try dsimp only at hSw); go_simp; try (with_reducible rfl))
        refine wpAnyE_take0 (i := 3) (v := ?v3) rfl (by kernel_rfl) (by kernel_rfl) (by kernel_rfl) (by decide) (fun _ _ _ h => h) (Or.inl ⟨by rfl, ?hy3⟩) hSS ?_
        case hy3 => (intro wz hSw; (try dsimp only at hSw); go_simp; try (with_reducible rfl))
        refine wpAnyE_take0 (i := 4) (v := ?v4) rfl (by kernel_rfl) (by kernel_rfl) (by kernel_rfl) (by decide) (fun _ _ _ h => h) (Or.inl ⟨by rfl, ?hy4⟩) hSS ?_
        case hy4 => (intro wz hSw; (try dsimp only at hSw); go_simp; try (with_reducible rfl))
        refine wpAnyE_take0 (i := 5) (v := ?v5) rfl (by kernel_rfl) (by kernel_rfl) (by kernel_rfl) (by decide) (fun _ _ _ h => h) (Or.inl ⟨by rfl, ?hy5⟩) hSS ?_
        case hy5 => (intro wz hSw; (try dsimp only at hSw); go_simp; try (with_reducible rfl))
        refine wpAnyE_take0 (i := 7) (v := ?v7) rfl (by kernel_rfl) (by kernel_rfl) (by kernel_rfl) (by decide) (fun _ _ _ h => h) (Or.inl ⟨by rfl, ?hy7⟩) hSS ?_
        case hy7 => (intro wz hSw; (try dsimp only at hSw); go_simp; try (with_reducible rfl))
        refine wpAnyE_take0 (i := 8) (v := ?v8) rfl (by kernel_rfl) (by kernel_rfl) (by kernel_rfl) (by decide) (fun _ _ _ h => h) (Or.inl ⟨by rfl, ?hy8⟩) hSS ?_
        case hy8 => (intro wz hSw; (try dsimp only at hSw); go_simp; try (with_reducible rfl))
        refine wpAnyE_take0 (i := 9) (v := ?v9) rfl (by kernel_rfl) (by kernel_rfl) (by kernel_rfl) (by decide) (fun _ _ _ h => h) (Or.inl ⟨by rfl, ?hy9⟩) hSS ?_
        case hy9 => (intro wz hSw; (try dsimp only at hSw); go_simp; try (with_reducible rfl))
        refine wpAnyE_take0 (i := 10) (v := ?v10) rfl (by kernel_rfl) (by kernel_rfl) (by kernel_rfl) (by decide) (fun _ _ _ h => h) (Or.inl ⟨by rfl, ?hy10⟩) hSS ?_
        case hy10 => (intro wz hSw; (try dsimp only at hSw); go_simp; try (with_reducible rfl))
        refine wpAnyE_take0 (i := 11) (v := ?v11) rfl (by kernel_rfl) (by kernel_rfl) (by kernel_rfl) (by decide) (fun _ _ _ h => h) (Or.inl ⟨by rfl, ?hy11⟩) hSS ?_
        case hy11 => (intro wz hSw; (try dsimp only at hSw); go_simp; try (with_reducible rfl))
        clear hSS
        refine wpAnyE_one (i := 6) (by kernel_rfl) rfl (fun K hK => ?_)
        go_simp
        refine (sreads_any _ _ _ _ _ _ q.adds _ (o.bools.below e0) rfl (FA.keep e0) HA.out (by omega)).mono ?_
        rintro ee w4 ⟨G4, c4, rfl, bd4, l4, o4⟩
        have b4 := below_of_drew bd4
        have l4x : wr.heap.size ≤ G4 := l4
        clear bd4 l4
        (try dsimp only)
        refine hK.out _ _ ⟨KP.out _ b4, fun _ => trivial⟩ ?_
        clear hK K
        refine wpAnyE_one (i := 12) (by kernel_rfl) rfl (fun K hK => ?_)
        go_simp
        refine (sreads_any _ _ _ _ _ _ q.tells _ o4.bools rfl (FT.keep b4) HTt.out (by omega)).mono ?_
        rintro ee w5 ⟨G5, c5, rfl, bd5, l5, o5⟩
        have b5 := b4.trans (bd5.mono b4.size)
        have s4 := b4.size
        have sb := hb.size
        have O5 : Hid (OwnB w5 G5 (readsR (R.take (k + 1)))) := o5.ext (fun v _ => (HS.out v).symm)
        have J5 := j.below b5
        have B5 := hb.trans (b5.mono hb.size)
        clear bd5 o4 o5 o j
        (try dsimp only)
        refine hK.out _ _ ⟨KP.out _ b5, fun _ => trivial⟩ ?_
        clear hK K
        refine wpAnyE_one (i := 13) (by kernel_rfl) rfl (fun K hK => ?_)
        go_simp
        refine hK.out _ _ ⟨KP.out _ b5, fun _ => trivial⟩ ?_
        clear hK K
        refine wpAnyE_done (by kernel_rfl) ?_ _
        clear KP b4 b5 FA FT n1 n2
        go_wp2
        go_roundw
        case rel => exact ⟨k + 1, G5, c5, by omega, by go_num, rfl, by omega, B5, O5.out, J5⟩
        case measure => simp [intOf]; omega
      · obtain rfl : k = R.length := by omega
        have O : OwnB wr G (readsR R) := by
          have : R.take R.length = R := List.take_of_length_le (Nat.le_refl _)
          rw [this] at o; exact o
        go_wp2
        go_ret
        rw [← HR.out]
        exact ⟨hb, .inr ⟨HU.out, G, cG, rfl, lG, O⟩⟩

end Go.Proofs.Ytjggppnffkcmbaa
