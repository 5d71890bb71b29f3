/-
  Which pots an act's ways may turn (spec.CatWrites). Length at most 1048576.
-/
import Derived.Test.YtomlnlcgfdojnaaXZero
import Derived.Test.YtomlnlcgfdojnaaPackH
namespace Go.Proofs.Ytomlnlcgfdojnaa
open Go.RowKit Go.Deep
set_option linter.unusedVariables false
set_option maxRecDepth 100000

/-- A way may turn a pot. -/
def wrF (r : RowM) (v : Nat) : Bool := decide (v < r.adds.length) && !zeroF (r.adds[v]?.getD ([], [], 0))
def writesR (rs : List RowM) (v : Nat) : Bool := rs.any fun r => wrF r v
theorem writesR_snoc (rs : List RowM) (k : Nat) (hk : k < rs.length) (v : Nat) : writesR (rs.take (k + 1)) v = (writesR (rs.take k) v || wrF (rs[k]?.getD noR) v) := by
  rw [writesR, List.take_succ_eq_append_getElem hk, List.any_append, List.getElem?_eq_getElem hk]
  simp [writesR]
/-- Rows in memory that was made since; what is older may change. -/
structure JRo (n0 G cap : Nat) (xs : List Value) (rs : List RowM) (W : World) : Prop where
  o : W.ownsRow n0 65 4 (.slice (some ⟨G, 0, none⟩) rs.length cap) rs.length xs
  r : RowsOk W (fun k => k < n0 ∨ k = G) xs rs
theorem JR.old {w W : World} {G cap : Nat} {xs : List Value} {rs : List RowM} (j : JR w G cap xs rs W) : JRo w.heap.size G cap xs rs W := ⟨j.o, j.r⟩
theorem JRo.lt {n0 : Nat} {W : World} {G cap : Nat} {xs : List Value} {rs : List RowM} (j : JRo n0 G cap xs rs W) : n0 ≤ G ∧ G < W.heap.size := by
  rcases j.o.2 with ⟨h, _⟩ | ⟨g, cap', cur, h, hg, hh, _⟩
  · cases h
  · simp only [Value.slice.injEq, Option.some.injEq, Addr.mk.injEq, and_true, true_and] at h
    obtain ⟨rfl, _⟩ := h
    exact ⟨hg, lt_of_block hh⟩
theorem JRo.touch {S : Nat → Prop} {n0 : Nat} {W W' : World} {G cap : Nat} {xs : List Value} {rs : List RowM} (j : JRo n0 G cap xs rs W) (t : Touch S W W') (hS : ∀ k, S k → k < n0) : JRo n0 G cap xs rs W' :=
  ⟨own_off j.o (fun g hg hs => by
    have h1 := hS _ hs
    have h2 := j.lt
    have : some G = some g := hg
    simp only [Option.some.injEq] at this
    omega) t, j.r.map (fun _ _ f => f.touch (t.mono (fun k hk => Or.inl (hS k hk))))⟩
theorem JRo.below {n0 : Nat} {W W' : World} {G cap : Nat} {xs : List Value} {rs : List RowM} (j : JRo n0 G cap xs rs W) (b : Below W.heap.size W W') : JRo n0 G cap xs rs W' := j.touch (S := fun _ => False) (Touch.of b) (fun _ h => h.elim)

set_option maxHeartbeats 6400000 in
theorem scatwrites_any (ad : Option Addr) (N cap : Nat) (ls : List LV) (w : World) (hN : ls.length = N) (hF : LinesG w ad ls) (hN1 : N ≤ 1048576) :
    Calls Try.prog 22 #[.slice ad N cap] w fun e w' => Below w.heap.size w w' ∧ ((actB N ls = false ∧ ∃ G, e = .returned (.slice (some ⟨G, 0, none⟩) 0 0)) ∨ (actB N ls = true ∧ ∃ G cG, e = .returned (.slice (some ⟨G, 0, none⟩) 3 cG) ∧ w.heap.size ≤ G ∧ OwnBB w' G (writesR (rowsL ls)))) := by
  have HN : Hid (ls.length = N) := hN
  clear hN
  obtain ⟨u, hu⟩ : ∃ u, actB N ls = u := ⟨_, rfl⟩
  have HU : Hid (actB N ls = u) := hu
  go_enter Try.func22, Try.ntmps22
  go_wp2_with fail
  refine (sact_any _ _ _ ls _ HN.out hF hN1).mono ?_
  rintro e w1 ⟨rfl, b1⟩
  rw [hu]
  clear hu
  cases u with
  | false =>
    have B2 := b1.alloc b1.size (.cells #[] 4)
    go_wp2
    go_ret
    exact ⟨B2, .inl ⟨HU.out, _, rfl⟩⟩
  | true =>
    obtain ⟨h6, hall⟩ := actB_parts HU.out
    have HFIT : Hid _ := rowsL_fit (by rw [HN.out]; exact h6) hall hF
    have HRB : Hid (rowsB N ls = rowsL ls) := by show _ = _; rw [rowsB, HU.out]; rfl
    have A : Below w1.heap.size w1 (w1.alloc (.cells #[.bool false, .bool false, .bool false] 4)) := (Below.refl _ _).alloc (Nat.le_refl _) _
    have o0 : OwnBB (w1.alloc (.cells #[.bool false, .bool false, .bool false] 4)) w1.heap.size (writesR ((rowsL ls).take 0)) := Cel.new w1 [.bool false, .bool false, .bool false] 4
    have B2 := b1.trans (A.mono b1.size)
    clear hall
    go_wp2_with fail
    refine (srows_any _ _ _ ls _ HN.out (hF.below B2) hN1).mono ?_
    rw [HRB.out]
    rintro ee w3 ⟨Gr, cr, xs, rfl, j3⟩
    have B3 := B2.trans (j3.b.mono B2.size)
    have o3 := o0.below j3.b
    have lG0 : w.heap.size ≤ w1.heap.size := b1.size
    have lG1 : w1.heap.size < (w1.alloc (.cells #[.bool false, .bool false, .bool false] 4)).heap.size := by rw [World.size_alloc]; omega
    have j4 := j3.old
    obtain ⟨R, hR⟩ : ∃ R, R = rowsL ls := ⟨_, rfl⟩
    have HR : Hid (R = rowsL ls) := hR
    have q1 : R.length ≤ 128 := by rw [hR]; exact goW_128 (by omega)
    rw [← hR] at o3 j4 HFIT ⊢
    generalize (w1.alloc (.cells #[.bool false, .bool false, .bool false] 4)).heap.size = n0 at *
    obtain ⟨G, hG⟩ : ∃ G, G = w1.heap.size := ⟨_, rfl⟩
    rw [← hG] at o3 lG0 lG1 ⊢
    clear o0 A hR B2 HRB j3 hG b1
    go_wp2_with fail
    go_loopw [5, 6] (fun i _ wr => ∃ k : Nat, k ≤ R.length ∧ i = .int .i64 k ∧ Below w.heap.size w wr ∧ OwnBB wr G (writesR (R.take k)) ∧ JRo n0 Gr cr xs R wr) (fun i _ _ => R.length - (intOf i).toNat)
    case atStart => exact ⟨0, Nat.zero_le _, rfl, B3, o3, j4⟩
    case round =>
      clear B3 o3 j4
      obtain ⟨k, hk, rfl, hb, o, j⟩ := hrel
      by_cases hlt : k < R.length
      · have hlt' : (k : Int) < R.length := by omega
        have HS : Hid (∀ v, writesR (R.take (k + 1)) v = (writesR (R.take k) v || wrF (R[k]?.getD noR) v)) := fun v => writesR_snoc R k hlt v
        have hfit : RowFit (R[k]?.getD noR) := HFIT.out _ (by rw [List.getElem?_eq_getElem hlt]; exact List.getElem_mem hlt)
        have la := hfit.la
        obtain ⟨A, hA⟩ : ∃ A, A = (R[k]?.getD noR).adds.length := ⟨_, rfl⟩
        have HA : Hid (A = (R[k]?.getD noR).adds.length) := hA
        rw [← hA] at la
        have o' : OwnBB wr G (fun v => if v < 0 then writesR (R.take (k + 1)) v else writesR (R.take k) v) := o.ext (fun v hv => by simp)
        have HO : Hid _ := o'
        have HJ : Hid _ := j
        have HB : Hid _ := hb
        clear o o' hfit hA j hb
        go_wp2_with fail
        go_loopw [6] (fun v w2 => ∃ u : Nat, u ≤ A ∧ v = .int .i64 u ∧ Below w.heap.size w w2 ∧ OwnBB w2 G (fun v => if v < u then writesR (R.take (k + 1)) v else writesR (R.take k) v) ∧ JRo n0 Gr cr xs R w2) (fun v _ => A - (intOf v).toNat)
        case atStart => exact ⟨0, by omega, rfl, HB.out, HO.out, HJ.out⟩
        case round =>
          clear HO HJ HB
          obtain ⟨u, hu, rfl, hb, o, j⟩ := hrel
          obtain ⟨ga, gc, aa, ac, ta, tc, x0, x1, x2, x3, f0, f1, f2⟩ := j.r k hlt
          have sl := j.o.1
          have n1 := (own_cell j.o (k * 4 + 1) (by omega)).trans x1
          rw [← HA.out] at n1
          have lGr := j.lt
          by_cases hu3 : u < A
          · have hu' : (u : Int) < A := by omega
            have hF1 := f1.at u (by rw [← HA.out]; exact hu3)
            obtain ⟨b, off, rfl, a', c', ca, cc, c0, c1, c2, iC, iD⟩ := hF1
            have HW : Hid (wrF (R[k]?.getD noR) u = !zeroB ((R[k]?.getD noR).adds[u]?.getD ([], [], 0)).1 ((R[k]?.getD noR).adds[u]?.getD ([], [], 0)).2.1 ((R[k]?.getD noR).adds[u]?.getD ([], [], 0)).2.2) := by
              show _ = _
              have hd : decide (u < (R[k]?.getD noR).adds.length) = true := by rw [← HA.out]; simp [hu3]
              rw [wrF, hd, Bool.true_and, zeroF]
            generalize ((R[k]?.getD noR).adds[u]?.getD ([], [], 0)).1 = C at *
            generalize ((R[k]?.getD noR).adds[u]?.getD ([], [], 0)).2.1 = D at *
            generalize ((R[k]?.getD noR).adds[u]?.getD ([], [], 0)).2.2 = kz at *
            clear f0 f1 f2 x0 x1 x2 x3
            go_wp2_with fail
            refine (szero0_any _ _ _ _ _ C D _ iC iD).mono ?_
            rintro ee w4 ⟨rfl, b4⟩
            have B4 := hb.trans (b4.mono hb.size)
            have O4 := o.below b4
            have J4 := j.below b4
            clear hb o j b4 c0 c1 c2 iC iD n1
            cases hz : zeroB C D kz
            · obtain ⟨g0, fz⟩ := O4.at (v := u) (by omega)
              have O5 : Hid (OwnBB (w4.setCell ⟨G, u, none⟩ (.bool true)) G (fun v => if v < u + 1 then writesR (R.take (k + 1)) v else writesR (R.take k) v)) := (O4.set (u := u) (by omega) true).ext (fun v hv => by
                by_cases e : v = u
                · subst e; simp only [if_true, Nat.lt_succ_self]; rw [HS.out, HW.out, hz]; simp
                · simp only [e, if_false]
                  by_cases e2 : v < u
                  · rw [if_pos e2, if_pos (by omega)]
                  · rw [if_neg e2, if_neg (by omega)])
              have J5 := J4.touch ((Touch.refl (fun x => x = G) w4).setCell (B := G) (i := u) rfl (.bool true)) (fun k hk => by omega)
              have B5 := B4.setCell (p := ⟨G, u, none⟩) lG0 (.bool true)
              clear O4 J4 B4 HW
              go_wp2
              go_roundw
              case rel => exact ⟨u + 1, by omega, by go_num, B5, O5.out, J5⟩
              case measure => simp [intOf]; omega
            · have O5 : Hid (OwnBB w4 G (fun v => if v < u + 1 then writesR (R.take (k + 1)) v else writesR (R.take k) v)) := O4.ext (fun v hv => by
                by_cases e : v = u
                · subst e; simp only [Nat.lt_irrefl, if_false, Nat.lt_succ_self, if_true]; rw [HS.out, HW.out, hz]; simp
                · by_cases e2 : v < u
                  · rw [if_pos e2, if_pos (by omega)]
                  · rw [if_neg e2, if_neg (by omega)])
              clear O4 HW
              go_wp2
              go_roundw
              case rel => exact ⟨u + 1, by omega, by go_num, B4, O5.out, J4⟩
              case measure => simp [intOf]; omega
          · obtain rfl : u = A := by omega
            have O3 : Hid (OwnBB wr G (writesR (R.take (k + 1)))) := o.ext (fun v hv => by
              by_cases e : v < u
              · rw [if_pos e]
              · rw [if_neg e, HS.out]
                have hd : decide (v < (R[k]?.getD noR).adds.length) = false := by rw [← HA.out]; simpa using e
                rw [wrF, hd]; simp)
            clear o f0 f1 f2 x0 x1 x2 x3
            go_wp2
            go_roundw
            case rel => exact ⟨k + 1, by omega, by go_num, hb, O3.out, j⟩
            case measure => simp [intOf]; omega
      · obtain rfl : k = R.length := by omega
        have O : OwnBB wr G (writesR R) := by
          have : R.take R.length = R := List.take_of_length_le (Nat.le_refl _)
          rw [this] at o; exact o
        go_wp2
        go_ret
        rw [← HR.out]
        exact ⟨hb, .inr ⟨HU.out, G, 3, rfl, lG0, O⟩⟩

end Go.Proofs.Ytomlnlcgfdojnaa
