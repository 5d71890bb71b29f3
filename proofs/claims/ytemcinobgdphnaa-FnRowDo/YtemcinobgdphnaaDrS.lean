/-
  A small form that is drawn: whatever the bytes are, a form of the common lengths in two blocks of its own, with small numbers.
-/
import Derived.Test.YtemcinobgdphnaaDrF
import Derived.Test.YtemcinobgdphnaaTk
import Derived.Test.YtemcinobgdphnaaLin
namespace Go.Proofs.Ytemcinobgdphnaa
open Go.RowKit
set_option linter.unusedVariables false
set_option maxRecDepth 100000

theorem bnd.set {M : Int} {zs : List Int} (h : bnd M zs) (i : Nat) {x : Int} (h1 : -M ≤ x) (h2 : x ≤ M) : bnd M (zs.set i x) := by
  intro j
  have hj := h j
  by_cases e : i = j
  · subst e
    by_cases hl : i < zs.length
    · rw [List.getElem?_set_self hl]; simp; omega
    · rw [List.getElem?_eq_none (by rw [List.length_set]; omega)]
      rw [List.getElem?_eq_none (by omega)] at hj
      exact hj
  · rw [List.getElem?_set_ne e]; exact hj

/-- A form that is being drawn: its two boxes, its two lists, the reader. -/
structure SmI (w W : World) (R : Nat) (a : Option Addr) (n cap : Nat) (bs : List Int) (q : Int) (fb B1 B2 : Nat) (C D : List Int) (K M : Int) : Prop where
  t : Touch (fun x => x = R) w W
  r : Rd W R a n cap bs q
  f : F32 W (w.heap.size + 1) B1 B2 C D
  cb : Cel W fb [.slice (some ⟨B1, 0, none⟩) 3 3, .slice (some ⟨B2, 0, none⟩) 2 2, .int .i64 K] 34
  rb : Cel W w.heap.size [.slice none 0 0, .slice none 0 0, .int .i64 0] 34
  hf : w.heap.size < fb
  n1 : B1 ≠ fb
  n2 : B2 ≠ fb
  hR : R < w.heap.size
  ha : 0 < n → ∀ b o, a = some ⟨b, o, none⟩ → b < w.heap.size
  sC : bnd M C
  sD : bnd M D
section
variable {w W W' : World} {R : Nat} {a : Option Addr} {n cap : Nat} {bs : List Int} {q : Int} {fb B1 B2 : Nat} {C D : List Int} {K M : Int}
theorem SmI.below (s : SmI w W R a n cap bs q fb B1 B2 C D K M) (b : Below W.heap.size W W') : SmI w W' R a n cap bs q fb B1 B2 C D K M :=
  ⟨s.t.trans (Touch.of b), s.r.below b, s.f.below b, s.cb.below b, s.rb.below b, s.hf, s.n1, s.n2, s.hR, s.ha, s.sC, s.sD⟩
theorem Blk.touchF {S : Nat → Prop} {B : Nat} {zs : List Int} (h : Blk W B zs) (t : Touch S W W') (hn : ¬ S B) : Blk W' B zs := by
  have hl := h.lt
  unfold Blk at *
  rw [t.block B hl hn]; exact h
theorem SmI.pick {q' : Int} (s : SmI w W R a n cap bs q fb B1 B2 C D K M) (t : Touch (fun x => x = R) W W') (r : Rd W' R a n cap bs q') : SmI w W' R a n cap bs q' fb B1 B2 C D K M := by
  have h1 := s.f.b1
  have h2 := s.f.b2
  have h3 := s.hR
  have h4 := s.hf
  exact ⟨s.t.trans t, r, ⟨s.f.k1.touchF t (by omega), s.f.k2.touchF t (by omega), s.f.l1, s.f.l2, s.f.b1, s.f.b2, s.f.ne⟩, s.cb.touch t (by omega), s.rb.touch t (by omega), s.hf, s.n1, s.n2, s.hR, s.ha, s.sC, s.sD⟩
theorem Rd.setNew (h : Rd W R a n cap bs q) {B : Nat} (hB : B ≠ R) (ha : 0 < n → ∀ b o, a = some ⟨b, o, none⟩ → b ≠ B) (i : Nat) (v : Value) : Rd (W.setCell ⟨B, i, none⟩ v) R a n cap bs q := by
  have t : Touch (fun x => x = B) W (W.setCell ⟨B, i, none⟩ v) := Touch.setCell (S := fun x => x = B) (Touch.refl _ _) rfl _
  exact h.touch t (fun e => hB e.symm) (fun h0 b o e => ha h0 b o e)
theorem SmI.setC (s : SmI w W R a n cap bs q fb B1 B2 C D K M) (i : Nat) {x : Int} (x1 : -M ≤ x) (x2 : x ≤ M) : SmI w (W.setCell ⟨B1, i, none⟩ (.int .i64 x)) R a n cap bs q fb B1 B2 (C.set i x) D K M := by
  have h1 := s.f.b1
  have h3 := s.hR
  exact ⟨s.t.setNewF (by omega) i _, s.r.setNew (by omega) (fun h0 b o e => by have := s.ha h0 b o e; omega) i _, s.f.setC i x, s.cb.setOther (fun e => s.n1 e.symm) _ _, s.rb.setOther (by omega) _ _, s.hf, s.n1, s.n2, s.hR, s.ha, s.sC.set i x1 x2, s.sD⟩
theorem SmI.setD (s : SmI w W R a n cap bs q fb B1 B2 C D K M) (i : Nat) {x : Int} (x1 : -M ≤ x) (x2 : x ≤ M) : SmI w (W.setCell ⟨B2, i, none⟩ (.int .i64 x)) R a n cap bs q fb B1 B2 C (D.set i x) K M := by
  have h1 := s.f.b2
  have h3 := s.hR
  exact ⟨s.t.setNewF (by omega) i _, s.r.setNew (by omega) (fun h0 b o e => by have := s.ha h0 b o e; omega) i _, s.f.setD i x, s.cb.setOther (fun e => s.n2 e.symm) _ _, s.rb.setOther (by omega) _ _, s.hf, s.n1, s.n2, s.hR, s.ha, s.sC, s.sD.set i x1 x2⟩
theorem lit_cell {L j : Nat} {xs : List Int} {t : TypeId} (h : Cel W L (xs.map (Value.int .i64)) t) (hj : j < xs.length) : W.cell? ⟨L, j, none⟩ = some (.int .i64 (xs[j]?.getD 0)) := by
  have := h.cell j
  rw [List.getElem?_map, List.getElem?_eq_getElem hj] at this
  rw [List.getElem?_eq_getElem hj]
  exact this
end
theorem lit_6 (j : Nat) (hj : j < 6) : -2 ≤ ([0, 0, 0, 1, -1, 2] : List Int)[j]?.getD 0 ∧ ([0, 0, 0, 1, -1, 2] : List Int)[j]?.getD 0 ≤ 2 := by
  rcases j with _ | _ | _ | _ | _ | _ | _ | _ | j <;> first | omega | simp
theorem lit_5 (j : Nat) (hj : j < 5) : -2 ≤ ([0, 0, 1, -1, 2] : List Int)[j]?.getD 0 ∧ ([0, 0, 1, -1, 2] : List Int)[j]?.getD 0 ≤ 2 := by
  rcases j with _ | _ | _ | _ | _ | _ | _ | _ | j <;> first | omega | simp
theorem lit_8 (j : Nat) (hj : j < 8) : -20 ≤ ([0, 0, 1, -1, 5, -5, 20, -20] : List Int)[j]?.getD 0 ∧ ([0, 0, 1, -1, 5, -5, 20, -20] : List Int)[j]?.getD 0 ≤ 20 := by
  rcases j with _ | _ | _ | _ | _ | _ | _ | _ | j <;> first | omega | simp

set_option maxHeartbeats 6400000 in
theorem small_f (R : Nat) (a : Option Addr) (n cap : Nat) (bs : List Int) (p : Int) (w : World) (hR : Rd w R a n cap bs p) (hp : 0 ≤ p) (hp1 : p ≤ 9000000) (ha : 0 < n → ∀ b o, a = some ⟨b, o, none⟩ → b < w.heap.size) :
    Calls Try.prog 86 #[.pointer (some ⟨R, 0, none⟩)] w fun e w' => ∃ B1 B2 C D K, e = .returned (formV (some ⟨B1, 0, none⟩) 3 3 (some ⟨B2, 0, none⟩) 2 2 K) ∧ Touch (fun x => x = R) w w' ∧ Rd w' R a n cap bs (p + 6) ∧ F32 w' w.heap.size B1 B2 C D ∧ bnd 2 C ∧ bnd 2 D ∧ -20 ≤ K ∧ K ≤ 20 := by
  have hRl := hR.c.lt
  have bx := Cel.new w [.slice none 0 0, .slice none 0 0, .int .i64 0] 34
  have B0 := (Below.refl w.heap.size w).alloc (Nat.le_refl _) (.cells #[.slice none 0 0, .slice none 0 0, .int .i64 0] 34)
  go_enter Try.func86, Try.ntmps86
  go_wp2_with fail
  refine (szero_f _).mono ?_
  rintro e w1 ⟨B1, B2, rfl, b1, f1⟩
  have al := (Below.refl w1.heap.size w1).alloc (Nat.le_refl _) (.cells #[.slice (some ⟨B1, 0, none⟩) 3 3, .slice (some ⟨B2, 0, none⟩) 2 2, .int .i64 0] 34)
  have z1 := f1.b1
  have z2 := f1.b2
  rw [World.size_alloc] at z1 z2
  have lt1 := f1.k1.lt
  have lt2 := f1.k2.lt
  have b2 := b1.trans (al.mono b1.size)
  have BW := B0.trans (b2.mono B0.size)
  have hlw : w.heap.size < w1.heap.size := (bx.below b1).lt
  have s0 : SmI w (w1.alloc (.cells #[.slice (some ⟨B1, 0, none⟩) 3 3, .slice (some ⟨B2, 0, none⟩) 2 2, .int .i64 0] 34)) R a n cap bs (p + ((0 : Nat) : Int)) w1.heap.size B1 B2 [0, 0, 0] [0, 0] 0 2 :=
    ⟨Touch.of BW, by have h := hR.below BW; rw [show p + ((0 : Nat) : Int) = p by omega]; exact h, (f1.below al).mono (by rw [World.size_alloc]; omega), Cel.new w1 _ _, bx.below b2, hlw, by omega, by omega, hRl, ha, fun i => by rcases i with _ | _ | _ | i <;> simp, fun i => by rcases i with _ | _ | i <;> simp⟩
  obtain ⟨fb, hfb⟩ : ∃ x, x = w1.heap.size := ⟨_, rfl⟩
  rw [← hfb] at s0
  go_wp2_with fail
  rw [← hfb]
  clear hfb hR bx B0 b1 f1 al b2 BW z1 z2 lt1 lt2 hlw
  go_loopw [4] (fun i wr => ∃ (k : Nat) (C : List Int), k ≤ 3 ∧ i = .int .i64 k ∧ SmI w wr R a n cap bs (p + (k : Int)) fb B1 B2 C [0, 0] 0 2) (fun i _ => 3 - (intOf i).toNat)
  case atStart => exact ⟨0, _, Nat.zero_le _, rfl, s0⟩
  case round =>
    clear s0
    obtain ⟨k, C, hk, rfl, s⟩ := hrel
    by_cases hlt : k < 3
    · have hk3 : (k : Int) < 3 := by omega
      go_upto_region 5 with fail
      refine wp_region_ends (fun X => X.cell? ⟨fb, 0, none⟩ = some (.slice (some ⟨B1, 0, none⟩) 3 3)) (fun _ => True) 9 (by kernel_rfl) ?_
      have sd := s.below ((Below.refl _ _).drew)
      obtain ⟨V0, hV0⟩ : ∃ V, V = wr.drew := ⟨_, rfl⟩
      rw [← hV0] at sd ⊢
      clear hV0 s
      have hS0 : (fun X : World => X.cell? ⟨fb, 0, none⟩ = some (.slice (some ⟨B1, 0, none⟩) 3 3)) V0 ∧ True := ⟨sd.cb.cell 0, trivial⟩
      refine tkL (i := 0) rfl hS0 ?_
      refine tkL (i := 1) rfl hS0 ?_
      refine tkL (i := 2) rfl hS0 ?_
      refine tkL (i := 4) rfl hS0 ?_
      refine wpAnyE_two (i := 3) (j := 5) (by kernel_rfl) rfl rfl (fun Kn hK => ?_) (fun Kn hK => ?_)
      · go_simp
        have al := (Below.refl V0.heap.size V0).alloc (Nat.le_refl _) (.cells #[.int .i64 0, .int .i64 0, .int .i64 0, .int .i64 1, .int .i64 (-1), .int .i64 2] 3)
        have lb0 := Cel.new V0 [.int .i64 0, .int .i64 0, .int .i64 0, .int .i64 1, .int .i64 (-1), .int .i64 2] 3
        have s4 := sd.below al
        refine hK.out _ _ ⟨s4.cb.cell 0, fun _ => trivial⟩ ?_
        clear hK
        refine wpAnyE_one (i := 5) (by kernel_rfl) rfl (fun Kn hK => ?_)
        go_simp
        refine (pick_any R a n cap bs _ 6 _ s4.r (by omega) (by omega) (by omega) (by omega)).mono ?_
        rintro e w5 ⟨r, r0, r1, rfl, t5, R5⟩
        obtain ⟨j, rfl⟩ := Int.eq_ofNat_of_zero_le r0
        have hj : j < 6 := by omega
        have hj' : (j : Int) < 6 := by omega
        have s5 := s4.pick t5 R5
        have lb := lb0.touch t5 (by have h1 := sd.hR; have h2 := sd.t.size; omega)
        dsimp only
        have hS5 : (fun X : World => X.cell? ⟨fb, 0, none⟩ = some (.slice (some ⟨B1, 0, none⟩) 3 3)) w5 ∧ True := ⟨s5.cb.cell 0, trivial⟩
        refine hK.out _ _ ⟨hS5.1, fun _ => trivial⟩ ?_
        clear hK hS0
        refine tkL (i := 6) rfl hS5 ?_
        have hc := lit_cell (xs := [0, 0, 0, 1, -1, 2]) lb hj
        have hy := lit_6 j hj
        generalize ([0, 0, 0, 1, -1, 2] : List Int)[j]?.getD 0 = y at hc hy
        refine wpAnyE_one (i := 7) (by kernel_rfl) rfl (fun Kn hK => ?_)
        go_simp
        refine hK.out _ _ ⟨hS5.1, fun _ => trivial⟩ ?_
        clear hK
        refine tkL (i := 8) rfl hS5 ?_
        have s6 := s5.setC k hy.1 hy.2
        have kc := s5.f.k1.cell k (by rw [s5.f.l1]; omega)
        have kf := s5.f.k1.free k
        have kl := s5.f.k1.lt
        refine wpAnyE_one (i := 9) (by kernel_rfl) rfl (fun Kn hK => ?_)
        go_simp
        refine hK.out _ _ ⟨s6.cb.cell 0, fun _ => trivial⟩ ?_
        clear hK
        refine wpAnyE_done (by kernel_rfl) ?_ _
        clear hS5 hc kc kf
        go_wp2
        go_roundw
        case rel => exact ⟨k + 1, _, by omega, by go_num, by have h := s6; rw [show p + (k : Int) + 1 = p + ((k + 1 : Nat) : Int) by omega] at h; exact h⟩
        case measure => simp [intOf]; omega
      · go_simp
        refine (pick_any R a n cap bs _ 6 _ sd.r (by omega) (by omega) (by omega) (by omega)).mono ?_
        rintro e w5 ⟨r, r0, r1, rfl, t5, R5⟩
        obtain ⟨j, rfl⟩ := Int.eq_ofNat_of_zero_le r0
        have hj : j < 6 := by omega
        have hj' : (j : Int) < 6 := by omega
        have s5a := sd.pick t5 R5
        dsimp only
        refine hK.out _ _ ⟨s5a.cb.cell 0, fun _ => trivial⟩ ?_
        clear hK
        refine wpAnyE_one (i := 3) (by kernel_rfl) rfl (fun Kn hK => ?_)
        go_simp
        have al := (Below.refl w5.heap.size w5).alloc (Nat.le_refl _) (.cells #[.int .i64 0, .int .i64 0, .int .i64 0, .int .i64 1, .int .i64 (-1), .int .i64 2] 3)
        have lb := Cel.new w5 [.int .i64 0, .int .i64 0, .int .i64 0, .int .i64 1, .int .i64 (-1), .int .i64 2] 3
        have s5 := s5a.below al
        have hS5 : (fun X : World => X.cell? ⟨fb, 0, none⟩ = some (.slice (some ⟨B1, 0, none⟩) 3 3)) (w5.alloc (.cells #[.int .i64 0, .int .i64 0, .int .i64 0, .int .i64 1, .int .i64 (-1), .int .i64 2] 3)) ∧ True := ⟨s5.cb.cell 0, trivial⟩
        refine hK.out _ _ ⟨hS5.1, fun _ => trivial⟩ ?_
        clear hK hS0
        refine tkL (i := 6) rfl hS5 ?_
        have hc := lit_cell (xs := [0, 0, 0, 1, -1, 2]) lb hj
        have hy := lit_6 j hj
        generalize ([0, 0, 0, 1, -1, 2] : List Int)[j]?.getD 0 = y at hc hy
        refine wpAnyE_one (i := 7) (by kernel_rfl) rfl (fun Kn hK => ?_)
        go_simp
        refine hK.out _ _ ⟨hS5.1, fun _ => trivial⟩ ?_
        clear hK
        refine tkL (i := 8) rfl hS5 ?_
        have s6 := s5.setC k hy.1 hy.2
        have kc := s5.f.k1.cell k (by rw [s5.f.l1]; omega)
        have kf := s5.f.k1.free k
        have kl := s5.f.k1.lt
        refine wpAnyE_one (i := 9) (by kernel_rfl) rfl (fun Kn hK => ?_)
        go_simp
        refine hK.out _ _ ⟨s6.cb.cell 0, fun _ => trivial⟩ ?_
        clear hK
        refine wpAnyE_done (by kernel_rfl) ?_ _
        clear hS5 hc kc kf
        go_wp2
        go_roundw
        case rel => exact ⟨k + 1, _, by omega, by go_num, by have h := s6; rw [show p + (k : Int) + 1 = p + ((k + 1 : Nat) : Int) by omega] at h; exact h⟩
        case measure => simp [intOf]; omega
    · have HK : Hid (k = 3) := show k = 3 by omega
      have hlt' : ¬ (k : Int) < 3 := by omega
      have s0 : SmI w wr R a n cap bs (p + 3 + ((0 : Nat) : Int)) fb B1 B2 C [0, 0] 0 2 := by have h := s; rw [show p + (k : Int) = p + 3 + ((0 : Nat) : Int) by have := HK.out; omega] at h; exact h
      clear s hk
      go_wp2_with fail
      go_loopw [5] (fun i wx => ∃ (l : Nat) (D : List Int), l ≤ 2 ∧ i = .int .i64 l ∧ SmI w wx R a n cap bs (p + 3 + (l : Int)) fb B1 B2 C D 0 2) (fun i _ => 2 - (intOf i).toNat)
      case atStart => exact ⟨0, _, Nat.zero_le _, rfl, s0⟩
      case round =>
        clear s0 HK
        obtain ⟨l, D, hl, rfl, s⟩ := hrel
        by_cases hl2 : l < 2
        · have hk3 : (l : Int) < 2 := by omega
          go_upto_region 9 with fail
          refine wp_region_ends (fun X => X.cell? ⟨fb, 1, none⟩ = some (.slice (some ⟨B2, 0, none⟩) 2 2)) (fun _ => True) 9 (by kernel_rfl) ?_
          have sd := s.below ((Below.refl _ _).drew)
          obtain ⟨V0, hV0⟩ : ∃ V, V = wr.drew := ⟨_, rfl⟩
          rw [← hV0] at sd ⊢
          clear hV0 s
          have hS0 : (fun X : World => X.cell? ⟨fb, 1, none⟩ = some (.slice (some ⟨B2, 0, none⟩) 2 2)) V0 ∧ True := ⟨sd.cb.cell 1, trivial⟩
          refine tkL (i := 0) rfl hS0 ?_
          refine tkL (i := 1) rfl hS0 ?_
          refine tkL (i := 2) rfl hS0 ?_
          refine tkL (i := 4) rfl hS0 ?_
          refine wpAnyE_two (i := 3) (j := 5) (by kernel_rfl) rfl rfl (fun Kn hK => ?_) (fun Kn hK => ?_)
          · go_simp
            have al := (Below.refl V0.heap.size V0).alloc (Nat.le_refl _) (.cells #[.int .i64 0, .int .i64 0, .int .i64 1, .int .i64 (-1), .int .i64 2] 3)
            have lb0 := Cel.new V0 [.int .i64 0, .int .i64 0, .int .i64 1, .int .i64 (-1), .int .i64 2] 3
            have s4 := sd.below al
            refine hK.out _ _ ⟨s4.cb.cell 1, fun _ => trivial⟩ ?_
            clear hK
            refine wpAnyE_one (i := 5) (by kernel_rfl) rfl (fun Kn hK => ?_)
            go_simp
            refine (pick_any R a n cap bs _ 5 _ s4.r (by omega) (by omega) (by omega) (by omega)).mono ?_
            rintro e w5 ⟨r, r0, r1, rfl, t5, R5⟩
            obtain ⟨j, rfl⟩ := Int.eq_ofNat_of_zero_le r0
            have hj : j < 5 := by omega
            have hj' : (j : Int) < 5 := by omega
            have s5 := s4.pick t5 R5
            have lb := lb0.touch t5 (by have h1 := sd.hR; have h2 := sd.t.size; omega)
            dsimp only
            have hS5 : (fun X : World => X.cell? ⟨fb, 1, none⟩ = some (.slice (some ⟨B2, 0, none⟩) 2 2)) w5 ∧ True := ⟨s5.cb.cell 1, trivial⟩
            refine hK.out _ _ ⟨hS5.1, fun _ => trivial⟩ ?_
            clear hK hS0
            refine tkL (i := 6) rfl hS5 ?_
            have hc := lit_cell (xs := [0, 0, 1, -1, 2]) lb hj
            have hy := lit_5 j hj
            generalize ([0, 0, 1, -1, 2] : List Int)[j]?.getD 0 = y at hc hy
            refine wpAnyE_one (i := 7) (by kernel_rfl) rfl (fun Kn hK => ?_)
            go_simp
            refine hK.out _ _ ⟨hS5.1, fun _ => trivial⟩ ?_
            clear hK
            refine tkL (i := 8) rfl hS5 ?_
            have s6 := s5.setD l hy.1 hy.2
            have kc := s5.f.k2.cell l (by rw [s5.f.l2]; omega)
            have kf := s5.f.k2.free l
            have kl := s5.f.k2.lt
            refine wpAnyE_one (i := 9) (by kernel_rfl) rfl (fun Kn hK => ?_)
            go_simp
            refine hK.out _ _ ⟨s6.cb.cell 1, fun _ => trivial⟩ ?_
            clear hK
            refine wpAnyE_done (by kernel_rfl) ?_ _
            clear hS5 hc kc kf
            go_wp2
            go_roundw
            case rel => exact ⟨l + 1, _, by omega, by go_num, by have h := s6; rw [show p + 3 + (l : Int) + 1 = p + 3 + ((l + 1 : Nat) : Int) by omega] at h; exact h⟩
            case measure => simp [intOf]; omega
          · go_simp
            refine (pick_any R a n cap bs _ 5 _ sd.r (by omega) (by omega) (by omega) (by omega)).mono ?_
            rintro e w5 ⟨r, r0, r1, rfl, t5, R5⟩
            obtain ⟨j, rfl⟩ := Int.eq_ofNat_of_zero_le r0
            have hj : j < 5 := by omega
            have hj' : (j : Int) < 5 := by omega
            have s5a := sd.pick t5 R5
            dsimp only
            refine hK.out _ _ ⟨s5a.cb.cell 1, fun _ => trivial⟩ ?_
            clear hK
            refine wpAnyE_one (i := 3) (by kernel_rfl) rfl (fun Kn hK => ?_)
            go_simp
            have al := (Below.refl w5.heap.size w5).alloc (Nat.le_refl _) (.cells #[.int .i64 0, .int .i64 0, .int .i64 1, .int .i64 (-1), .int .i64 2] 3)
            have lb := Cel.new w5 [.int .i64 0, .int .i64 0, .int .i64 1, .int .i64 (-1), .int .i64 2] 3
            have s5 := s5a.below al
            have hS5 : (fun X : World => X.cell? ⟨fb, 1, none⟩ = some (.slice (some ⟨B2, 0, none⟩) 2 2)) (w5.alloc (.cells #[.int .i64 0, .int .i64 0, .int .i64 1, .int .i64 (-1), .int .i64 2] 3)) ∧ True := ⟨s5.cb.cell 1, trivial⟩
            refine hK.out _ _ ⟨hS5.1, fun _ => trivial⟩ ?_
            clear hK hS0
            refine tkL (i := 6) rfl hS5 ?_
            have hc := lit_cell (xs := [0, 0, 1, -1, 2]) lb hj
            have hy := lit_5 j hj
            generalize ([0, 0, 1, -1, 2] : List Int)[j]?.getD 0 = y at hc hy
            refine wpAnyE_one (i := 7) (by kernel_rfl) rfl (fun Kn hK => ?_)
            go_simp
            refine hK.out _ _ ⟨hS5.1, fun _ => trivial⟩ ?_
            clear hK
            refine tkL (i := 8) rfl hS5 ?_
            have s6 := s5.setD l hy.1 hy.2
            have kc := s5.f.k2.cell l (by rw [s5.f.l2]; omega)
            have kf := s5.f.k2.free l
            have kl := s5.f.k2.lt
            refine wpAnyE_one (i := 9) (by kernel_rfl) rfl (fun Kn hK => ?_)
            go_simp
            refine hK.out _ _ ⟨s6.cb.cell 1, fun _ => trivial⟩ ?_
            clear hK
            refine wpAnyE_done (by kernel_rfl) ?_ _
            clear hS5 hc kc kf
            go_wp2
            go_roundw
            case rel => exact ⟨l + 1, _, by omega, by go_num, by have h := s6; rw [show p + 3 + (l : Int) + 1 = p + 3 + ((l + 1 : Nat) : Int) by omega] at h; exact h⟩
            case measure => simp [intOf]; omega
        · have hl2' : ¬ (l : Int) < 2 := by omega
          have s4 := s.below ((Below.refl wr.heap.size wr).alloc (Nat.le_refl _) (.cells #[.int .i64 0, .int .i64 0, .int .i64 1, .int .i64 (-1), .int .i64 5, .int .i64 (-5), .int .i64 20, .int .i64 (-20)] 3))
          have lb0 := Cel.new wr [.int .i64 0, .int .i64 0, .int .i64 1, .int .i64 (-1), .int .i64 5, .int .i64 (-5), .int .i64 20, .int .i64 (-20)] 3
          have hRR := s.hR
          have hsz := s.t.size
          clear s
          go_wp2_with fail
          refine (pick_any R a n cap bs _ 8 _ s4.r (by omega) (by omega) (by omega) (by omega)).mono ?_
          rintro e w5 ⟨r, r0, r1, rfl, t5, R5⟩
          obtain ⟨j, rfl⟩ := Int.eq_ofNat_of_zero_le r0
          have hj : j < 8 := by omega
          have hj' : (j : Int) < 8 := by omega
          have s5 := s4.pick t5 R5
          have lb := lb0.touch t5 (by omega)
          have hc := lit_cell (xs := [0, 0, 1, -1, 5, -5, 20, -20]) lb hj
          have hy := lit_8 j hj
          generalize ([0, 0, 1, -1, 5, -5, 20, -20] : List Int)[j]?.getD 0 = y at hc hy
          have d0 := s5.cb.cell 0
          have d1 := s5.cb.cell 1
          have d2 := s5.cb.cell 2
          have e2 := s5.cb.free 2
          have r0 := s5.rb.cell 0
          have r1 := s5.rb.cell 1
          have r2 := s5.rb.cell 2
          have g0 := s5.rb.free 0
          have g1 := s5.rb.free 1
          have g2 := s5.rb.free 2
          simp only [List.getElem?_cons_zero, List.getElem?_cons_succ] at d0 d1 d2 r0 r1 r2
          have l1 := s5.cb.lt
          have l2 := s5.rb.lt
          have h4 := s5.hf
          have n3 : ¬ w.heap.size = fb := by omega
          have n4 : ¬ fb = w.heap.size := by omega
          have q1 := s5.f.b1
          have q2 := s5.f.b2
          have F5 := s5.f
          have RR := s5.r
          have TT := s5.t
          have m1 := s5.n1
          have m2 := s5.n2
          have a5 := s5.ha
          have c5 := s5.sC
          have c6 := s5.sD
          clear s4 s5 t5 R5 lb lb0
          go_wp2
          refine bodyPost_ret (v := formV (some ⟨B1, 0, none⟩) 3 3 (some ⟨B2, 0, none⟩) 2 2 y) (by simp [results, Try.results86, go_sem, r0, r1, r2]) rfl ⟨B1, B2, C, D, y, rfl, ?_, ?_, ?_, c5, c6, hy.1, hy.2⟩
          · exact (((TT.setNewF (B := fb) (by omega) 2 _).setNewF (B := w.heap.size) (by omega) 0 _).setNewF (B := w.heap.size) (by omega) 1 _).setNewF (B := w.heap.size) (by omega) 2 _
          · have h := (((RR.setNew (B := fb) (by omega) (fun h0 b o e => by have := a5 h0 b o e; omega) 2 (.int .i64 y)).setNew (B := w.heap.size) (by omega) (fun h0 b o e => by have := a5 h0 b o e; omega) 0 (.slice (some ⟨B1, 0, none⟩) 3 3)).setNew (B := w.heap.size) (by omega) (fun h0 b o e => by have := a5 h0 b o e; omega) 1 (.slice (some ⟨B2, 0, none⟩) 2 2)).setNew (B := w.heap.size) (by omega) (fun h0 b o e => by have := a5 h0 b o e; omega) 2 (.int .i64 y)
            rw [show p + 3 + (l : Int) + 1 = p + 6 by omega] at h
            exact h
          · exact ((((F5.setOther m1 m2 2 _).setOther (by omega) (by omega) 0 _).setOther (by omega) (by omega) 1 _).setOther (by omega) (by omega) 2 _).mono (by omega)

end Go.Proofs.Ytemcinobgdphnaa
