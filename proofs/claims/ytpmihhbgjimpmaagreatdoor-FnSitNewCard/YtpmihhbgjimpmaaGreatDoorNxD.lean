/-
  Lemmas that the claim's last text rests on.
-/
import Derived.Test.YtpmihhbgjimpmaaGreatDoorNxC
namespace Go.Proofs.YtpmihhbgjimpmaaGreatDoor
open Go.RowKit
open Option.some renaming injEq → qA
open Addr.mk renaming injEq → qB
open World renaming size_alloc → qC
open List renaming getElem?_eq_getElem → qD, getElem?_cons_zero → qE, getElem?_cons_succ → qF
open Nat renaming le_refl → qG
set_option linter.unusedVariables false
set_option maxRecDepth 100000
set_option maxHeartbeats 25600000
variable {B B1 B2 R cap m n : Nat} {S : Nat -> Prop} {W w w' : World} {a : Option Addr} {bs zs : List Int} {p : Int}
theorem bnd.set {M : Int} (h : bnd M zs) (i : Nat) {x : Int} (h1 : -M <= x) (h2 : x <= M) : bnd M (zs.set i x) := by
 intro j;have hj := h j
 by_cases e : i = j
 ·subst e
  by_cases hl : i < zs.length
  ·rw [List.getElem?_set_self hl]; simp; omega
  rw [List.getElem?_eq_none (by rw [List.length_set]; omega)];rw [List.getElem?_eq_none (by omega)] at hj
  exact hj
 rw [List.getElem?_set_ne e]; exact hj
structure SmI (w W : World) (R : Nat) (a : Option Addr) (n cap : Nat) (bs : List Int) (q : Int) (fb B1 B2 : Nat) (C D : List Int) (K M : Int) : Prop where
 t : Touch (fun x => x = R) w W
 r : Rd W R a n cap bs q
 f : F32 W (w.heap.size + 1) B1 B2 C D
 cb : Cel W fb [.slice (some ⟨B1, 0, none⟩) 3 3, .slice (some ⟨B2, 0, none⟩) 2 2, .int .i64 K] 95
 rb : Cel W w.heap.size [.slice none 0 0, .slice none 0 0, .int .i64 0] 95
 hf : w.heap.size < fb
 n1 : B1 ≠ fb
 n2 : B2 ≠ fb
 hR : R < w.heap.size
 ha : 0 < n -> ∀ b o, a = some ⟨b, o, none⟩ -> b < w.heap.size
 sC : bnd M C
 sD : bnd M D
section
variable {w W W' : World} {R : Nat} {a : Option Addr} {n cap : Nat} {bs : List Int} {q : Int} {fb B1 B2 : Nat} {C D : List Int} {K M : Int}
theorem SmI.below (s : SmI w W R a n cap bs q fb B1 B2 C D K M) (b : Below W.heap.size W W') : SmI w W' R a n cap bs q fb B1 B2 C D K M :=
 ⟨s.t.trans (Touch.of b), s.r.below b, s.f.below b, s.cb.below b, s.rb.below b, s.hf, s.n1, s.n2, s.hR, s.ha, s.sC, s.sD⟩
theorem Blk.touchF (h : Blk W B zs) (t : Touch S W W') (hn : ¬ S B) : Blk W' B zs := by
 have hl := h.lt;unfold Blk at *;rw [t.block B hl hn]; exact h
theorem SmI.pick {q' : Int} (s : SmI w W R a n cap bs q fb B1 B2 C D K M) (t : Touch (fun x => x = R) W W') (r : Rd W' R a n cap bs q') : SmI w W' R a n cap bs q' fb B1 B2 C D K M := by
 have h1 := s.f.b1;have h2 := s.f.b2;have h3 := s.hR;have h4 := s.hf
 exact ⟨s.t.trans t, r, ⟨s.f.k1.touchF t (by omega), s.f.k2.touchF t (by omega), s.f.l1, s.f.l2, s.f.b1, s.f.b2, s.f.ne⟩, s.cb.touch t (by omega), s.rb.touch t (by omega), s.hf, s.n1, s.n2, s.hR, s.ha, s.sC, s.sD⟩
theorem Rd.setNew (h : Rd W R a n cap bs q) {B : Nat} (hB : B ≠ R) (ha : 0 < n -> ∀ b o, a = some ⟨b, o, none⟩ -> b ≠ B) (i : Nat) (v : Value) : Rd (W.setCell ⟨B, i, none⟩ v) R a n cap bs q := by
 have t : Touch (fun x => x = B) W (W.setCell ⟨B, i, none⟩ v) := Touch.setCell (S := fun x => x = B) (Touch.refl _ _) rfl _
 exact h.touch t (fun e => hB e.symm) (fun h0 b o e => ha h0 b o e)
theorem SmI.setC (s : SmI w W R a n cap bs q fb B1 B2 C D K M) (i : Nat) {x : Int} (x1 : -M <= x) (x2 : x <= M) : SmI w (W.setCell ⟨B1, i, none⟩ (.int .i64 x)) R a n cap bs q fb B1 B2 (C.set i x) D K M := by
 have h1 := s.f.b1;have h3 := s.hR
 exact ⟨s.t.setNewF (by omega) i _, s.r.setNew (by omega) (fun h0 b o e => by have := s.ha h0 b o e; omega) i _, s.f.setC i x, s.cb.setOther (fun e => s.n1 e.symm) _ _, s.rb.so, s.hf, s.n1, s.n2, s.hR, s.ha, s.sC.set i x1 x2, s.sD⟩
theorem SmI.setD (s : SmI w W R a n cap bs q fb B1 B2 C D K M) (i : Nat) {x : Int} (x1 : -M <= x) (x2 : x <= M) : SmI w (W.setCell ⟨B2, i, none⟩ (.int .i64 x)) R a n cap bs q fb B1 B2 C (D.set i x) K M := by
 have h1 := s.f.b2;have h3 := s.hR
 exact ⟨s.t.setNewF (by omega) i _, s.r.setNew (by omega) (fun h0 b o e => by have := s.ha h0 b o e; omega) i _, s.f.setD i x, s.cb.setOther (fun e => s.n2 e.symm) _ _, s.rb.so, s.hf, s.n1, s.n2, s.hR, s.ha, s.sC, s.sD.set i x1 x2⟩
theorem lit_cell {L j : Nat} {xs : List Int} {t : TypeId} (h : Cel W L (xs.map (Value.int .i64)) t) (hj : j < xs.length) : W.cell? ⟨L, j, none⟩ = some (.int .i64 (xs[j]?.getD 0)) := by
 have := h.cell j;rw [List.getElem?_map, qD hj] at this;rw [qD hj]
 exact this
end
theorem lit_6 (j : Nat) (hj : j < 6) : -2 <= ([0, 0, 0, 1, -1, 2] : List Int)[j]?.getD 0 /\ ([0, 0, 0, 1, -1, 2] : List Int)[j]?.getD 0 <= 2 := by
 rcases j with _ | _ | _ | _ | _ | _ | _ | _ | j <;> first | omega | simp
theorem lit_5 (j : Nat) (hj : j < 5) : -2 <= ([0, 0, 1, -1, 2] : List Int)[j]?.getD 0 /\ ([0, 0, 1, -1, 2] : List Int)[j]?.getD 0 <= 2 := by
 rcases j with _ | _ | _ | _ | _ | _ | _ | _ | j <;> first | omega | simp
theorem lit_8 (j : Nat) (hj : j < 8) : -20 <= ([0, 0, 1, -1, 5, -5, 20, -20] : List Int)[j]?.getD 0 /\ ([0, 0, 1, -1, 5, -5, 20, -20] : List Int)[j]?.getD 0 <= 20 := by
 rcases j with _ | _ | _ | _ | _ | _ | _ | _ | j <;> first | omega | simp
theorem small_f (R : Nat) (a : Option Addr) (n cap : Nat) (bs : List Int) (p : Int) {w : World} (hR : Rd w R a n cap bs p) (hp : 0 <= p) (hp1 : p <= 9000000) (ha : 0 < n -> ∀ b o, a = some ⟨b, o, none⟩ -> b < w.heap.size) :
  Calls Tryz.prog 151 #[.pointer (some ⟨R, 0, none⟩)] w fun e w' => ∃ B1 B2 C D K, e = .returned (formV (some ⟨B1, 0, none⟩) 3 3 (some ⟨B2, 0, none⟩) 2 2 K) /\ Touch (fun x => x = R) w w' /\ Rd w' R a n cap bs (p + 6) /\ F32 w' w.heap.size B1 B2 C D /\ bnd 2 C /\ bnd 2 D /\ -20 <= K /\ K <= 20 := by
 have hRl := hR.c.lt;have bx := Cel.new w [.slice none 0 0, .slice none 0 0, .int .i64 0] 95;have B0 := (Below.refl w.heap.size w).alloc (qG _) (.cells #[.slice none 0 0, .slice none 0 0, .int .i64 0] 95)
 go_enter Tryz.func151, Tryz.ntmps151
 go_wp2_with fail
 refine (szero_f).mono ?_;rintro e w1 ⟨B1, B2, rfl, b1, f1⟩;have al := (Below.refl w1.heap.size w1).alloc (qG _) (.cells #[.slice (some ⟨B1, 0, none⟩) 3 3, .slice (some ⟨B2, 0, none⟩) 2 2, .int .i64 0] 95);have z1 := f1.b1;have z2 := f1.b2;rw [qC] at z1 z2;have lt1 := f1.k1.lt;have lt2 := f1.k2.lt;have b2 := btr b1 al;have BW := btr B0 b2;have hlw : w.heap.size < w1.heap.size := (bx.below b1).lt
 have s0 : SmI w (w1.alloc (.cells #[.slice (some ⟨B1, 0, none⟩) 3 3, .slice (some ⟨B2, 0, none⟩) 2 2, .int .i64 0] 95)) R a n cap bs (p + ((0 : Nat) : Int)) w1.heap.size B1 B2 [0, 0, 0] [0, 0] 0 2 :=
  ⟨Touch.of BW, by have h := hR.below BW; rw [show p + ((0 : Nat) : Int) = p by omega]; exact h, (f1.below al).mono (by rw [qC]; omega), Cel.new w1 _ _, bx.below b2, hlw, by omega, by omega, hRl, ha, fun i => by rcases i with _ | _ | _ | i <;> simp, fun i => by rcases i with _ | _ | i <;> simp⟩
 obtain ⟨fb, hfb⟩ : ∃ x, x = w1.heap.size := ⟨_, rfl⟩
 rw [<- hfb] at s0
 go_wp2_with fail
 rw [<- hfb];clear hfb hR bx B0 b1 f1 al b2 BW z1 z2 lt1 lt2 hlw
 go_loopw [4] (fun i wr => ∃ (k : Nat) (C : List Int), k <= 3 /\ i = .int .i64 k /\ SmI w wr R a n cap bs (p + (k : Int)) fb B1 B2 C [0, 0] 0 2) (fun i _ => 3 - (intOf i).toNat)
 case atStart => exact ⟨0, _, Nat.zero_le _, rfl, s0⟩
 case round =>
  clear s0;obtain ⟨k, C, hk, rfl, s⟩ := hrel
  by_cases hlt : k < 3
  ·have hk3 : (k : Int) < 3 := by omega
   go_upto_region 5 with fail
   refine wp_region_ends (fun X => X.cell? ⟨fb, 0, none⟩ = some (.slice (some ⟨B1, 0, none⟩) 3 3)) (fun _ => True) 9 (by kernel_rfl) ?_;have sd := s.below ((Below.refl _ _).drew);obtain ⟨V0, hV0⟩ : ∃ V, V = wr.drew := ⟨_, rfl⟩
   rw [<- hV0] at sd ⊢;clear hV0 s;have hS0 : (fun X : World => X.cell? ⟨fb, 0, none⟩ = some (.slice (some ⟨B1, 0, none⟩) 3 3)) V0 /\ True := ⟨sd.cb.cell 0, trivial⟩
   refine tkl 0 rfl hS0 ?_;refine tkl 1 rfl hS0 ?_;refine tkl 2 rfl hS0 ?_;refine tkl 4 rfl hS0 ?_;refine wpAnyE_two (i := 3) (j := 5) (by kernel_rfl) rfl rfl (fun Kn hK => ?_) (fun Kn hK => ?_)
   ·go_simp;have al := (Below.refl V0.heap.size V0).alloc (qG _) (.cells #[.int .i64 0, .int .i64 0, .int .i64 0, .int .i64 1, .int .i64 (-1), .int .i64 2] 3);have lb0 := Cel.new V0 [.int .i64 0, .int .i64 0, .int .i64 0, .int .i64 1, .int .i64 (-1), .int .i64 2] 3;have s4 := sd.below al;refine kk0 hK (s4.cb.cell 0) ?_;clear hK;refine wpAnyE_one (i := 5) (by kernel_rfl) rfl (fun Kn hK => ?_);go_simp;refine (pick_any R a n cap bs _ 6 s4.r).mono ?_;rintro e w5 ⟨r, r0, r1, rfl, t5, R5⟩;obtain ⟨j, rfl⟩ := Int.eq_ofNat_of_zero_le r0;have hj : j < 6 := by omega
    have hj' : (j : Int) < 6 := by omega
    have s5 := s4.pick t5 R5;have lb := lb0.touch t5 (by have h1 := sd.hR; have h2 := sd.t.size; omega);dsimp only;have hS5 : (fun X : World => X.cell? ⟨fb, 0, none⟩ = some (.slice (some ⟨B1, 0, none⟩) 3 3)) w5 /\ True := ⟨s5.cb.cell 0, trivial⟩
    refine kk0 hK (hS5.1) ?_;clear hK hS0;refine tkl 6 rfl hS5 ?_;have hc := lit_cell (xs := [0, 0, 0, 1, -1, 2]) lb hj;have hy := lit_6 j hj;generalize ([0, 0, 0, 1, -1, 2] : List Int)[j]?.getD 0 = y at hc hy;refine wpAnyE_one (i := 7) (by kernel_rfl) rfl (fun Kn hK => ?_);go_simp;refine kk0 hK (hS5.1) ?_;clear hK;refine tkl 8 rfl hS5 ?_;have s6 := s5.setC k hy.1 hy.2;have kc := s5.f.k1.cell k (by rw [s5.f.l1]; omega);have kf := s5.f.k1.free k;have kl := s5.f.k1.lt;refine wpAnyE_one (i := 9) (by kernel_rfl) rfl (fun Kn hK => ?_);go_simp;refine kk0 hK (s6.cb.cell 0) ?_;clear hK;refine wod ?_ _;clear hS5 hc kc kf
    go_wp2
    go_roundw
    case rel => exact ⟨k + 1, _, by omega, by go_num, by have h := s6; rw [show p + (k : Int) + 1 = p + ((k + 1 : Nat) : Int) by omega] at h; exact h⟩
    case measure => simp [intOf]; omega
   go_simp;refine (pick_any R a n cap bs _ 6 sd.r).mono ?_;rintro e w5 ⟨r, r0, r1, rfl, t5, R5⟩;obtain ⟨j, rfl⟩ := Int.eq_ofNat_of_zero_le r0;have hj : j < 6 := by omega
   have hj' : (j : Int) < 6 := by omega
   have s5a := sd.pick t5 R5;dsimp only;refine kk0 hK (s5a.cb.cell 0) ?_;clear hK;refine wpAnyE_one (i := 3) (by kernel_rfl) rfl (fun Kn hK => ?_);go_simp;have al := (Below.refl w5.heap.size w5).alloc (qG _) (.cells #[.int .i64 0, .int .i64 0, .int .i64 0, .int .i64 1, .int .i64 (-1), .int .i64 2] 3);have lb := Cel.new w5 [.int .i64 0, .int .i64 0, .int .i64 0, .int .i64 1, .int .i64 (-1), .int .i64 2] 3;have s5 := s5a.below al;have hS5 : (fun X : World => X.cell? ⟨fb, 0, none⟩ = some (.slice (some ⟨B1, 0, none⟩) 3 3)) (w5.alloc (.cells #[.int .i64 0, .int .i64 0, .int .i64 0, .int .i64 1, .int .i64 (-1), .int .i64 2] 3)) /\ True := ⟨s5.cb.cell 0, trivial⟩
   refine kk0 hK (hS5.1) ?_;clear hK hS0;refine tkl 6 rfl hS5 ?_;have hc := lit_cell (xs := [0, 0, 0, 1, -1, 2]) lb hj;have hy := lit_6 j hj;generalize ([0, 0, 0, 1, -1, 2] : List Int)[j]?.getD 0 = y at hc hy;refine wpAnyE_one (i := 7) (by kernel_rfl) rfl (fun Kn hK => ?_);go_simp;refine kk0 hK (hS5.1) ?_;clear hK;refine tkl 8 rfl hS5 ?_;have s6 := s5.setC k hy.1 hy.2;have kc := s5.f.k1.cell k (by rw [s5.f.l1]; omega);have kf := s5.f.k1.free k;have kl := s5.f.k1.lt;refine wpAnyE_one (i := 9) (by kernel_rfl) rfl (fun Kn hK => ?_);go_simp;refine kk0 hK (s6.cb.cell 0) ?_;clear hK;refine wod ?_ _;clear hS5 hc kc kf
   go_wp2
   go_roundw
   case rel => exact ⟨k + 1, _, by omega, by go_num, by have h := s6; rw [show p + (k : Int) + 1 = p + ((k + 1 : Nat) : Int) by omega] at h; exact h⟩
   case measure => simp [intOf]; omega
  have HK : Hid (k = 3) := show k = 3 by omega
  have hlt' : ¬ (k : Int) < 3 := by omega
  have s0 : SmI w wr R a n cap bs (p + 3 + ((0 : Nat) : Int)) fb B1 B2 C [0, 0] 0 2 := by have h := s; rw [show p + (k : Int) = p + 3 + ((0 : Nat) : Int) by have := HK.out; omega] at h; exact h
  clear s hk
  go_wp2_with fail
  go_loopw [5] (fun i wx => ∃ (l : Nat) (D : List Int), l <= 2 /\ i = .int .i64 l /\ SmI w wx R a n cap bs (p + 3 + (l : Int)) fb B1 B2 C D 0 2) (fun i _ => 2 - (intOf i).toNat)
  case atStart => exact ⟨0, _, Nat.zero_le _, rfl, s0⟩
  case round =>
   clear s0 HK;obtain ⟨l, D, hl, rfl, s⟩ := hrel
   by_cases hl2 : l < 2
   ·have hk3 : (l : Int) < 2 := by omega
    go_upto_region 9 with fail
    refine wp_region_ends (fun X => X.cell? ⟨fb, 1, none⟩ = some (.slice (some ⟨B2, 0, none⟩) 2 2)) (fun _ => True) 9 (by kernel_rfl) ?_;have sd := s.below ((Below.refl _ _).drew);obtain ⟨V0, hV0⟩ : ∃ V, V = wr.drew := ⟨_, rfl⟩
    rw [<- hV0] at sd ⊢;clear hV0 s;have hS0 : (fun X : World => X.cell? ⟨fb, 1, none⟩ = some (.slice (some ⟨B2, 0, none⟩) 2 2)) V0 /\ True := ⟨sd.cb.cell 1, trivial⟩
    refine tkl 0 rfl hS0 ?_;refine tkl 1 rfl hS0 ?_;refine tkl 2 rfl hS0 ?_;refine tkl 4 rfl hS0 ?_;refine wpAnyE_two (i := 3) (j := 5) (by kernel_rfl) rfl rfl (fun Kn hK => ?_) (fun Kn hK => ?_)
    ·go_simp;have al := (Below.refl V0.heap.size V0).alloc (qG _) (.cells #[.int .i64 0, .int .i64 0, .int .i64 1, .int .i64 (-1), .int .i64 2] 3);have lb0 := Cel.new V0 [.int .i64 0, .int .i64 0, .int .i64 1, .int .i64 (-1), .int .i64 2] 3;have s4 := sd.below al;refine kk0 hK (s4.cb.cell 1) ?_;clear hK;refine wpAnyE_one (i := 5) (by kernel_rfl) rfl (fun Kn hK => ?_);go_simp;refine (pick_any R a n cap bs _ 5 s4.r).mono ?_;rintro e w5 ⟨r, r0, r1, rfl, t5, R5⟩;obtain ⟨j, rfl⟩ := Int.eq_ofNat_of_zero_le r0;have hj : j < 5 := by omega
     have hj' : (j : Int) < 5 := by omega
     have s5 := s4.pick t5 R5;have lb := lb0.touch t5 (by have h1 := sd.hR; have h2 := sd.t.size; omega);dsimp only;have hS5 : (fun X : World => X.cell? ⟨fb, 1, none⟩ = some (.slice (some ⟨B2, 0, none⟩) 2 2)) w5 /\ True := ⟨s5.cb.cell 1, trivial⟩
     refine kk0 hK (hS5.1) ?_;clear hK hS0;refine tkl 6 rfl hS5 ?_;have hc := lit_cell (xs := [0, 0, 1, -1, 2]) lb hj;have hy := lit_5 j hj;generalize ([0, 0, 1, -1, 2] : List Int)[j]?.getD 0 = y at hc hy;refine wpAnyE_one (i := 7) (by kernel_rfl) rfl (fun Kn hK => ?_);go_simp;refine kk0 hK (hS5.1) ?_;clear hK;refine tkl 8 rfl hS5 ?_;have s6 := s5.setD l hy.1 hy.2;have kc := s5.f.k2.cell l (by rw [s5.f.l2]; omega);have kf := s5.f.k2.free l;have kl := s5.f.k2.lt;refine wpAnyE_one (i := 9) (by kernel_rfl) rfl (fun Kn hK => ?_);go_simp;refine kk0 hK (s6.cb.cell 1) ?_;clear hK;refine wod ?_ _;clear hS5 hc kc kf
     go_wp2
     go_roundw
     case rel => exact ⟨l + 1, _, by omega, by go_num, by have h := s6; rw [show p + 3 + (l : Int) + 1 = p + 3 + ((l + 1 : Nat) : Int) by omega] at h; exact h⟩
     case measure => simp [intOf]; omega
    go_simp;refine (pick_any R a n cap bs _ 5 sd.r).mono ?_;rintro e w5 ⟨r, r0, r1, rfl, t5, R5⟩;obtain ⟨j, rfl⟩ := Int.eq_ofNat_of_zero_le r0;have hj : j < 5 := by omega
    have hj' : (j : Int) < 5 := by omega
    have s5a := sd.pick t5 R5;dsimp only;refine kk0 hK (s5a.cb.cell 1) ?_;clear hK;refine wpAnyE_one (i := 3) (by kernel_rfl) rfl (fun Kn hK => ?_);go_simp;have al := (Below.refl w5.heap.size w5).alloc (qG _) (.cells #[.int .i64 0, .int .i64 0, .int .i64 1, .int .i64 (-1), .int .i64 2] 3);have lb := Cel.new w5 [.int .i64 0, .int .i64 0, .int .i64 1, .int .i64 (-1), .int .i64 2] 3;have s5 := s5a.below al;have hS5 : (fun X : World => X.cell? ⟨fb, 1, none⟩ = some (.slice (some ⟨B2, 0, none⟩) 2 2)) (w5.alloc (.cells #[.int .i64 0, .int .i64 0, .int .i64 1, .int .i64 (-1), .int .i64 2] 3)) /\ True := ⟨s5.cb.cell 1, trivial⟩
    refine kk0 hK (hS5.1) ?_;clear hK hS0;refine tkl 6 rfl hS5 ?_;have hc := lit_cell (xs := [0, 0, 1, -1, 2]) lb hj;have hy := lit_5 j hj;generalize ([0, 0, 1, -1, 2] : List Int)[j]?.getD 0 = y at hc hy;refine wpAnyE_one (i := 7) (by kernel_rfl) rfl (fun Kn hK => ?_);go_simp;refine kk0 hK (hS5.1) ?_;clear hK;refine tkl 8 rfl hS5 ?_;have s6 := s5.setD l hy.1 hy.2;have kc := s5.f.k2.cell l (by rw [s5.f.l2]; omega);have kf := s5.f.k2.free l;have kl := s5.f.k2.lt;refine wpAnyE_one (i := 9) (by kernel_rfl) rfl (fun Kn hK => ?_);go_simp;refine kk0 hK (s6.cb.cell 1) ?_;clear hK;refine wod ?_ _;clear hS5 hc kc kf
    go_wp2
    go_roundw
    case rel => exact ⟨l + 1, _, by omega, by go_num, by have h := s6; rw [show p + 3 + (l : Int) + 1 = p + 3 + ((l + 1 : Nat) : Int) by omega] at h; exact h⟩
    case measure => simp [intOf]; omega
   have hl2' : ¬ (l : Int) < 2 := by omega
   have s4 := s.below ((Below.refl wr.heap.size wr).alloc (qG _) (.cells #[.int .i64 0, .int .i64 0, .int .i64 1, .int .i64 (-1), .int .i64 5, .int .i64 (-5), .int .i64 20, .int .i64 (-20)] 3));have lb0 := Cel.new wr [.int .i64 0, .int .i64 0, .int .i64 1, .int .i64 (-1), .int .i64 5, .int .i64 (-5), .int .i64 20, .int .i64 (-20)] 3;have hRR := s.hR;have hsz := s.t.size;clear s
   go_wp2_with fail
   refine (pick_any R a n cap bs _ 8 s4.r).mono ?_;rintro e w5 ⟨r, r0, r1, rfl, t5, R5⟩;obtain ⟨j, rfl⟩ := Int.eq_ofNat_of_zero_le r0;have hj : j < 8 := by omega
   have hj' : (j : Int) < 8 := by omega
   have s5 := s4.pick t5 R5;have lb := lb0.touch t5 (by omega);have hc := lit_cell (xs := [0, 0, 1, -1, 5, -5, 20, -20]) lb hj;have hy := lit_8 j hj;generalize ([0, 0, 1, -1, 5, -5, 20, -20] : List Int)[j]?.getD 0 = y at hc hy;have d0 := s5.cb.cell 0;have d1 := s5.cb.cell 1;have d2 := s5.cb.cell 2;have e2 := s5.cb.free 2;have r0 := s5.rb.cell 0;have r1 := s5.rb.cell 1;have r2 := s5.rb.cell 2;have g0 := s5.rb.free 0;have g1 := s5.rb.free 1;have g2 := s5.rb.free 2;simp only [qE, qF] at d0 d1 d2 r0 r1 r2;have l1 := s5.cb.lt;have l2 := s5.rb.lt;have h4 := s5.hf;have n3 : ¬ w.heap.size = fb := by omega
   have n4 : ¬ fb = w.heap.size := by omega
   have q1 := s5.f.b1;have q2 := s5.f.b2;have F5 := s5.f;have RR := s5.r;have TT := s5.t;have m1 := s5.n1;have m2 := s5.n2;have a5 := s5.ha;have c5 := s5.sC;have c6 := s5.sD;clear s4 s5 t5 R5 lb lb0
   go_wp2
   refine bodyPost_ret (v := formV (some ⟨B1, 0, none⟩) 3 3 (some ⟨B2, 0, none⟩) 2 2 y) (by simp [results, Tryz.results151, go_sem, r0, r1, r2]) rfl ⟨B1, B2, C, D, y, rfl, ?_, ?_, ?_, c5, c6, hy.1, hy.2⟩
   ·exact (((TT.setNewF (B := fb) (by omega) 2 _).setNewF (B := w.heap.size) (by omega) 0 _).setNewF (B := w.heap.size) (by omega) 1 _).setNewF (B := w.heap.size) (by omega) 2 _
   ·have h := (((RR.setNew (B := fb) (by omega) (fun h0 b o e => by have := a5 h0 b o e; omega) 2 (.int .i64 y)).setNew (B := w.heap.size) (by omega) (fun h0 b o e => by have := a5 h0 b o e; omega) 0 (.slice (some ⟨B1, 0, none⟩) 3 3)).setNew (B := w.heap.size) (by omega) (fun h0 b o e => by have := a5 h0 b o e; omega) 1 (.slice (some ⟨B2, 0, none⟩) 2 2)).setNew (B := w.heap.size) (by omega) (fun h0 b o e => by have := a5 h0 b o e; omega) 2 (.int .i64 y);rw [show p + 3 + (l : Int) + 1 = p + 6 by omega] at h
    exact h
   exact ((((F5.setOther m1 m2 2 _).setOther (by omega) (by omega) 0 _).setOther (by omega) (by omega) 1 _).setOther (by omega) (by omega) 2 _).mono (by omega)
theorem ownsRow_touch {W' : World} {base : Nat} {e : TypeId} {size : Nat} {v : Value} {xs : List Value} (h : W.ownsRow base e size v n xs) (t : Touch S W W') (hS : ∀ k, S k -> k < base) : W'.ownsRow base e size v n xs := by
 obtain ⟨h1, h2⟩ := h;refine ⟨h1, ?_⟩
 rcases h2 with h2 | ⟨g, cap, cur, hv, hg, hh, r⟩
 ·exact Or.inl h2
 refine Or.inr ⟨g, cap, cur, hv, hg, ?_, r⟩;rw [t.block g (lt_of_block hh) (fun hs => by have := hS g hs; omega)]; exact hh
theorem Touch.grown {W' : World} {row : Option Nat} (h : Touch S w W) (g : W.grownBy W' row) (hr : ∀ k, row = some k -> w.heap.size <= k) : Touch S w W' :=
 ⟨g.os.trans h.os, g.tape.trans h.tape, g.output.trans h.output, Nat.le_trans h.size g.size, fun k hk hs => (g.block k (Nat.lt_of_lt_of_le hk h.size) (fun e => by have := hr k e.symm; omega)).trans (h.block k hk hs)⟩
structure J (w : World) (R : Nat) (a : Option Addr) (n cap : Nat) (bs : List Int) (p : Int) (v : Value) (xs : List Int) (W : World) : Prop where
 t : Touch (fun x => x = R) w W
 r : Rd W R a n cap bs p
 o : W.ownsRow w.heap.size 3 1 v xs.length (xs.map (Value.int .i64))
 lR : R < w.heap.size
 lb : 0 < n -> ∀ b o, a = some ⟨b, o, none⟩ -> b < w.heap.size
section
variable {w W W' : World} {R : Nat} {a : Option Addr} {n cap : Nat} {bs : List Int} {p : Int} {v : Value} {xs : List Int}
end
structure FmN (w w' : World) (R : Nat) (a : Option Addr) (n cap : Nat) (bs : List Int) (p q : Int) (B1 nC B2 nD : Nat) (C D : List Int) : Prop where
 t : Touch (fun x => x = R) w w'
 r : Rd w' R a n cap bs q
 c : Ints w' (some ⟨B1, 0, none⟩) nC C
 d : Ints w' (some ⟨B2, 0, none⟩) nD D
 c4 : nC <= 4
 d4 : nD <= 4
 c1 : 1 <= nC
 d1 : 1 <= nD
 b1 : w.heap.size <= B1
 b2 : w.heap.size <= B2
 q0 : p <= q
 q1 : q <= p + 20
theorem Blk.own {base : Nat} (h : Blk W B zs) (hl : zs.length = n) (hb : base <= B) (hn : n <= 1000) : W.ownsRow base 3 1 (.slice (some ⟨B, 0, none⟩) n n) n (zs.map (Value.int .i64)) := by
 subst hl
 exact ⟨by simp, .inr ⟨B, zs.length, _, rfl, hb, h, qG _, by unfold maxLen; omega, by simp, by rw [List.take_of_length_le (by simp)]⟩⟩
theorem Ints.setFar (h : Ints W a n zs) (hB : ∀ b o, a = some ⟨b, o, none⟩ -> b ≠ B) (i : Nat) (v : Value) : Ints (W.setCell ⟨B, i, none⟩ v) a n zs := by
 refine ⟨h.1, fun k hk => ?_⟩;obtain ⟨b, off, e, hc⟩ := h.2 k hk
 exact ⟨b, off, e, (World.cell?_of_block (Below.heap_setCell W ⟨B, i, none⟩ v b (hB b off e))).trans hc⟩
theorem Ints.cut {k : Nat} (h : Ints W a n zs) (hk : k <= n) : Ints W a k (zs.take k) := by
 refine ⟨by rw [List.length_take, h.1]; omega, fun i hi => ?_⟩;obtain ⟨b, off, e, hc⟩ := h.2 i (by omega)
 exact ⟨b, off, e, by rw [hc]; simp [hi]⟩
theorem FmN.set {q : Int} {nC nD : Nat} {C D : List Int} (h : FmN w W R a n cap bs p q B1 nC B2 nD C D) {B : Nat} (hB : w.heap.size <= B) (h1 : B1 ≠ B) (h2 : B2 ≠ B) (hR : R < w.heap.size) (ha : 0 < n -> ∀ b o, a = some ⟨b, o, none⟩ -> b < w.heap.size) (i : Nat) (v : Value) : FmN w (W.setCell ⟨B, i, none⟩ v) R a n cap bs p q B1 nC B2 nD C D :=
 ⟨h.t.setNewF hB i v, h.r.setNew (by omega) (fun h0 b o e => by have := ha h0 b o e; omega) i v, h.c.setFar (fun b o e => by simp only [qA, qB] at e; omega) i v, h.d.setFar (fun b o e => by simp only [qA, qB] at e; omega) i v, h.c4, h.d4, h.c1, h.d1, h.b1, h.b2, h.q0, h.q1⟩
theorem bnd.up {M N : Int} (h : bnd M zs) (hM : M <= N) : bnd N zs := fun i => by have := h i; omega
theorem litF_4 (j : Nat) (hj : j < 4) : -10000001 <= ([10000000, -10000000, 1000, 77] : List Int)[j]?.getD 0 /\ ([10000000, -10000000, 1000, 77] : List Int)[j]?.getD 0 <= 10000001 := by
 rcases j with _ | _ | _ | _ | j <;> first | omega | simp
theorem litF_2 (j : Nat) (hj : j < 2) : -10000001 <= ([10000001, -10000001] : List Int)[j]?.getD 0 /\ ([10000001, -10000001] : List Int)[j]?.getD 0 <= 10000001 := by
 rcases j with _ | _ | _ | _ | j <;> first | omega | simp
theorem form_f (R : Nat) (a : Option Addr) (n cap : Nat) (bs : List Int) (p N : Int) {w : World} (hR : Rd w R a n cap bs p) (hp : 0 <= p) (hp1 : p <= 8000000) (hN : 1 <= N) (hN1 : N <= 1000) (ha : 0 < n -> ∀ b o, a = some ⟨b, o, none⟩ -> b < w.heap.size) :
  Calls Tryz.prog 150 #[.pointer (some ⟨R, 0, none⟩), .int .i64 N] w fun e w' => ∃ B1 nC cC B2 nD cD K C D q, e = .returned (formV (some ⟨B1, 0, none⟩) nC cC (some ⟨B2, 0, none⟩) nD cD K) /\ FmN w w' R a n cap bs p q B1 nC B2 nD C D := by
 have hRl := hR.c.lt;have bx := Cel.new w [.slice none 0 0, .slice none 0 0, .int .i64 0] 95;have B0 := (Below.refl w.heap.size w).alloc (qG _) (.cells #[.slice none 0 0, .slice none 0 0, .int .i64 0] 95);obtain ⟨i0, hi, hz0, hz1, hz2⟩ := info_parts Tryz.infoInt
 go_enter Tryz.func150, Tryz.ntmps150
 go_wp2_with fail
 refine (small_f R a n cap bs p (hR.below B0) hp (by omega) (fun h0 b o e => by have := ha h0 b o e; have := B0.size; omega)).mono ?_;rintro e w1 ⟨B1, B2, C, D, K, rfl, t1, R1, f1, s1, s2, s3, s4⟩;have al := (Below.refl w1.heap.size w1).alloc (qG _) (.cells #[.slice (some ⟨B1, 0, none⟩) 3 3, .slice (some ⟨B2, 0, none⟩) 2 2, .int .i64 K] 95);have z1 := f1.b1;have z2 := f1.b2;have z3 := t1.size;rw [qC] at z1 z2 z3;have lt1 := f1.k1.lt;have lt2 := f1.k2.lt
 have s0 : SmI w (w1.alloc (.cells #[.slice (some ⟨B1, 0, none⟩) 3 3, .slice (some ⟨B2, 0, none⟩) 2 2, .int .i64 K] 95)) R a n cap bs (p + 6) w1.heap.size B1 B2 C D K 10000001 :=
  ⟨((Touch.of B0).trans t1).trans (Touch.of al), R1.below al, (f1.below al).mono (by rw [qC]; omega), Cel.new w1 _ _, (bx.touch t1 (by omega)).below al, by omega, by omega, by omega, hRl, ha, s1.up (by omega), s2.up (by omega)⟩
 obtain ⟨fb, hfb⟩ : ∃ x, x = w1.heap.size := ⟨_, rfl⟩
 obtain ⟨W2, hW2⟩ : ∃ W, W = w1.alloc (.cells #[.slice (some ⟨B1, 0, none⟩) 3 3, .slice (some ⟨B2, 0, none⟩) 2 2, .int .i64 K] 95) := ⟨_, rfl⟩
 rw [<- hfb, <- hW2] at s0
 go_wp2_with fail
 rw [<- hfb, <- hW2];clear hfb hW2 hR bx B0 t1 R1 f1 al z1 z2 z3 lt1 lt2 s1 s2;refine (pick_any R a n cap bs (p + 6) 4 s0.r).mono ?_;rintro e w3 ⟨r, r0, r1, rfl, t3, R3⟩;have s := s0.pick t3 R3;clear s0 t3 R3
 go_upto_if 10 with fail
 go_cut [] (fun wx => ∃ C q, SmI w wx R a n cap bs q fb B1 B2 C D K 10000001 /\ p <= q /\ q <= p + 9)
 case first =>
  by_cases hr : r = 0
  ·have hr' : (r == 0) = true := by simpa using hr
   go_upto_region 3 with fail
   clear hr hr' r0 r1;refine wp_region_ends (fun X => X.cell? ⟨fb, 0, none⟩ = some (.slice (some ⟨B1, 0, none⟩) 3 3)) (fun _ => True) 10 (by kernel_rfl) ?_;have sd := s.below ((Below.refl _ _).drew);obtain ⟨V0, hV0⟩ : ∃ V, V = w3.drew := ⟨_, rfl⟩
   rw [<- hV0] at sd ⊢;clear hV0 s;have hS0 : (fun X : World => X.cell? ⟨fb, 0, none⟩ = some (.slice (some ⟨B1, 0, none⟩) 3 3)) V0 /\ True := ⟨sd.cb.cell 0, trivial⟩
   refine tkl 0 rfl hS0 ?_;refine tkl 1 rfl hS0 ?_;refine tkl 2 rfl hS0 ?_;refine tkl 5 rfl hS0 ?_;clear hS0;refine wpAnyE_two (i := 3) (j := 4) (by kernel_rfl) rfl rfl (fun Kn hK => ?_) (fun Kn hK => ?_)
   ·go_simp;refine (pick_any R a n cap bs _ 3 sd.r).mono ?_;rintro e wA ⟨ri, r0, r1, rfl, t5, R5⟩;obtain ⟨i, rfl⟩ := Int.eq_ofNat_of_zero_le r0;have hi : i < 3 := by omega
    have hi' : (i : Int) < 3 := by omega
    clear r0 r1;have sa := sd.pick t5 R5;clear t5 R5;dsimp only;refine kk0 hK (sa.cb.cell 0) ?_;clear hK;refine wpAnyE_two (i := 4) (j := 6) (by kernel_rfl) rfl rfl (fun Kn hK => ?_) (fun Kn hK => ?_)
    ·go_simp;have al := (Below.refl wA.heap.size wA).alloc (qG _) (.cells #[.int .i64 10000000, .int .i64 (-10000000), .int .i64 1000, .int .i64 77] 3);have lb := Cel.new wA [.int .i64 10000000, .int .i64 (-10000000), .int .i64 1000, .int .i64 77] 3;have sb := sa.below al;clear al;refine kk0 hK (sb.cb.cell 0) ?_;clear hK;refine wpAnyE_one (i := 6) (by kernel_rfl) rfl (fun Kn hK => ?_);go_simp;refine (pick_any R a n cap bs _ 4 sb.r).mono ?_;rintro e wB ⟨rj, r0, r1, rfl, t5, R5⟩;obtain ⟨j, rfl⟩ := Int.eq_ofNat_of_zero_le r0;have hj : j < 4 := by omega
     have hj' : (j : Int) < 4 := by omega
     clear r0 r1;have sc := sb.pick t5 R5;replace lb := lb.touch t5 (by have h1 := sa.hR; have h2 := sa.t.size; omega);clear t5 R5;dsimp only;refine kk0 hK (sc.cb.cell 0) ?_;clear hK;have hS5 : (fun X : World => X.cell? ⟨fb, 0, none⟩ = some (.slice (some ⟨B1, 0, none⟩) 3 3)) wB /\ True := ⟨sc.cb.cell 0, trivial⟩
     refine tkl 7 rfl hS5 ?_;have hc := lit_cell (xs := [10000000, -10000000, 1000, 77]) lb hj;have hy := litF_4 j hj;generalize ([10000000, -10000000, 1000, 77] : List Int)[j]?.getD 0 = y at hc hy;refine wpAnyE_one (i := 8) (by kernel_rfl) rfl (fun Kn hK => ?_);go_simp;refine kk0 hK (sc.cb.cell 0) ?_;clear hK;refine tkl 9 rfl hS5 ?_;have s6 := sc.setC i hy.1 hy.2;have kc := sc.f.k1.cell i (by rw [sc.f.l1]; omega);have kf := sc.f.k1.free i;have kl := sc.f.k1.lt;refine wpAnyE_one (i := 10) (by kernel_rfl) rfl (fun Kn hK => ?_);go_simp;refine kk0 hK (s6.cb.cell 0) ?_;clear hK;refine wod ?_ _;clear hS5 hc kc kf lb
     go_wp2
     go_meet
     case rel => exact ⟨_, _, s6, by omega, by omega⟩
    go_simp;refine (pick_any R a n cap bs _ 4 sa.r).mono ?_;rintro e wB ⟨rj, r0, r1, rfl, t5, R5⟩;obtain ⟨j, rfl⟩ := Int.eq_ofNat_of_zero_le r0;have hj : j < 4 := by omega
    have hj' : (j : Int) < 4 := by omega
    clear r0 r1;have sb := sa.pick t5 R5;clear t5 R5;dsimp only;refine kk0 hK (sb.cb.cell 0) ?_;clear hK;refine wpAnyE_one (i := 4) (by kernel_rfl) rfl (fun Kn hK => ?_);go_simp;have al := (Below.refl wB.heap.size wB).alloc (qG _) (.cells #[.int .i64 10000000, .int .i64 (-10000000), .int .i64 1000, .int .i64 77] 3);have lb := Cel.new wB [.int .i64 10000000, .int .i64 (-10000000), .int .i64 1000, .int .i64 77] 3;have sc := sb.below al;clear al;refine kk0 hK (sc.cb.cell 0) ?_;clear hK;have hS5 : (fun X : World => X.cell? ⟨fb, 0, none⟩ = some (.slice (some ⟨B1, 0, none⟩) 3 3)) (wB.alloc (.cells #[.int .i64 10000000, .int .i64 (-10000000), .int .i64 1000, .int .i64 77] 3)) /\ True := ⟨sc.cb.cell 0, trivial⟩
    refine tkl 7 rfl hS5 ?_;have hc := lit_cell (xs := [10000000, -10000000, 1000, 77]) lb hj;have hy := litF_4 j hj;generalize ([10000000, -10000000, 1000, 77] : List Int)[j]?.getD 0 = y at hc hy;refine wpAnyE_one (i := 8) (by kernel_rfl) rfl (fun Kn hK => ?_);go_simp;refine kk0 hK (sc.cb.cell 0) ?_;clear hK;refine tkl 9 rfl hS5 ?_;have s6 := sc.setC i hy.1 hy.2;have kc := sc.f.k1.cell i (by rw [sc.f.l1]; omega);have kf := sc.f.k1.free i;have kl := sc.f.k1.lt;refine wpAnyE_one (i := 10) (by kernel_rfl) rfl (fun Kn hK => ?_);go_simp;refine kk0 hK (s6.cb.cell 0) ?_;clear hK;refine wod ?_ _;clear hS5 hc kc kf lb
    go_wp2
    go_meet
    case rel => exact ⟨_, _, s6, by omega, by omega⟩
   go_simp;have al := (Below.refl V0.heap.size V0).alloc (qG _) (.cells #[.int .i64 10000000, .int .i64 (-10000000), .int .i64 1000, .int .i64 77] 3);have lb := Cel.new V0 [.int .i64 10000000, .int .i64 (-10000000), .int .i64 1000, .int .i64 77] 3;have sa := sd.below al;clear al;refine kk0 hK (sa.cb.cell 0) ?_;clear hK;refine wpAnyE_one (i := 3) (by kernel_rfl) rfl (fun Kn hK => ?_);go_simp;refine (pick_any R a n cap bs _ 3 sa.r).mono ?_;rintro e wA ⟨ri, r0, r1, rfl, t5, R5⟩;obtain ⟨i, rfl⟩ := Int.eq_ofNat_of_zero_le r0;have hi : i < 3 := by omega
   have hi' : (i : Int) < 3 := by omega
   clear r0 r1;have sb := sa.pick t5 R5;replace lb := lb.touch t5 (by have h1 := sd.hR; have h2 := sd.t.size; omega);clear t5 R5;dsimp only;refine kk0 hK (sb.cb.cell 0) ?_;clear hK;refine wpAnyE_one (i := 6) (by kernel_rfl) rfl (fun Kn hK => ?_);go_simp;refine (pick_any R a n cap bs _ 4 sb.r).mono ?_;rintro e wB ⟨rj, r0, r1, rfl, t5, R5⟩;obtain ⟨j, rfl⟩ := Int.eq_ofNat_of_zero_le r0;have hj : j < 4 := by omega
   have hj' : (j : Int) < 4 := by omega
   clear r0 r1;have sc := sb.pick t5 R5;replace lb := lb.touch t5 (by have h1 := sd.hR; have h2 := sd.t.size; omega);clear t5 R5;dsimp only;refine kk0 hK (sc.cb.cell 0) ?_;clear hK;have hS5 : (fun X : World => X.cell? ⟨fb, 0, none⟩ = some (.slice (some ⟨B1, 0, none⟩) 3 3)) wB /\ True := ⟨sc.cb.cell 0, trivial⟩
   refine tkl 7 rfl hS5 ?_;have hc := lit_cell (xs := [10000000, -10000000, 1000, 77]) lb hj;have hy := litF_4 j hj;generalize ([10000000, -10000000, 1000, 77] : List Int)[j]?.getD 0 = y at hc hy;refine wpAnyE_one (i := 8) (by kernel_rfl) rfl (fun Kn hK => ?_);go_simp;refine kk0 hK (sc.cb.cell 0) ?_;clear hK;refine tkl 9 rfl hS5 ?_;have s6 := sc.setC i hy.1 hy.2;have kc := sc.f.k1.cell i (by rw [sc.f.l1]; omega);have kf := sc.f.k1.free i;have kl := sc.f.k1.lt;refine wpAnyE_one (i := 10) (by kernel_rfl) rfl (fun Kn hK => ?_);go_simp;refine kk0 hK (s6.cb.cell 0) ?_;clear hK;refine wod ?_ _;clear hS5 hc kc kf lb
   go_wp2
   go_meet
   case rel => exact ⟨_, _, s6, by omega, by omega⟩
  have hr' : (r == 0) = false := by simpa using hr
  go_wp2
  go_meet
  case rel => exact ⟨_, _, s, by omega, by omega⟩
 case rest =>
  clear s r0 r1;obtain ⟨C, q, s0, q0, q1⟩ := hcut
  go_wp2_with fail
  refine (pick_any R a n cap bs q N s0.r).mono ?_;rintro e w4 ⟨u, u0, u1, rfl, t4, R4⟩;have s := s0.pick t4 R4;clear s0 t4 R4
  by_cases hu : 0 < u
  ·have c0 := s.cb.cell 0;have c1 := s.cb.cell 1;have c2 := s.cb.cell 2;have g0 := s.rb.cell 0;have g1 := s.rb.cell 1;have g2 := s.rb.cell 2;have h0 := s.rb.free 0;have h1 := s.rb.free 1;have h2 := s.rb.free 2;simp only [qE, qF] at c0 c1 c2 g0 g1 g2;have l1 := s.cb.lt;have l2 := s.rb.lt;have hf := s.hf;have b1 := s.f.b1;have b2 := s.f.b2;have m1 : ¬ w.heap.size = fb := by omega
   have m2 : ¬ fb = w.heap.size := by omega
   go_wp2
   refine bodyPost_ret (v := formV (some ⟨B1, 0, none⟩) 3 3 (some ⟨B2, 0, none⟩) 2 2 K) (by simp [results, Tryz.results150, go_sem, g0, g1, g2]) rfl ⟨B1, 3, 3, B2, 2, 2, K, C, D, q + 1, rfl, ?_⟩
   exact (((FmN.mk s.t s.r (s.f.k1.ints' s.f.l1) (s.f.k2.ints' s.f.l2) (by omega) (by omega) (by omega) (by omega) (by omega) (by omega) (by omega) (by omega)).set (B := w.heap.size) (qG _) (by omega) (by omega) hRl ha 0 _).set (B := w.heap.size) (qG _) (by omega) (by omega) hRl ha 1 _).set (B := w.heap.size) (qG _) (by omega) (by omega) hRl ha 2 _
  obtain rfl : u = 0 := by omega
  go_wp2_with fail
  refine (pick_any R a n cap bs (q + 1) 4 s.r).mono ?_;rintro e w5 ⟨v, v0, v1, rfl, t5, R5⟩;have s' := s.pick t5 R5;clear s t5 R5;have s := s';clear s' u0 u1 hu
  rcases (show v = 0 \/ v = 1 \/ v = 2 \/ v = 3 from by omega) with rfl | rfl | rfl | rfl
  ·have c0 := s.cb.cell 0;have c1 := s.cb.cell 1;have c2 := s.cb.cell 2;have e0 := s.cb.free 0;have g0 := s.rb.cell 0;have g1 := s.rb.cell 1;have g2 := s.rb.cell 2;have h0 := s.rb.free 0;have h1 := s.rb.free 1;have h2 := s.rb.free 2;simp only [qE, qF] at c0 c1 c2 g0 g1 g2;have l1 := s.cb.lt;have l2 := s.rb.lt;have hf := s.hf;have b1 := s.f.b1;have b2 := s.f.b2;have m1 : ¬ w.heap.size = fb := by omega
   have m2 : ¬ fb = w.heap.size := by omega
   go_wp2
   refine bodyPost_ret (v := formV (some ⟨B1, 0, none⟩) 2 3 (some ⟨B2, 0, none⟩) 2 2 K) (by simp [results, Tryz.results150, go_sem, g0, g1, g2]) rfl ⟨B1, 2, 3, B2, 2, 2, K, C.take 2, D, q + 1 + 1, rfl, ?_⟩
   exact ((((FmN.mk s.t s.r ((s.f.k1.ints' s.f.l1).cut (by omega)) (s.f.k2.ints' s.f.l2) (by omega) (by omega) (by omega) (by omega) (by omega) (by omega) (by omega) (by omega)).set (B := fb) (by omega) s.n1 s.n2 hRl ha 0 _).set (B := w.heap.size) (qG _) (by omega) (by omega) hRl ha 0 _).set (B := w.heap.size) (qG _) (by omega) (by omega) hRl ha 1 _).set (B := w.heap.size) (qG _) (by omega) (by omega) hRl ha 2 _
  ·have al := (Below.refl w5.heap.size w5).alloc (qG _) (.cells #[.int .i64 0] 3);have sa := s.below al;have oD := sa.f.k2.own (base := w.heap.size + 1) sa.f.l2 sa.f.b2 (by omega);have hsz := s.t.size;have c1 := s.cb.cell 1;simp only [qE, qF] at c1;clear al s
   go_wp2_with (at_builtin; refine wpList_append_own _ rfl (.tmp 47) (.tmp 48) 24 rfl (w.heap.size + 1) 3 i0 (.int .i64 0) 1 8 Tryz.underlying24 hi hz0 hz1 hz2 rfl (by decide) _ _ _ rfl oD ⟨w5.heap.size, 0, none⟩ 1 1 [.int .i64 0] rfl rfl ?d1 ?d2 ?d3 ?d4 ?d5 ?_)
   case d1 =>
    intro i u hu
    match i, hu with
    | 0, hu => simp at hu; subst hu; simp [Addr.add]
   case d2 => intro u hu; simp at hu; subst hu; rfl
   case d3 => unfold maxLen; omega
   case d4 => omega
   case d5 => have := sa.hf; have := sa.cb.lt; omega
   intro v' w6 hown hgrow _
   rcases hown.2 with ⟨_, hh⟩ | ⟨g, cap', cur, rfl, hg, hh, hl, _, _, _⟩
   ·omega
   have hI : Ints w6 (some ⟨g, 0, none⟩) 3 (D ++ [0]) := by
    refine ⟨by rw [List.length_append, sa.f.l2]; rfl, fun i hi => ⟨g, 0, rfl, ?_⟩⟩;have := hown.cellAt i (by omega);rw [Nat.zero_add, this];have e2 : D.map (Value.int .i64) ++ [Value.int .i64 0] = (D ++ [0]).map (Value.int .i64) := by simp
    rw [e2, List.getElem?_map];have hl3 : i < (D ++ [0]).length := by rw [List.length_append, sa.f.l2]; exact hi
    rw [qD hl3];simp [qD hl3]
   have hgr : ∀ k, k < (w5.alloc (.cells #[.int .i64 0] 3)).heap.size -> k ≠ B2 -> w6.heap[k]? = (w5.alloc (.cells #[.int .i64 0] 3)).heap[k]? := fun k hk hne => hgrow.block k hk (fun e => hne (by simpa [Value.ownBlock] using e));have T6 : Touch (fun x => x = B2) (w5.alloc (.cells #[.int .i64 0] 3)) w6 := ⟨hgrow.os, hgrow.tape, hgrow.output, hgrow.size, fun k hk hs => hgr k hk hs⟩
   have b2 := sa.f.b2;have b1 := sa.f.b1;have t6 : Touch (fun x => x = R) w w6 := ⟨T6.os.trans sa.t.os, T6.tape.trans sa.t.tape, T6.output.trans sa.t.output, Nat.le_trans sa.t.size T6.size, fun k hk hs => (T6.block k (Nat.lt_of_lt_of_le hk sa.t.size) (by omega)).trans (sa.t.block k hk hs)⟩
   have r6 := sa.r.touch T6 (by omega) (fun h0 b o e => by have := ha h0 b o e; omega);have cb6 := sa.cb.touch T6 (fun e => sa.n2 e.symm);have rb6 := sa.rb.touch T6 (by omega);have C6 := (sa.f.k1.touchF T6 sa.f.ne).ints' sa.f.l1;have hf := sa.hf;have n1 := sa.n1
   have gfb : g ≠ fb := fun e => by
    have h1 : w6.heap[fb]? = _ := cb6;rw [<- e, hh] at h1;simp at h1
   have gr : g ≠ w.heap.size := by omega
   have c0 := cb6.cell 0;have c1' := cb6.cell 1;have c2 := cb6.cell 2;have e1 := cb6.free 1;have r0 := rb6.cell 0;have r1 := rb6.cell 1;have r2 := rb6.cell 2;have g0 := rb6.free 0;have g1 := rb6.free 1;have g2 := rb6.free 2;simp only [qE, qF] at c0 c1' c2 r0 r1 r2;have l1 := cb6.lt;have l2 := rb6.lt;have m1 : ¬ w.heap.size = fb := by omega
   have m2 : ¬ fb = w.heap.size := by omega
   have hq := FmN.mk (p := p) t6 r6 C6 hI (by omega) (by omega) (by omega) (by omega) (by omega) (by omega) (by omega) (by omega);clear hown hgrow hgr T6 oD sa c1 C6 hI r6 t6 cb6 rb6
   go_wp2
   refine bodyPost_ret (v := formV (some ⟨B1, 0, none⟩) 3 3 (some ⟨g, 0, none⟩) 3 cap' K) (by simp [results, Tryz.results150, go_sem, r0, r1, r2]) rfl ⟨B1, 3, 3, g, 3, cap', K, C, D ++ [0], q + 1 + 1, rfl, ?_⟩
   exact (((hq.set (B := fb) (by omega) n1 gfb hRl ha 1 _).set (B := w.heap.size) (qG _) (by omega) gr hRl ha 0 _).set (B := w.heap.size) (qG _) (by omega) gr hRl ha 1 _).set (B := w.heap.size) (qG _) (by omega) gr hRl ha 2 _
  ·have al := (Below.refl w5.heap.size w5).alloc (qG _) (.cells #[.int .i64 10000001, .int .i64 (-10000001), .int .i64 10000000] 3);have lb0 := Cel.new w5 [.int .i64 10000001, .int .i64 (-10000001), .int .i64 10000000] 3;have sa := s.below al;have hRR := s.hR;have hsz := s.t.size;clear al s
   go_wp2_with fail
   refine (pick_any R a n cap bs _ 3 sa.r).mono ?_;rintro e w6 ⟨r, r0, r1, rfl, t6, R6⟩;obtain ⟨j, rfl⟩ := Int.eq_ofNat_of_zero_le r0;have hj : j < 3 := by omega
   have hj' : (j : Int) < 3 := by omega
   have s := sa.pick t6 R6;have lb := lb0.touch t6 (by omega);have hc := lit_cell (xs := [10000001, -10000001, 10000000]) lb hj;generalize ([10000001, -10000001, 10000000] : List Int)[j]?.getD 0 = y at hc;clear r0 r1 sa t6 R6 lb lb0;have c0 := s.cb.cell 0;have c1 := s.cb.cell 1;have c2 := s.cb.cell 2;have e2 := s.cb.free 2;have g0 := s.rb.cell 0;have g1 := s.rb.cell 1;have g2 := s.rb.cell 2;have h0 := s.rb.free 0;have h1 := s.rb.free 1;have h2 := s.rb.free 2;simp only [qE, qF] at c0 c1 c2 g0 g1 g2;have l1 := s.cb.lt;have l2 := s.rb.lt;have hf := s.hf;have b1 := s.f.b1;have b2 := s.f.b2;have m1 : ¬ w.heap.size = fb := by omega
   have m2 : ¬ fb = w.heap.size := by omega
   go_wp2
   refine bodyPost_ret (v := formV (some ⟨B1, 0, none⟩) 3 3 (some ⟨B2, 0, none⟩) 2 2 y) (by simp [results, Tryz.results150, go_sem, g0, g1, g2]) rfl ⟨B1, 3, 3, B2, 2, 2, y, C, D, q + 1 + 1 + 1, rfl, ?_⟩
   exact ((((FmN.mk s.t s.r (s.f.k1.ints' s.f.l1) (s.f.k2.ints' s.f.l2) (by omega) (by omega) (by omega) (by omega) (by omega) (by omega) (by omega) (by omega)).set (B := fb) (by omega) s.n1 s.n2 hRl ha 2 _).set (B := w.heap.size) (qG _) (by omega) (by omega) hRl ha 0 _).set (B := w.heap.size) (qG _) (by omega) (by omega) hRl ha 1 _).set (B := w.heap.size) (qG _) (by omega) (by omega) hRl ha 2 _
  go_upto_region 7 with fail
  refine wp_region_ends (fun X => X.cell? ⟨fb, 0, none⟩ = some (.slice (some ⟨B1, 0, none⟩) 3 3)) (fun _ => True) 10 (by kernel_rfl) ?_;have sd := s.below ((Below.refl _ _).drew);obtain ⟨V0, hV0⟩ : ∃ V, V = w5.drew := ⟨_, rfl⟩
  rw [<- hV0] at sd ⊢;clear hV0 s;have hS0 : (fun X : World => X.cell? ⟨fb, 0, none⟩ = some (.slice (some ⟨B1, 0, none⟩) 3 3)) V0 /\ True := ⟨sd.cb.cell 0, trivial⟩
  refine tkl 0 rfl hS0 ?_;refine tkl 1 rfl hS0 ?_;refine tkl 2 rfl hS0 ?_;refine tkl 5 rfl hS0 ?_;clear hS0;refine wpAnyE_two (i := 3) (j := 4) (by kernel_rfl) rfl rfl (fun Kn hK => ?_) (fun Kn hK => ?_)
  ·go_simp;refine (pick_any R a n cap bs _ 3 sd.r).mono ?_;rintro e wA ⟨ri, r0, r1, rfl, t5, R5⟩;obtain ⟨i, rfl⟩ := Int.eq_ofNat_of_zero_le r0;have hi : i < 3 := by omega
   have hi' : (i : Int) < 3 := by omega
   clear r0 r1;have sa := sd.pick t5 R5;clear t5 R5;dsimp only;refine kk0 hK (sa.cb.cell 0) ?_;clear hK;refine wpAnyE_two (i := 4) (j := 6) (by kernel_rfl) rfl rfl (fun Kn hK => ?_) (fun Kn hK => ?_)
   ·go_simp;have al := (Below.refl wA.heap.size wA).alloc (qG _) (.cells #[.int .i64 10000001, .int .i64 (-10000001)] 3);have lb := Cel.new wA [.int .i64 10000001, .int .i64 (-10000001)] 3;have sb := sa.below al;clear al;refine kk0 hK (sb.cb.cell 0) ?_;clear hK;refine wpAnyE_one (i := 6) (by kernel_rfl) rfl (fun Kn hK => ?_);go_simp;refine (pick_any R a n cap bs _ 2 sb.r).mono ?_;rintro e wB ⟨rj, r0, r1, rfl, t5, R5⟩;obtain ⟨j, rfl⟩ := Int.eq_ofNat_of_zero_le r0;have hj : j < 2 := by omega
    have hj' : (j : Int) < 2 := by omega
    clear r0 r1;have sc := sb.pick t5 R5;replace lb := lb.touch t5 (by have h1 := sa.hR; have h2 := sa.t.size; omega);clear t5 R5;dsimp only;refine kk0 hK (sc.cb.cell 0) ?_;clear hK;have hS5 : (fun X : World => X.cell? ⟨fb, 0, none⟩ = some (.slice (some ⟨B1, 0, none⟩) 3 3)) wB /\ True := ⟨sc.cb.cell 0, trivial⟩
    refine tkl 7 rfl hS5 ?_;have hc := lit_cell (xs := [10000001, -10000001]) lb hj;have hy := litF_2 j hj;generalize ([10000001, -10000001] : List Int)[j]?.getD 0 = y at hc hy;refine wpAnyE_one (i := 8) (by kernel_rfl) rfl (fun Kn hK => ?_);go_simp;refine kk0 hK (sc.cb.cell 0) ?_;clear hK;refine tkl 9 rfl hS5 ?_;have s6 := sc.setC i hy.1 hy.2;have kc := sc.f.k1.cell i (by rw [sc.f.l1]; omega);have kf := sc.f.k1.free i;have kl := sc.f.k1.lt;refine wpAnyE_one (i := 10) (by kernel_rfl) rfl (fun Kn hK => ?_);go_simp;refine kk0 hK (s6.cb.cell 0) ?_;clear hK;refine wod ?_ _;clear hS5 hc kc kf lb;have s := s6;clear s6;have c0 := s.cb.cell 0;have c1 := s.cb.cell 1;have c2 := s.cb.cell 2;have g0 := s.rb.cell 0;have g1 := s.rb.cell 1;have g2 := s.rb.cell 2;have h0 := s.rb.free 0;have h1 := s.rb.free 1;have h2 := s.rb.free 2;simp only [qE, qF] at c0 c1 c2 g0 g1 g2;have l1 := s.cb.lt;have l2 := s.rb.lt;have hf := s.hf;have b1 := s.f.b1;have b2 := s.f.b2;have m1 : ¬ w.heap.size = fb := by omega
    have m2 : ¬ fb = w.heap.size := by omega
    go_wp2
    refine bodyPost_ret (v := formV (some ⟨B1, 0, none⟩) 3 3 (some ⟨B2, 0, none⟩) 2 2 K) (by simp [results, Tryz.results150, go_sem, g0, g1, g2]) rfl ⟨B1, 3, 3, B2, 2, 2, K, C.set i y, D, q + 1 + 1 + 1 + 1, rfl, ?_⟩
    exact (((FmN.mk s.t s.r (s.f.k1.ints' s.f.l1) (s.f.k2.ints' s.f.l2) (by omega) (by omega) (by omega) (by omega) (by omega) (by omega) (by omega) (by omega)).set (B := w.heap.size) (qG _) (by omega) (by omega) hRl ha 0 _).set (B := w.heap.size) (qG _) (by omega) (by omega) hRl ha 1 _).set (B := w.heap.size) (qG _) (by omega) (by omega) hRl ha 2 _
   go_simp;refine (pick_any R a n cap bs _ 2 sa.r).mono ?_;rintro e wB ⟨rj, r0, r1, rfl, t5, R5⟩;obtain ⟨j, rfl⟩ := Int.eq_ofNat_of_zero_le r0;have hj : j < 2 := by omega
   have hj' : (j : Int) < 2 := by omega
   clear r0 r1;have sb := sa.pick t5 R5;clear t5 R5;dsimp only;refine kk0 hK (sb.cb.cell 0) ?_;clear hK;refine wpAnyE_one (i := 4) (by kernel_rfl) rfl (fun Kn hK => ?_);go_simp;have al := (Below.refl wB.heap.size wB).alloc (qG _) (.cells #[.int .i64 10000001, .int .i64 (-10000001)] 3);have lb := Cel.new wB [.int .i64 10000001, .int .i64 (-10000001)] 3;have sc := sb.below al;clear al;refine kk0 hK (sc.cb.cell 0) ?_;clear hK;have hS5 : (fun X : World => X.cell? ⟨fb, 0, none⟩ = some (.slice (some ⟨B1, 0, none⟩) 3 3)) (wB.alloc (.cells #[.int .i64 10000001, .int .i64 (-10000001)] 3)) /\ True := ⟨sc.cb.cell 0, trivial⟩
   refine tkl 7 rfl hS5 ?_;have hc := lit_cell (xs := [10000001, -10000001]) lb hj;have hy := litF_2 j hj;generalize ([10000001, -10000001] : List Int)[j]?.getD 0 = y at hc hy;refine wpAnyE_one (i := 8) (by kernel_rfl) rfl (fun Kn hK => ?_);go_simp;refine kk0 hK (sc.cb.cell 0) ?_;clear hK;refine tkl 9 rfl hS5 ?_;have s6 := sc.setC i hy.1 hy.2;have kc := sc.f.k1.cell i (by rw [sc.f.l1]; omega);have kf := sc.f.k1.free i;have kl := sc.f.k1.lt;refine wpAnyE_one (i := 10) (by kernel_rfl) rfl (fun Kn hK => ?_);go_simp;refine kk0 hK (s6.cb.cell 0) ?_;clear hK;refine wod ?_ _;clear hS5 hc kc kf lb;have s := s6;clear s6;have c0 := s.cb.cell 0;have c1 := s.cb.cell 1;have c2 := s.cb.cell 2;have g0 := s.rb.cell 0;have g1 := s.rb.cell 1;have g2 := s.rb.cell 2;have h0 := s.rb.free 0;have h1 := s.rb.free 1;have h2 := s.rb.free 2;simp only [qE, qF] at c0 c1 c2 g0 g1 g2;have l1 := s.cb.lt;have l2 := s.rb.lt;have hf := s.hf;have b1 := s.f.b1;have b2 := s.f.b2;have m1 : ¬ w.heap.size = fb := by omega
   have m2 : ¬ fb = w.heap.size := by omega
   go_wp2
   refine bodyPost_ret (v := formV (some ⟨B1, 0, none⟩) 3 3 (some ⟨B2, 0, none⟩) 2 2 K) (by simp [results, Tryz.results150, go_sem, g0, g1, g2]) rfl ⟨B1, 3, 3, B2, 2, 2, K, C.set i y, D, q + 1 + 1 + 1 + 1, rfl, ?_⟩
   exact (((FmN.mk s.t s.r (s.f.k1.ints' s.f.l1) (s.f.k2.ints' s.f.l2) (by omega) (by omega) (by omega) (by omega) (by omega) (by omega) (by omega) (by omega)).set (B := w.heap.size) (qG _) (by omega) (by omega) hRl ha 0 _).set (B := w.heap.size) (qG _) (by omega) (by omega) hRl ha 1 _).set (B := w.heap.size) (qG _) (by omega) (by omega) hRl ha 2 _
  go_simp;have al := (Below.refl V0.heap.size V0).alloc (qG _) (.cells #[.int .i64 10000001, .int .i64 (-10000001)] 3);have lb := Cel.new V0 [.int .i64 10000001, .int .i64 (-10000001)] 3;have sa := sd.below al;clear al;refine kk0 hK (sa.cb.cell 0) ?_;clear hK;refine wpAnyE_one (i := 3) (by kernel_rfl) rfl (fun Kn hK => ?_);go_simp;refine (pick_any R a n cap bs _ 3 sa.r).mono ?_;rintro e wA ⟨ri, r0, r1, rfl, t5, R5⟩;obtain ⟨i, rfl⟩ := Int.eq_ofNat_of_zero_le r0;have hi : i < 3 := by omega
  have hi' : (i : Int) < 3 := by omega
  clear r0 r1;have sb := sa.pick t5 R5;replace lb := lb.touch t5 (by have h1 := sd.hR; have h2 := sd.t.size; omega);clear t5 R5;dsimp only;refine kk0 hK (sb.cb.cell 0) ?_;clear hK;refine wpAnyE_one (i := 6) (by kernel_rfl) rfl (fun Kn hK => ?_);go_simp;refine (pick_any R a n cap bs _ 2 sb.r).mono ?_;rintro e wB ⟨rj, r0, r1, rfl, t5, R5⟩;obtain ⟨j, rfl⟩ := Int.eq_ofNat_of_zero_le r0;have hj : j < 2 := by omega
  have hj' : (j : Int) < 2 := by omega
  clear r0 r1;have sc := sb.pick t5 R5;replace lb := lb.touch t5 (by have h1 := sd.hR; have h2 := sd.t.size; omega);clear t5 R5;dsimp only;refine kk0 hK (sc.cb.cell 0) ?_;clear hK;have hS5 : (fun X : World => X.cell? ⟨fb, 0, none⟩ = some (.slice (some ⟨B1, 0, none⟩) 3 3)) wB /\ True := ⟨sc.cb.cell 0, trivial⟩
  refine tkl 7 rfl hS5 ?_;have hc := lit_cell (xs := [10000001, -10000001]) lb hj;have hy := litF_2 j hj;generalize ([10000001, -10000001] : List Int)[j]?.getD 0 = y at hc hy;refine wpAnyE_one (i := 8) (by kernel_rfl) rfl (fun Kn hK => ?_);go_simp;refine kk0 hK (sc.cb.cell 0) ?_;clear hK;refine tkl 9 rfl hS5 ?_;have s6 := sc.setC i hy.1 hy.2;have kc := sc.f.k1.cell i (by rw [sc.f.l1]; omega);have kf := sc.f.k1.free i;have kl := sc.f.k1.lt;refine wpAnyE_one (i := 10) (by kernel_rfl) rfl (fun Kn hK => ?_);go_simp;refine kk0 hK (s6.cb.cell 0) ?_;clear hK;refine wod ?_ _;clear hS5 hc kc kf lb;have s := s6;clear s6;have c0 := s.cb.cell 0;have c1 := s.cb.cell 1;have c2 := s.cb.cell 2;have g0 := s.rb.cell 0;have g1 := s.rb.cell 1;have g2 := s.rb.cell 2;have h0 := s.rb.free 0;have h1 := s.rb.free 1;have h2 := s.rb.free 2;simp only [qE, qF] at c0 c1 c2 g0 g1 g2;have l1 := s.cb.lt;have l2 := s.rb.lt;have hf := s.hf;have b1 := s.f.b1;have b2 := s.f.b2;have m1 : ¬ w.heap.size = fb := by omega
  have m2 : ¬ fb = w.heap.size := by omega
  go_wp2
  refine bodyPost_ret (v := formV (some ⟨B1, 0, none⟩) 3 3 (some ⟨B2, 0, none⟩) 2 2 K) (by simp [results, Tryz.results150, go_sem, g0, g1, g2]) rfl ⟨B1, 3, 3, B2, 2, 2, K, C.set i y, D, q + 1 + 1 + 1 + 1, rfl, ?_⟩
  exact (((FmN.mk s.t s.r (s.f.k1.ints' s.f.l1) (s.f.k2.ints' s.f.l2) (by omega) (by omega) (by omega) (by omega) (by omega) (by omega) (by omega) (by omega)).set (B := w.heap.size) (qG _) (by omega) (by omega) hRl ha 0 _).set (B := w.heap.size) (qG _) (by omega) (by omega) hRl ha 1 _).set (B := w.heap.size) (qG _) (by omega) (by omega) hRl ha 2 _
theorem Rd.ha (h : Rd w R a n cap bs p) : 0 < n -> ∀ b o, a = some ⟨b, o, none⟩ -> b < w.heap.size := fun h0 b o hab => by
 obtain ⟨b', o', hab', hcc⟩ := h.b.2.1 0 h0;rw [hab] at hab';simp only [qA, qB, and_true] at hab';have := block_lt hcc
 omega
theorem Ints.off (h : Ints w a n zs) (t : Touch S w w') (hS : ∀ b o, a = some ⟨b, o, none⟩ -> ¬ S b) : Ints w' a n zs := by
 refine ⟨h.1, fun i hi => ?_⟩;obtain ⟨b, off, hab, hc⟩ := h.2 i hi
 exact ⟨b, off, hab, (World.cell?_of_block (t.block b (block_lt hc) (hS b off hab))).trans hc⟩
theorem FA.off {c : Option Addr} {f : Frm} (h : FA w a n c m f) (t : Touch S w w') (h1 : ∀ b o, a = some ⟨b, o, none⟩ -> ¬ S b) (h2 : ∀ b o, c = some ⟨b, o, none⟩ -> ¬ S b) : FA w' a n c m f := ⟨h.C.off t h1, h.D.off t h2, h.hn, h.hm⟩
theorem FmN.fa {q : Int} {nC nD : Nat} {C D : List Int} (h : FmN w W R a n cap bs p q B1 nC B2 nD C D) (K : Int) : FA W (some ⟨B1, 0, none⟩) nC (some ⟨B2, 0, none⟩) nD (C, D, K) := ⟨h.c, h.d, by have := h.c4; omega, by have := h.d4; omega⟩
theorem FA.far {lo : Nat} {f : Frm} (h : FA w (some ⟨B1, 0, none⟩) n (some ⟨B2, 0, none⟩) m f) (t : Touch S w w') (hS : ∀ k, S k -> k < lo) (h1 : lo <= B1) (h2 : lo <= B2) : FA w' (some ⟨B1, 0, none⟩) n (some ⟨B2, 0, none⟩) m f :=
 h.off t (fun b o e hs => by simp only [qA, qB] at e; have := hS b hs; omega) (fun b o e hs => by simp only [qA, qB] at e; have := hS b hs; omega)
theorem FA.setFar {X : Nat} {f : Frm} (h : FA w (some ⟨B1, 0, none⟩) n (some ⟨B2, 0, none⟩) m f) (h1 : B1 ≠ X) (h2 : B2 ≠ X) (i : Nat) (v : Value) : FA (w.setCell ⟨X, i, none⟩ v) (some ⟨B1, 0, none⟩) n (some ⟨B2, 0, none⟩) m f :=
 ⟨h.C.setFar (fun b o e => by simp only [qA, qB] at e; omega) i v, h.D.setFar (fun b o e => by simp only [qA, qB] at e; omega) i v, h.hn, h.hm⟩
end Go.Proofs.YtpmihhbgjimpmaaGreatDoor
