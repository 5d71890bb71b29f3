/-
  Lemmas that the claim's last text rests on.
-/
import Derived.Test.YtemcinobgdphnaaGreatQLB
namespace Go.Proofs.YtemcinobgdphnaaGreat
open Go.RowKit
open Option.some renaming injEq → qA
open Addr.mk renaming injEq → qB
open List renaming length_append → qC, length_cons → qD, length_nil → qE
open Nat renaming le_refl → qF
set_option linter.unusedVariables false
set_option maxRecDepth 100000
set_option maxHeartbeats 25600000
variable {R cap n : Nat} {S : Nat -> Prop} {W w : World} {a : Option Addr} {bs xs zs : List Int} {p : Int} {v : Value}
theorem bnd.set {M : Int} (h : bnd M zs) (i : Nat) {x : Int} (h1 : -M <= x) (h2 : x <= M) : bnd M (zs.set i x) := by
 intro j;have hj := h j
 by_cases e : i = j
 ·subst e
  by_cases hl : i < zs.length
  ·rw [List.getElem?_set_self hl]; simp; omega
  rw [List.getElem?_eq_none (by rw [List.length_set]; omega)];rw [List.getElem?_eq_none (by omega)] at hj
  exact hj
 rw [List.getElem?_set_ne e]; exact hj
structure SmI (w W : World) (R : Nat) (a : Option Addr) (n cap : Nat) (bs : List Int) (q : Int) (fb B1 B2 : Nat) (C D : List Int) (K M : Int) : Prop where
 t : Touch (fun x => x = R) w W
 r : Rd W R a n cap bs q
 f : F32 W (w.heap.size + 1) B1 B2 C D
 cb : Cel W fb [.slice (some ⟨B1, 0, none⟩) 3 3, .slice (some ⟨B2, 0, none⟩) 2 2, .int .i64 K] 86
 rb : Cel W w.heap.size [.slice none 0 0, .slice none 0 0, .int .i64 0] 86
 hf : w.heap.size < fb
 n1 : B1 ≠ fb
 n2 : B2 ≠ fb
 hR : R < w.heap.size
 ha : 0 < n -> ∀ b o, a = some ⟨b, o, none⟩ -> b < w.heap.size
 sC : bnd M C
 sD : bnd M D
section
variable {w W W' : World} {R : Nat} {a : Option Addr} {n cap : Nat} {bs : List Int} {q : Int} {fb B1 B2 : Nat} {C D : List Int} {K M : Int}
theorem SmI.below (s : SmI w W R a n cap bs q fb B1 B2 C D K M) (b : Below W.heap.size W W') : SmI w W' R a n cap bs q fb B1 B2 C D K M :=
 ⟨s.t.trans (Touch.of b), s.r.below b, s.f.below b, s.cb.below b, s.rb.below b, s.hf, s.n1, s.n2, s.hR, s.ha, s.sC, s.sD⟩
theorem Blk.touchF {B : Nat} (h : Blk W B zs) (t : Touch S W W') (hn : ¬ S B) : Blk W' B zs := by
 have hl := h.lt;unfold Blk at *;rw [t.block B hl hn]; exact h
theorem SmI.pick {q' : Int} (s : SmI w W R a n cap bs q fb B1 B2 C D K M) (t : Touch (fun x => x = R) W W') (r : Rd W' R a n cap bs q') : SmI w W' R a n cap bs q' fb B1 B2 C D K M := by
 have h1 := s.f.b1;have h2 := s.f.b2;have h3 := s.hR;have h4 := s.hf
 exact ⟨s.t.trans t, r, ⟨s.f.k1.touchF t (by omega), s.f.k2.touchF t (by omega), s.f.l1, s.f.l2, s.f.b1, s.f.b2, s.f.ne⟩, s.cb.touch t (by omega), s.rb.touch t (by omega), s.hf, s.n1, s.n2, s.hR, s.ha, s.sC, s.sD⟩
theorem Rd.setNew (h : Rd W R a n cap bs q) {B : Nat} (hB : B ≠ R) (ha : 0 < n -> ∀ b o, a = some ⟨b, o, none⟩ -> b ≠ B) (i : Nat) (v : Value) : Rd (W.setCell ⟨B, i, none⟩ v) R a n cap bs q := by
 have t : Touch (fun x => x = B) W (W.setCell ⟨B, i, none⟩ v) := Touch.setCell (S := fun x => x = B) (Touch.refl _ _) rfl _
 exact h.touch t (fun e => hB e.symm) (fun h0 b o e => ha h0 b o e)
theorem SmI.setC (s : SmI w W R a n cap bs q fb B1 B2 C D K M) (i : Nat) {x : Int} (x1 : -M <= x) (x2 : x <= M) : SmI w (W.setCell ⟨B1, i, none⟩ (.int .i64 x)) R a n cap bs q fb B1 B2 (C.set i x) D K M := by
 have h1 := s.f.b1;have h3 := s.hR
 exact ⟨s.t.setNewF (by omega) i _, s.r.setNew (by omega) (fun h0 b o e => by have := s.ha h0 b o e; omega) i _, s.f.setC i x, s.cb.setOther (fun e => s.n1 e.symm) _ _, s.rb.so, s.hf, s.n1, s.n2, s.hR, s.ha, s.sC.set i x1 x2, s.sD⟩
theorem SmI.setD (s : SmI w W R a n cap bs q fb B1 B2 C D K M) (i : Nat) {x : Int} (x1 : -M <= x) (x2 : x <= M) : SmI w (W.setCell ⟨B2, i, none⟩ (.int .i64 x)) R a n cap bs q fb B1 B2 C (D.set i x) K M := by
 have h1 := s.f.b2;have h3 := s.hR
 exact ⟨s.t.setNewF (by omega) i _, s.r.setNew (by omega) (fun h0 b o e => by have := s.ha h0 b o e; omega) i _, s.f.setD i x, s.cb.setOther (fun e => s.n2 e.symm) _ _, s.rb.so, s.hf, s.n1, s.n2, s.hR, s.ha, s.sC, s.sD.set i x1 x2⟩
theorem lit_cell {L j : Nat} {t : TypeId} (h : Cel W L (xs.map (Value.int .i64)) t) (hj : j < xs.length) : W.cell? ⟨L, j, none⟩ = some (.int .i64 (xs[j]?.getD 0)) := by
 have := h.cell j;rw [List.getElem?_map, List.getElem?_eq_getElem hj] at this;rw [List.getElem?_eq_getElem hj]
 exact this
end
theorem lit_6 (j : Nat) (hj : j < 6) : -2 <= ([0, 0, 0, 1, -1, 2] : List Int)[j]?.getD 0 /\ ([0, 0, 0, 1, -1, 2] : List Int)[j]?.getD 0 <= 2 := by
 rcases j with _ | _ | _ | _ | _ | _ | _ | _ | j <;> first | omega | simp
theorem lit_5 (j : Nat) (hj : j < 5) : -2 <= ([0, 0, 1, -1, 2] : List Int)[j]?.getD 0 /\ ([0, 0, 1, -1, 2] : List Int)[j]?.getD 0 <= 2 := by
 rcases j with _ | _ | _ | _ | _ | _ | _ | _ | j <;> first | omega | simp
theorem lit_8 (j : Nat) (hj : j < 8) : -20 <= ([0, 0, 1, -1, 5, -5, 20, -20] : List Int)[j]?.getD 0 /\ ([0, 0, 1, -1, 5, -5, 20, -20] : List Int)[j]?.getD 0 <= 20 := by
 rcases j with _ | _ | _ | _ | _ | _ | _ | _ | j <;> first | omega | simp
theorem small_f (R : Nat) (a : Option Addr) (n cap : Nat) (bs : List Int) (p : Int) {w : World} (hR : Rd w R a n cap bs p) (hp : 0 <= p) (hp1 : p <= 9000000) (ha : 0 < n -> ∀ b o, a = some ⟨b, o, none⟩ -> b < w.heap.size) :
  Calls Tryz.prog 122 #[.pointer (some ⟨R, 0, none⟩)] w fun e w' => ∃ B1 B2 C D K, e = .returned (formV (some ⟨B1, 0, none⟩) 3 3 (some ⟨B2, 0, none⟩) 2 2 K) /\ Touch (fun x => x = R) w w' /\ Rd w' R a n cap bs (p + 6) /\ F32 w' w.heap.size B1 B2 C D /\ bnd 2 C /\ bnd 2 D /\ -20 <= K /\ K <= 20 := by
 have hRl := hR.c.lt;have bx := Cel.new w [.slice none 0 0, .slice none 0 0, .int .i64 0] 86;have B0 := (Below.refl w.heap.size w).alloc (qF _) (.cells #[.slice none 0 0, .slice none 0 0, .int .i64 0] 86)
 go_enter Tryz.func122, Tryz.ntmps122
 go_wp2_with fail
 refine (szero_f).mono ?_;rintro e w1 ⟨B1, B2, rfl, b1, f1⟩;have al := (Below.refl w1.heap.size w1).alloc (qF _) (.cells #[.slice (some ⟨B1, 0, none⟩) 3 3, .slice (some ⟨B2, 0, none⟩) 2 2, .int .i64 0] 86);have z1 := f1.b1;have z2 := f1.b2;rw [World.size_alloc] at z1 z2;have lt1 := f1.k1.lt;have lt2 := f1.k2.lt;have b2 := btr b1 al;have BW := btr B0 b2;have hlw : w.heap.size < w1.heap.size := (bx.below b1).lt
 have s0 : SmI w (w1.alloc (.cells #[.slice (some ⟨B1, 0, none⟩) 3 3, .slice (some ⟨B2, 0, none⟩) 2 2, .int .i64 0] 86)) R a n cap bs (p + ((0 : Nat) : Int)) w1.heap.size B1 B2 [0, 0, 0] [0, 0] 0 2 :=
  ⟨Touch.of BW, by have h := hR.below BW; rw [show p + ((0 : Nat) : Int) = p by omega]; exact h, (f1.below al).mono (by rw [World.size_alloc]; omega), Cel.new w1 _ _, bx.below b2, hlw, by omega, by omega, hRl, ha, fun i => by rcases i with _ | _ | _ | i <;> simp, fun i => by rcases i with _ | _ | i <;> simp⟩
 obtain ⟨fb, hfb⟩ : ∃ x, x = w1.heap.size := ⟨_, rfl⟩
 rw [<- hfb] at s0
 go_wp2_with fail
 rw [<- hfb];clear hfb hR bx B0 b1 f1 al b2 BW z1 z2 lt1 lt2 hlw
 go_loopw [4] (fun i wr => ∃ (k : Nat) (C : List Int), k <= 3 /\ i = .int .i64 k /\ SmI w wr R a n cap bs (p + (k : Int)) fb B1 B2 C [0, 0] 0 2) (fun i _ => 3 - (intOf i).toNat)
 case atStart => exact ⟨0, _, Nat.zero_le _, rfl, s0⟩
 case round =>
  clear s0;obtain ⟨k, C, hk, rfl, s⟩ := hrel
  by_cases hlt : k < 3
  ·have hk3 : (k : Int) < 3 := by omega
   go_upto_region 5 with fail
   refine wp_region_ends (fun X => X.cell? ⟨fb, 0, none⟩ = some (.slice (some ⟨B1, 0, none⟩) 3 3)) (fun _ => True) 9 (by kernel_rfl) ?_;have sd := s.below ((Below.refl _ _).drew);obtain ⟨V0, hV0⟩ : ∃ V, V = wr.drew := ⟨_, rfl⟩
   rw [<- hV0] at sd ⊢;clear hV0 s;have hS0 : (fun X : World => X.cell? ⟨fb, 0, none⟩ = some (.slice (some ⟨B1, 0, none⟩) 3 3)) V0 /\ True := ⟨sd.cb.cell 0, trivial⟩
   refine tkl 0 rfl hS0 ?_;refine tkl 1 rfl hS0 ?_;refine tkl 2 rfl hS0 ?_;refine tkl 4 rfl hS0 ?_;refine wpAnyE_two (i := 3) (j := 5) (by kernel_rfl) rfl rfl (fun Kn hK => ?_) (fun Kn hK => ?_)
   ·go_simp;have al := (Below.refl V0.heap.size V0).alloc (qF _) (.cells #[.int .i64 0, .int .i64 0, .int .i64 0, .int .i64 1, .int .i64 (-1), .int .i64 2] 3);have lb0 := Cel.new V0 [.int .i64 0, .int .i64 0, .int .i64 0, .int .i64 1, .int .i64 (-1), .int .i64 2] 3;have s4 := sd.below al;refine kk0 hK (s4.cb.cell 0) ?_;clear hK;refine wpAnyE_one (i := 5) (by kernel_rfl) rfl (fun Kn hK => ?_);go_simp;refine (pick_any R a n cap bs _ 6 s4.r).mono ?_;rintro e w5 ⟨r, r0, r1, rfl, t5, R5⟩;obtain ⟨j, rfl⟩ := Int.eq_ofNat_of_zero_le r0;have hj : j < 6 := by omega
    have hj' : (j : Int) < 6 := by omega
    have s5 := s4.pick t5 R5;have lb := lb0.touch t5 (by have h1 := sd.hR; have h2 := sd.t.size; omega);dsimp only;have hS5 : (fun X : World => X.cell? ⟨fb, 0, none⟩ = some (.slice (some ⟨B1, 0, none⟩) 3 3)) w5 /\ True := ⟨s5.cb.cell 0, trivial⟩
    refine kk0 hK (hS5.1) ?_;clear hK hS0;refine tkl 6 rfl hS5 ?_;have hc := lit_cell (xs := [0, 0, 0, 1, -1, 2]) lb hj;have hy := lit_6 j hj;generalize ([0, 0, 0, 1, -1, 2] : List Int)[j]?.getD 0 = y at hc hy;refine wpAnyE_one (i := 7) (by kernel_rfl) rfl (fun Kn hK => ?_);go_simp;refine kk0 hK (hS5.1) ?_;clear hK;refine tkl 8 rfl hS5 ?_;have s6 := s5.setC k hy.1 hy.2;have kc := s5.f.k1.cell k (by rw [s5.f.l1]; omega);have kf := s5.f.k1.free k;have kl := s5.f.k1.lt;refine wpAnyE_one (i := 9) (by kernel_rfl) rfl (fun Kn hK => ?_);go_simp;refine kk0 hK (s6.cb.cell 0) ?_;clear hK;refine wod ?_ _;clear hS5 hc kc kf
    go_wp2
    go_roundw
    case rel => exact ⟨k + 1, _, by omega, by go_num, by have h := s6; rw [show p + (k : Int) + 1 = p + ((k + 1 : Nat) : Int) by omega] at h; exact h⟩
    case measure => simp [intOf]; omega
   go_simp;refine (pick_any R a n cap bs _ 6 sd.r).mono ?_;rintro e w5 ⟨r, r0, r1, rfl, t5, R5⟩;obtain ⟨j, rfl⟩ := Int.eq_ofNat_of_zero_le r0;have hj : j < 6 := by omega
   have hj' : (j : Int) < 6 := by omega
   have s5a := sd.pick t5 R5;dsimp only;refine kk0 hK (s5a.cb.cell 0) ?_;clear hK;refine wpAnyE_one (i := 3) (by kernel_rfl) rfl (fun Kn hK => ?_);go_simp;have al := (Below.refl w5.heap.size w5).alloc (qF _) (.cells #[.int .i64 0, .int .i64 0, .int .i64 0, .int .i64 1, .int .i64 (-1), .int .i64 2] 3);have lb := Cel.new w5 [.int .i64 0, .int .i64 0, .int .i64 0, .int .i64 1, .int .i64 (-1), .int .i64 2] 3;have s5 := s5a.below al;have hS5 : (fun X : World => X.cell? ⟨fb, 0, none⟩ = some (.slice (some ⟨B1, 0, none⟩) 3 3)) (w5.alloc (.cells #[.int .i64 0, .int .i64 0, .int .i64 0, .int .i64 1, .int .i64 (-1), .int .i64 2] 3)) /\ True := ⟨s5.cb.cell 0, trivial⟩
   refine kk0 hK (hS5.1) ?_;clear hK hS0;refine tkl 6 rfl hS5 ?_;have hc := lit_cell (xs := [0, 0, 0, 1, -1, 2]) lb hj;have hy := lit_6 j hj;generalize ([0, 0, 0, 1, -1, 2] : List Int)[j]?.getD 0 = y at hc hy;refine wpAnyE_one (i := 7) (by kernel_rfl) rfl (fun Kn hK => ?_);go_simp;refine kk0 hK (hS5.1) ?_;clear hK;refine tkl 8 rfl hS5 ?_;have s6 := s5.setC k hy.1 hy.2;have kc := s5.f.k1.cell k (by rw [s5.f.l1]; omega);have kf := s5.f.k1.free k;have kl := s5.f.k1.lt;refine wpAnyE_one (i := 9) (by kernel_rfl) rfl (fun Kn hK => ?_);go_simp;refine kk0 hK (s6.cb.cell 0) ?_;clear hK;refine wod ?_ _;clear hS5 hc kc kf
   go_wp2
   go_roundw
   case rel => exact ⟨k + 1, _, by omega, by go_num, by have h := s6; rw [show p + (k : Int) + 1 = p + ((k + 1 : Nat) : Int) by omega] at h; exact h⟩
   case measure => simp [intOf]; omega
  have HK : Hid (k = 3) := show k = 3 by omega
  have hlt' : ¬ (k : Int) < 3 := by omega
  have s0 : SmI w wr R a n cap bs (p + 3 + ((0 : Nat) : Int)) fb B1 B2 C [0, 0] 0 2 := by have h := s; rw [show p + (k : Int) = p + 3 + ((0 : Nat) : Int) by have := HK.out; omega] at h; exact h
  clear s hk
  go_wp2_with fail
  go_loopw [5] (fun i wx => ∃ (l : Nat) (D : List Int), l <= 2 /\ i = .int .i64 l /\ SmI w wx R a n cap bs (p + 3 + (l : Int)) fb B1 B2 C D 0 2) (fun i _ => 2 - (intOf i).toNat)
  case atStart => exact ⟨0, _, Nat.zero_le _, rfl, s0⟩
  case round =>
   clear s0 HK;obtain ⟨l, D, hl, rfl, s⟩ := hrel
   by_cases hl2 : l < 2
   ·have hk3 : (l : Int) < 2 := by omega
    go_upto_region 9 with fail
    refine wp_region_ends (fun X => X.cell? ⟨fb, 1, none⟩ = some (.slice (some ⟨B2, 0, none⟩) 2 2)) (fun _ => True) 9 (by kernel_rfl) ?_;have sd := s.below ((Below.refl _ _).drew);obtain ⟨V0, hV0⟩ : ∃ V, V = wr.drew := ⟨_, rfl⟩
    rw [<- hV0] at sd ⊢;clear hV0 s;have hS0 : (fun X : World => X.cell? ⟨fb, 1, none⟩ = some (.slice (some ⟨B2, 0, none⟩) 2 2)) V0 /\ True := ⟨sd.cb.cell 1, trivial⟩
    refine tkl 0 rfl hS0 ?_;refine tkl 1 rfl hS0 ?_;refine tkl 2 rfl hS0 ?_;refine tkl 4 rfl hS0 ?_;refine wpAnyE_two (i := 3) (j := 5) (by kernel_rfl) rfl rfl (fun Kn hK => ?_) (fun Kn hK => ?_)
    ·go_simp;have al := (Below.refl V0.heap.size V0).alloc (qF _) (.cells #[.int .i64 0, .int .i64 0, .int .i64 1, .int .i64 (-1), .int .i64 2] 3);have lb0 := Cel.new V0 [.int .i64 0, .int .i64 0, .int .i64 1, .int .i64 (-1), .int .i64 2] 3;have s4 := sd.below al;refine kk0 hK (s4.cb.cell 1) ?_;clear hK;refine wpAnyE_one (i := 5) (by kernel_rfl) rfl (fun Kn hK => ?_);go_simp;refine (pick_any R a n cap bs _ 5 s4.r).mono ?_;rintro e w5 ⟨r, r0, r1, rfl, t5, R5⟩;obtain ⟨j, rfl⟩ := Int.eq_ofNat_of_zero_le r0;have hj : j < 5 := by omega
     have hj' : (j : Int) < 5 := by omega
     have s5 := s4.pick t5 R5;have lb := lb0.touch t5 (by have h1 := sd.hR; have h2 := sd.t.size; omega);dsimp only;have hS5 : (fun X : World => X.cell? ⟨fb, 1, none⟩ = some (.slice (some ⟨B2, 0, none⟩) 2 2)) w5 /\ True := ⟨s5.cb.cell 1, trivial⟩
     refine kk0 hK (hS5.1) ?_;clear hK hS0;refine tkl 6 rfl hS5 ?_;have hc := lit_cell (xs := [0, 0, 1, -1, 2]) lb hj;have hy := lit_5 j hj;generalize ([0, 0, 1, -1, 2] : List Int)[j]?.getD 0 = y at hc hy;refine wpAnyE_one (i := 7) (by kernel_rfl) rfl (fun Kn hK => ?_);go_simp;refine kk0 hK (hS5.1) ?_;clear hK;refine tkl 8 rfl hS5 ?_;have s6 := s5.setD l hy.1 hy.2;have kc := s5.f.k2.cell l (by rw [s5.f.l2]; omega);have kf := s5.f.k2.free l;have kl := s5.f.k2.lt;refine wpAnyE_one (i := 9) (by kernel_rfl) rfl (fun Kn hK => ?_);go_simp;refine kk0 hK (s6.cb.cell 1) ?_;clear hK;refine wod ?_ _;clear hS5 hc kc kf
     go_wp2
     go_roundw
     case rel => exact ⟨l + 1, _, by omega, by go_num, by have h := s6; rw [show p + 3 + (l : Int) + 1 = p + 3 + ((l + 1 : Nat) : Int) by omega] at h; exact h⟩
     case measure => simp [intOf]; omega
    go_simp;refine (pick_any R a n cap bs _ 5 sd.r).mono ?_;rintro e w5 ⟨r, r0, r1, rfl, t5, R5⟩;obtain ⟨j, rfl⟩ := Int.eq_ofNat_of_zero_le r0;have hj : j < 5 := by omega
    have hj' : (j : Int) < 5 := by omega
    have s5a := sd.pick t5 R5;dsimp only;refine kk0 hK (s5a.cb.cell 1) ?_;clear hK;refine wpAnyE_one (i := 3) (by kernel_rfl) rfl (fun Kn hK => ?_);go_simp;have al := (Below.refl w5.heap.size w5).alloc (qF _) (.cells #[.int .i64 0, .int .i64 0, .int .i64 1, .int .i64 (-1), .int .i64 2] 3);have lb := Cel.new w5 [.int .i64 0, .int .i64 0, .int .i64 1, .int .i64 (-1), .int .i64 2] 3;have s5 := s5a.below al;have hS5 : (fun X : World => X.cell? ⟨fb, 1, none⟩ = some (.slice (some ⟨B2, 0, none⟩) 2 2)) (w5.alloc (.cells #[.int .i64 0, .int .i64 0, .int .i64 1, .int .i64 (-1), .int .i64 2] 3)) /\ True := ⟨s5.cb.cell 1, trivial⟩
    refine kk0 hK (hS5.1) ?_;clear hK hS0;refine tkl 6 rfl hS5 ?_;have hc := lit_cell (xs := [0, 0, 1, -1, 2]) lb hj;have hy := lit_5 j hj;generalize ([0, 0, 1, -1, 2] : List Int)[j]?.getD 0 = y at hc hy;refine wpAnyE_one (i := 7) (by kernel_rfl) rfl (fun Kn hK => ?_);go_simp;refine kk0 hK (hS5.1) ?_;clear hK;refine tkl 8 rfl hS5 ?_;have s6 := s5.setD l hy.1 hy.2;have kc := s5.f.k2.cell l (by rw [s5.f.l2]; omega);have kf := s5.f.k2.free l;have kl := s5.f.k2.lt;refine wpAnyE_one (i := 9) (by kernel_rfl) rfl (fun Kn hK => ?_);go_simp;refine kk0 hK (s6.cb.cell 1) ?_;clear hK;refine wod ?_ _;clear hS5 hc kc kf
    go_wp2
    go_roundw
    case rel => exact ⟨l + 1, _, by omega, by go_num, by have h := s6; rw [show p + 3 + (l : Int) + 1 = p + 3 + ((l + 1 : Nat) : Int) by omega] at h; exact h⟩
    case measure => simp [intOf]; omega
   have hl2' : ¬ (l : Int) < 2 := by omega
   have s4 := s.below ((Below.refl wr.heap.size wr).alloc (qF _) (.cells #[.int .i64 0, .int .i64 0, .int .i64 1, .int .i64 (-1), .int .i64 5, .int .i64 (-5), .int .i64 20, .int .i64 (-20)] 3));have lb0 := Cel.new wr [.int .i64 0, .int .i64 0, .int .i64 1, .int .i64 (-1), .int .i64 5, .int .i64 (-5), .int .i64 20, .int .i64 (-20)] 3;have hRR := s.hR;have hsz := s.t.size;clear s
   go_wp2_with fail
   refine (pick_any R a n cap bs _ 8 s4.r).mono ?_;rintro e w5 ⟨r, r0, r1, rfl, t5, R5⟩;obtain ⟨j, rfl⟩ := Int.eq_ofNat_of_zero_le r0;have hj : j < 8 := by omega
   have hj' : (j : Int) < 8 := by omega
   have s5 := s4.pick t5 R5;have lb := lb0.touch t5 (by omega);have hc := lit_cell (xs := [0, 0, 1, -1, 5, -5, 20, -20]) lb hj;have hy := lit_8 j hj;generalize ([0, 0, 1, -1, 5, -5, 20, -20] : List Int)[j]?.getD 0 = y at hc hy;have d0 := s5.cb.cell 0;have d1 := s5.cb.cell 1;have d2 := s5.cb.cell 2;have e2 := s5.cb.free 2;have r0 := s5.rb.cell 0;have r1 := s5.rb.cell 1;have r2 := s5.rb.cell 2;have g0 := s5.rb.free 0;have g1 := s5.rb.free 1;have g2 := s5.rb.free 2;simp only [List.getElem?_cons_zero, List.getElem?_cons_succ] at d0 d1 d2 r0 r1 r2;have l1 := s5.cb.lt;have l2 := s5.rb.lt;have h4 := s5.hf;have n3 : ¬ w.heap.size = fb := by omega
   have n4 : ¬ fb = w.heap.size := by omega
   have q1 := s5.f.b1;have q2 := s5.f.b2;have F5 := s5.f;have RR := s5.r;have TT := s5.t;have m1 := s5.n1;have m2 := s5.n2;have a5 := s5.ha;have c5 := s5.sC;have c6 := s5.sD;clear s4 s5 t5 R5 lb lb0
   go_wp2
   refine bodyPost_ret (v := formV (some ⟨B1, 0, none⟩) 3 3 (some ⟨B2, 0, none⟩) 2 2 y) (by simp [results, Tryz.results122, go_sem, r0, r1, r2]) rfl ⟨B1, B2, C, D, y, rfl, ?_, ?_, ?_, c5, c6, hy.1, hy.2⟩
   ·exact (((TT.setNewF (B := fb) (by omega) 2 _).setNewF (B := w.heap.size) (by omega) 0 _).setNewF (B := w.heap.size) (by omega) 1 _).setNewF (B := w.heap.size) (by omega) 2 _
   ·have h := (((RR.setNew (B := fb) (by omega) (fun h0 b o e => by have := a5 h0 b o e; omega) 2 (.int .i64 y)).setNew (B := w.heap.size) (by omega) (fun h0 b o e => by have := a5 h0 b o e; omega) 0 (.slice (some ⟨B1, 0, none⟩) 3 3)).setNew (B := w.heap.size) (by omega) (fun h0 b o e => by have := a5 h0 b o e; omega) 1 (.slice (some ⟨B2, 0, none⟩) 2 2)).setNew (B := w.heap.size) (by omega) (fun h0 b o e => by have := a5 h0 b o e; omega) 2 (.int .i64 y);rw [show p + 3 + (l : Int) + 1 = p + 6 by omega] at h
    exact h
   exact ((((F5.setOther m1 m2 2 _).setOther (by omega) (by omega) 0 _).setOther (by omega) (by omega) 1 _).setOther (by omega) (by omega) 2 _).mono (by omega)
theorem ownsRow_touch {W' : World} {base : Nat} {e : TypeId} {size : Nat} {xs : List Value} (h : W.ownsRow base e size v n xs) (t : Touch S W W') (hS : ∀ k, S k -> k < base) : W'.ownsRow base e size v n xs := by
 obtain ⟨h1, h2⟩ := h;refine ⟨h1, ?_⟩
 rcases h2 with h2 | ⟨g, cap, cur, hv, hg, hh, r⟩
 ·exact Or.inl h2
 refine Or.inr ⟨g, cap, cur, hv, hg, ?_, r⟩;rw [t.block g (lt_of_block hh) (fun hs => by have := hS g hs; omega)]; exact hh
theorem Touch.grown {W' : World} {row : Option Nat} (h : Touch S w W) (g : W.grownBy W' row) (hr : ∀ k, row = some k -> w.heap.size <= k) : Touch S w W' :=
 ⟨g.os.trans h.os, g.tape.trans h.tape, g.output.trans h.output, Nat.le_trans h.size g.size, fun k hk hs => (g.block k (Nat.lt_of_lt_of_le hk h.size) (fun e => by have := hr k e.symm; omega)).trans (h.block k hk hs)⟩
structure J (w : World) (R : Nat) (a : Option Addr) (n cap : Nat) (bs : List Int) (p : Int) (v : Value) (xs : List Int) (W : World) : Prop where
 t : Touch (fun x => x = R) w W
 r : Rd W R a n cap bs p
 o : W.ownsRow w.heap.size 3 1 v xs.length (xs.map (Value.int .i64))
 lR : R < w.heap.size
 lb : 0 < n -> ∀ b o, a = some ⟨b, o, none⟩ -> b < w.heap.size
section
variable {w W W' : World} {R : Nat} {a : Option Addr} {n cap : Nat} {bs : List Int} {p : Int} {v : Value} {xs : List Int}
theorem J.alloc (j : J w R a n cap bs p v xs W) (o : Obj) : J w R a n cap bs p v xs (W.alloc o) :=
 ⟨j.t.trans (Touch.of (bal)), j.r.below (bal), j.o.alloc o, j.lR, j.lb⟩
theorem J.pick {q : Int} (j : J w R a n cap bs p v xs W) (t : Touch (fun x => x = R) W W') (r : Rd W' R a n cap bs q) : J w R a n cap bs q v xs W' :=
 ⟨j.t.trans t, r, ownsRow_touch j.o t (fun k h => by have := j.lR; omega), j.lR, j.lb⟩
theorem J.own {v' : Value} {ys : List Int} (j : J w R a n cap bs p v xs W) (o : W'.ownsRow w.heap.size 3 1 v' ys.length (ys.map (Value.int .i64))) (g : W.grownBy W' v.ownBlock) : J w R a n cap bs p v' ys W' := by
 have hr : ∀ k, v.ownBlock = some k -> w.heap.size <= k := fun k hk => (j.o.lt k hk).1;have lR := j.lR;have T : Touch (fun x => w.heap.size <= x) W W' := ⟨g.os, g.tape, g.output, g.size, fun k hk hs => g.block k hk (fun e => hs (hr k e.symm))⟩
 exact ⟨j.t.grown g hr, j.r.touch T (by omega) (fun h0 b o hab => by have := j.lb h0 b o hab; omega), o, j.lR, j.lb⟩
theorem J.ints (j : J w R a n cap bs p v xs W) (h0 : 0 < xs.length) : ∃ g cap', v = .slice (some ⟨g, 0, none⟩) xs.length cap' /\ xs.length <= cap' /\ w.heap.size <= g /\ Ints W (some ⟨g, 0, none⟩) xs.length xs /\ ∀ i, W.frozen? ⟨g, i, none⟩ = false := by
 rcases j.o.2 with ⟨_, h⟩ | ⟨g, cap', cur, rfl, hg, hh, hl, _, _⟩
 ·omega
 refine ⟨g, cap', rfl, hl, hg, ⟨rfl, fun i hi => ⟨g, 0, rfl, ?_⟩⟩, fun i => j.o.frozenAt i⟩;have := j.o.cellAt i (by omega);rw [Nat.zero_add, this];simp [hi]
end
theorem Touch.setNewD (h : Touch S w W) {B : Nat} (hB : w.heap.size <= B) (i : Nat) (v : Value) : Touch S w (W.setCell ⟨B, i, none⟩ v) :=
 ⟨h.os, h.tape, h.output, by rw [size_setCell]; exact h.size, fun k hk hs => by rw [Below.heap_setCell _ _ _ _ (by simp only []; omega)]; exact h.block k hk hs⟩
theorem ints_set {g s : Nat} (h : Ints W (some ⟨g, 0, none⟩) n xs) (hs : s < n) (y : Int) : Ints (W.setCell ⟨g, s, none⟩ (.int .i64 y)) (some ⟨g, 0, none⟩) n (xs.set s y) := by
 refine ⟨by rw [List.length_set]; exact h.1, fun i hi => ⟨g, 0, rfl, ?_⟩⟩
 have hc : ∀ i, i < n -> W.cell? ⟨g, i, none⟩ = some (.int .i64 (xs.getD i 0)) := fun i hi => by
  obtain ⟨b, o, e, hh⟩ := h.2 i hi;simp only [qA, qB, and_true] at e;obtain ⟨rfl, rfl⟩ := e;simpa using hh
 rw [Nat.zero_add]
 by_cases e : i = s
 ·subst e;rw [World.cell?_setCell_same' W ⟨g, i, none⟩ _ (by rw [hc i hi]; rfl)];simp [h.1, hi]
 have ho : (W.setCell ⟨g, s, none⟩ (.int .i64 y)).cell? ⟨g, i, none⟩ = W.cell? ⟨g, i, none⟩ := by
  first
   | exact World.cell?_setCell_other W ⟨g, s, none⟩ ⟨g, i, none⟩ (.int .i64 y) (by intro hh; simp only [qB] at hh; omega)
   | exact World.cell?_setCell_other W ⟨g, s, none⟩ (.int .i64 y) ⟨g, i, none⟩ (by intro hh; simp only [qB] at hh; omega)
   | exact World.cell?_setCell_other W ⟨g, s, none⟩ (.int .i64 y) (by intro hh; simp only [qB] at hh; omega)
   | exact World.cell?_setCell_other (by intro hh; simp only [qB] at hh; omega)
 rw [ho, hc i hi];simp [Ne.symm e]
structure Dn (w w' : World) (R : Nat) (a : Option Addr) (n cap : Nat) (bs : List Int) (p q : Int) (a' : Option Addr) (n' : Nat) (zs : List Int) : Prop where
 t : Touch (fun x => x = R) w w'
 r : Rd w' R a n cap bs q
 i : Ints w' a' n' zs
 h4 : n' <= 4
 h1 : 1 <= n'
 lo : ∀ b o, a' = some ⟨b, o, none⟩ -> w.heap.size <= b
 q0 : p <= q
 q1 : q <= p + 8
theorem Dn.hi {w' : World} {q : Int} {a' : Option Addr} {n' : Nat} (h : Dn w w' R a n cap bs p q a' n' zs) : ∀ b o, a' = some ⟨b, o, none⟩ -> b < w'.heap.size := fun b o e => by
 obtain ⟨b', o', e', hc⟩ := h.i.2 0 (by have := h.h1; omega);rw [e] at e';simp only [qA, qB, and_true] at e';have := block_lt hc
 omega
theorem J.setR (j : J w R a n cap bs p v xs W) {g : Nat} (hg : w.heap.size <= g) (i : Nat) (x : Value) : Rd (W.setCell ⟨g, i, none⟩ x) R a n cap bs p := by
 have lR := j.lR;have T : Touch (fun x => x = g) W (W.setCell ⟨g, i, none⟩ x) := Touch.setCell (S := fun x => x = g) (Touch.refl _ _) rfl _
 exact j.r.touch T (by omega) (fun h0 b o hab => by have := j.lb h0 b o hab; omega)
def tabV : List Int := [0, 1, 5, 20, -3, 60, 10000, -10000, 9996]
theorem vals_gen (R : Nat) (a : Option Addr) (n cap : Nat) (bs : List Int) (p N : Int) {w : World} (hR : Rd w R a n cap bs p) (hp : 0 <= p) (hp1 : p <= 9000000) (hN : 1 <= N) (hN1 : N <= 1000) (hlb : 0 < n -> ∀ b o, a = some ⟨b, o, none⟩ -> b < w.heap.size) :
  Calls Tryz.prog 82 #[.pointer (some ⟨R, 0, none⟩), .int .i64 N] w fun e w' => ∃ a' n' cap' zs q, e = .returned (.slice a' n' cap') /\ Dn w w' R a n cap bs p q a' n' zs := by
 have lR := hR.c.lt;obtain ⟨i0, hi, hz0, hz1, hz2⟩ := info_parts Tryz.infoInt
 go_enter Tryz.func82, Tryz.ntmps82
 go_wp2_with fail
 go_loopw [5, 6] (fun v i wr => ∃ k : Nat, k <= 3 /\ i = .int .i64 k /\ ∃ xs : List Int, xs.length = k /\ J w R a n cap bs (p + k) v xs wr) (fun _ i _ => 3 - (intOf i).toNat)
 case atStart =>
  exact ⟨0, by omega, rfl, [], rfl, by rw [show p + ((0 : Nat) : Int) = p by omega]; exact ⟨Touch.of (bal), hR.below (bal), World.ownsRow_lit w #[] 0 (qF _) (by unfold maxLen; omega) rfl, lR, hlb⟩⟩
 case round =>
  obtain ⟨k, hk, rfl, xs, hxs, j⟩ := hrel;have HX : Hid (xs.length = k) := hxs;clear hxs
  by_cases hlt : k < 3
  ·go_wp2_with fail
   refine (pick_any R a n cap bs (p + k) 9 (j.alloc _).r).mono ?_;rintro e w1 ⟨r, r0, r9, rfl, t1, R1⟩;have j1 := (j.alloc _).pick t1 R1;have tb := (Cel.new wr _ _).touch t1 (by have := j.t.size; omega);obtain ⟨rn, rfl⟩ := Int.eq_ofNat_of_zero_le r0
   have ct : w1.cell? ⟨wr.heap.size, rn, none⟩ = some (.int .i64 (tabV[rn]?.getD 0)) := by
    rw [tb.cell rn]
    match rn, r9 with
    | 0, _ => rfl
    | 1, _ => rfl
    | 2, _ => rfl
    | 3, _ => rfl
    | 4, _ => rfl
    | 5, _ => rfl
    | 6, _ => rfl
    | 7, _ => rfl
    | 8, _ => rfl
    | (m + 9), h => omega
   have hw := j1.t.size;clear t1 R1 tb j
   go_wp2_with (at_builtin; refine wpList_append_own _ rfl (.tmp 12) (.tmp 18) 24 rfl w.heap.size 3 i0 (.int .i64 0) 1 8 Tryz.underlying24 hi hz0 hz1 hz2 rfl (by decide) _ _ _ rfl (j1.alloc _).o ⟨w1.heap.size, 0, none⟩ 1 1 [.int .i64 (tabV[rn]?.getD 0)] rfl rfl ?c1 ?c2 ?c3 ?c4 ?c5 ?_)
   case c1 =>
    intro i u hu
    match i, hu with
    | 0, hu => simp at hu; subst hu; simp [Addr.add]
   case c2 => intro u hu; simp at hu; subst hu; rfl
   case c3 => rw [HX.out]; unfold maxLen; omega
   case c4 => rw [HX.out]; omega
   case c5 => simp; omega
   intro v' w2 hown' hgrow _;have j2 : J w R a n cap bs (p + k + 1) v' (xs ++ [tabV[rn]?.getD 0]) w2 := (j1.alloc _).own (by simpa using hown') hgrow;clear hown' hgrow j1
   go_wp2
   go_roundw
   case rel => exact ⟨k + 1, by omega, by go_num, xs ++ [tabV[rn]?.getD 0], by rw [qC, HX.out]; rfl, by have h := j2; rw [show p + (k : Int) + 1 = p + ((k + 1 : Nat) : Int) by omega] at h; exact h⟩
   case measure => simp [intOf]; omega
  obtain rfl : k = 3 := by omega
  clear hlb hR;have wW := j.t.size
  go_wp2_with fail
  refine (pick_any R a n cap bs (p + ((3 : Nat) : Int)) N j.r).mono ?_;rintro e w1 ⟨r, r0, r2, rfl, t1, R1⟩;have j1 := j.pick t1 R1;clear t1 R1 j
  by_cases hr : r = 0
  ·subst hr
   go_wp2_with fail
   refine (pick_any R a n cap bs (p + ((3 : Nat) : Int) + 1) 3 j1.r).mono ?_;rintro e w2 ⟨s, s0, s3, rfl, t2, R2⟩;have j2 := j1.pick t2 R2;clear t2 R2 j1;obtain ⟨g, cap', hv, hcap, hg, hI, hfz⟩ := j2.ints (by rw [HX.out]; omega);rw [HX.out] at hv hcap hI;subst hv
   rcases (show s = 0 \/ s = 1 \/ s = 2 from by omega) with rfl | rfl | rfl
   ·go_wp2
    go_ret
    exact ⟨_, 2, cap', xs.take 2, _, rfl, j2.t, j2.r, ⟨by rw [List.length_take, HX.out]; rfl, fun i hi => by obtain ⟨b, o, h1, h2⟩ := hI.2 i (by omega); exact ⟨b, o, h1, by rw [h2]; simp [hi]⟩⟩, by omega, by first | omega | simp, fun b o e => by simp only [qA, qB] at e; omega, by omega, by omega⟩
   ·go_wp2_with (at_builtin; refine wpList_append_own _ rfl (.tmp 41) (.tmp 42) 24 rfl w.heap.size 3 i0 (.int .i64 0) 1 8 Tryz.underlying24 hi hz0 hz1 hz2 rfl (by decide) _ _ _ rfl (j2.alloc _).o ⟨w2.heap.size, 0, none⟩ 1 1 [.int .i64 0] rfl rfl ?d1 ?d2 ?d3 ?d4 ?d5 ?_)
    case d1 =>
     intro i u hu
     match i, hu with
     | 0, hu => simp at hu; subst hu; simp [Addr.add]
    case d2 => intro u hu; simp at hu; subst hu; rfl
    case d3 => rw [HX.out]; unfold maxLen; omega
    case d4 => rw [HX.out]; omega
    case d5 => have := j2.t.size; simp; omega
    intro v' w3 hown' hgrow _;have j3 : J w R a n cap bs (p + ((3 : Nat) : Int) + 1 + 1) v' (xs ++ [0]) w3 := (j2.alloc _).own (by simpa using hown') hgrow;obtain ⟨g', cap2, hv', hcap2, hg', hI', hfz'⟩ := j3.ints (by rw [qC]; simp);have hl : (xs ++ [0]).length = 4 := by rw [qC, HX.out]; rfl
    rw [hl] at hv' hcap2 hI';subst hv';clear hown' hgrow j2 hI hfz
    go_wp2
    go_ret
    exact ⟨_, 4, cap2, _, _, rfl, j3.t, j3.r, hI', by omega, by first | omega | simp, fun b o e => by simp only [qA, qB] at e; omega, by omega, by omega⟩
   go_wp2_with fail
   refine (pick_any R a n cap bs (p + ((3 : Nat) : Int) + 1 + 1) 3 j2.r).mono ?_;rintro e w3 ⟨s, s0, s3, rfl, t3, R3⟩;have j3 := j2.pick t3 R3;obtain ⟨sn, rfl⟩ := Int.eq_ofNat_of_zero_le s0;clear t3 R3 j2 hI hfz
   go_wp2_with fail
   refine (pick_any R a n cap bs (p + ((3 : Nat) : Int) + 1 + 1 + 1) 2 (j3.alloc _).r).mono ?_;rintro e w4 ⟨u, u0, u2, rfl, t4, R4⟩;have j4 := (j3.alloc _).pick t4 R4;have tb := (Cel.new w3 _ _).touch t4 (by have := j3.t.size; omega);obtain ⟨un, rfl⟩ := Int.eq_ofNat_of_zero_le u0
   have ct : w4.cell? ⟨w3.heap.size, un, none⟩ = some (.int .i64 ([10001, -10001][un]?.getD 0)) := by
    rw [tb.cell un]
    match un, u2 with
    | 0, _ => rfl
    | 1, _ => rfl
    | (m + 2), h => omega
   obtain ⟨g2, cap2, hv2, hcap2, hg2, hI2, hfz2⟩ := j4.ints (by rw [HX.out]; omega);rw [HX.out] at hv2 hcap2 hI2;simp only [Value.slice.injEq, qA, qB, and_true, true_and] at hv2;obtain ⟨rfl, rfl⟩ := hv2
   have cg : w4.cell? ⟨g, sn, none⟩ = some (.int .i64 (xs[sn]?.getD 0)) := by
    obtain ⟨b, o, e1, hh⟩ := hI2.2 sn (by omega);simp only [qA, qB, and_true] at e1;obtain ⟨rfl, rfl⟩ := e1;simpa using hh
   have fg := hfz2 sn;have IS := ints_set hI2 (s := sn) (by omega) ([10001, -10001][un]?.getD 0);have TS := j4.t.setNewD hg2 sn (.int .i64 ([10001, -10001][un]?.getD 0));have RS := j4.setR hg2 sn (.int .i64 ([10001, -10001][un]?.getD 0));clear t4 R4 j3 j4 tb hI2 hfz2
   go_wp2
   go_ret
   exact ⟨_, 3, cap', _, _, rfl, TS, RS, IS, by omega, by first | omega | simp, fun b o e => by simp only [qA, qB] at e; omega, by omega, by omega⟩
  obtain ⟨g, cap', hv, hcap, hg, hI, hfz⟩ := j1.ints (by rw [HX.out]; omega);rw [HX.out] at hv hcap hI;subst hv;have hr' : (r == 0) = false := by simpa using hr
  go_wp2
  go_ret
  exact ⟨_, 3, cap', xs, _, rfl, j1.t, j1.r, hI, by omega, by first | omega | simp, fun b o e => by simp only [qA, qB] at e; omega, by omega, by omega⟩
theorem J.start (hR : Rd w R a n cap bs p) (hlb : 0 < n -> ∀ b o, a = some ⟨b, o, none⟩ -> b < w.heap.size) : J w R a n cap bs p (.slice none 0 0) [] w :=
 ⟨Touch.refl _ _, hR, World.ownsRow_nil _ _ _ _, hR.c.lt, hlb⟩
theorem J.lit (j : J w R a n cap bs p v xs W) (x y : Int) : J w R a n cap bs p (.slice (some ⟨W.heap.size, 0, none⟩) 2 2) [x, y] (W.alloc (.cells #[.int .i64 x, .int .i64 y] 3)) :=
 ⟨(j.alloc _).t, (j.alloc _).r, World.ownsRow_lit W #[.int .i64 x, .int .i64 y] 2 j.t.size (by unfold maxLen; omega) rfl, j.lR, j.lb⟩
theorem args_gen (R : Nat) (a : Option Addr) (n cap : Nat) (bs : List Int) (p N : Int) {w : World} (hR : Rd w R a n cap bs p) (hp : 0 <= p) (hp1 : p <= 9000000) (hN : 1 <= N) (hN1 : N <= 1000) (hlb : 0 < n -> ∀ b o, a = some ⟨b, o, none⟩ -> b < w.heap.size) :
  Calls Tryz.prog 45 #[.pointer (some ⟨R, 0, none⟩), .int .i64 N] w fun e w' => ∃ a' n' cap' zs q, e = .returned (.slice a' n' cap') /\ Dn w w' R a n cap bs p q a' n' zs := by
 have j := J.start hR hlb;obtain ⟨i0, hi, hz0, hz1, hz2⟩ := info_parts Tryz.infoInt;clear hR hlb
 go_enter Tryz.func45, Tryz.ntmps45
 go_wp2_with fail
 refine (pick_any R a n cap bs p 19 j.r).mono ?_;rintro e w1 ⟨x, x0, x1, rfl, t1, R1⟩;have j1 := j.pick t1 R1;clear t1 R1 j
 go_wp2_with fail
 refine (pick_any R a n cap bs (p + 1) 19 j1.r).mono ?_;rintro e w2 ⟨y, y0, y1, rfl, t2, R2⟩;have j2 := (j1.pick t2 R2).lit (x - 9) (y - 9);have lw2 := (j1.pick t2 R2).t.size;clear t2 R2 j1
 go_wp2_with fail
 refine (pick_any R a n cap bs (p + 1 + 1) N j2.r).mono ?_;rintro e w3 ⟨r, r0, r2, rfl, t3, R3⟩;have j3 := j2.pick t3 R3;clear t3 R3 j2
 by_cases hr : r = 0
 ·subst hr
  go_wp2_with fail
  refine (pick_any R a n cap bs (p + 1 + 1 + 1) 3 j3.r).mono ?_;rintro e w4 ⟨s, s0, s3, rfl, t4, R4⟩;have j4 := j3.pick t4 R4;clear t4 R4 j3;obtain ⟨g, cap', hv, hcap, hg, hI, hfz⟩ := j4.ints (by simp);simp only [Value.slice.injEq, qA, qB, and_true, true_and, qD, qE] at hv;obtain ⟨rfl, _, rfl⟩ := hv
  rcases (show s = 0 \/ s = 1 \/ s = 2 from by omega) with rfl | rfl | rfl
  ·go_wp2
   go_ret
   refine ⟨_, 1, 2, [x - 9], _, rfl, j4.t, j4.r, ⟨rfl, fun i hi => ?_⟩, by omega, by first | omega | simp, fun b o e => by simp only [qA, qB] at e; omega, by omega, by omega⟩;obtain rfl : i = 0 := by omega
   obtain ⟨b, o, h1, h2⟩ := hI.2 0 (by simp)
   exact ⟨b, o, h1, h2⟩
  ·go_wp2_with (at_builtin; refine wpList_append_own _ rfl (.tmp 34) (.tmp 35) 24 rfl w.heap.size 3 i0 (.int .i64 0) 1 8 Tryz.underlying24 hi hz0 hz1 hz2 rfl (by decide) _ _ _ rfl (j4.alloc _).o ⟨w4.heap.size, 0, none⟩ 1 1 [.int .i64 0] rfl rfl ?d1 ?d2 ?d3 ?d4 ?d5 ?_)
   case d1 =>
    intro i u hu
    match i, hu with
    | 0, hu => simp at hu; subst hu; simp [Addr.add]
   case d2 => intro u hu; simp at hu; subst hu; rfl
   case d3 => unfold maxLen; simp
   case d4 => simp
   case d5 => have := j4.t.size; simp; omega
   intro v' w5 hown' hgrow _;have j5 : J w R a n cap bs (p + 1 + 1 + 1 + 1) v' ([x - 9, y - 9] ++ [0]) w5 := (j4.alloc _).own (by simpa using hown') hgrow;obtain ⟨g', cap2, hv', hcap2, hg', hI', hfz'⟩ := j5.ints (by simp);subst hv';clear hown' hgrow j4 hI hfz
   go_wp2
   go_ret
   exact ⟨_, _, cap2, _, _, rfl, j5.t, j5.r, hI', by simp, by first | omega | simp, fun b o e => by simp only [qA, qB] at e; omega, by omega, by omega⟩
  go_wp2_with fail
  refine (pick_any R a n cap bs (p + 1 + 1 + 1 + 1) 2 j4.r).mono ?_;rintro e w5 ⟨s, s0, s3, rfl, t5, R5⟩;have j5 := j4.pick t5 R5;obtain ⟨sn, rfl⟩ := Int.eq_ofNat_of_zero_le s0;clear t5 R5 j4 hI hfz
  go_wp2_with fail
  refine (pick_any R a n cap bs (p + 1 + 1 + 1 + 1 + 1) 2 (j5.alloc _).r).mono ?_;rintro e w6 ⟨u, u0, u2, rfl, t6, R6⟩;have j6 := (j5.alloc _).pick t6 R6;have tb := (Cel.new w5 _ _).touch t6 (by have := j5.t.size; have := j5.lR; omega);obtain ⟨un, rfl⟩ := Int.eq_ofNat_of_zero_le u0
  have ct : w6.cell? ⟨w5.heap.size, un, none⟩ = some (.int .i64 ([10, -10][un]?.getD 0)) := by
   rw [tb.cell un]
   match un, u2 with
   | 0, _ => rfl
   | 1, _ => rfl
   | (m + 2), h => omega
  obtain ⟨g2, cap2, hv2, hcap2, hg2, hI2, hfz2⟩ := j6.ints (by simp);simp only [Value.slice.injEq, qA, qB, and_true, true_and, qD, qE] at hv2;obtain ⟨rfl, _, rfl⟩ := hv2;simp only [qD, qE] at hI2
  have cg : w6.cell? ⟨w2.heap.size, sn, none⟩ = some (.int .i64 ([x - 9, y - 9][sn]?.getD 0)) := by
   obtain ⟨b, o, e1, hh⟩ := hI2.2 sn (by omega);simp only [qA, qB, and_true] at e1;obtain ⟨rfl, rfl⟩ := e1;simpa using hh
  have fg := hfz2 sn;have IS := ints_set hI2 (s := sn) (by omega) ([10, -10][un]?.getD 0);have TS := j6.t.setNewD hg2 sn (.int .i64 ([10, -10][un]?.getD 0));have RS := j6.setR hg2 sn (.int .i64 ([10, -10][un]?.getD 0));clear t6 R6 j5 j6 tb hI2 hfz2
  go_wp2
  go_ret
  exact ⟨_, _, 2, _, _, rfl, TS, RS, IS, by omega, by first | omega | simp, fun b o e => by simp only [qA, qB] at e; omega, by omega, by omega⟩
 obtain ⟨g, cap', hv, hcap, hg, hI, hfz⟩ := j3.ints (by simp);simp only [Value.slice.injEq, qA, qB, and_true, true_and, qD, qE] at hv;obtain ⟨rfl, _, rfl⟩ := hv;have hr' : (r == 0) = false := by simpa using hr
 go_wp2
 go_ret
 exact ⟨_, _, 2, _, _, rfl, j3.t, j3.r, hI, by simp, by first | omega | simp, fun b o e => by simp only [qA, qB] at e; omega, by omega, by omega⟩
end Go.Proofs.YtemcinobgdphnaaGreat
