/-
  Lemmas that the claim's last text rests on: WayA, CatRS, WayR, WayD, WayG, WayK, WayT, MarkP2, WayK2, WayF, WayP, WayQ, WayS, WayZ, WayH, IReads.
-/
import Derived.Test.YtpmihhbgjimpmaaGreatDoorJExactSerRunCardC
import Derived.Deep.AppendSrc
import Derived.Deep.Upon
import Derived.Shelf.Abstract
import Derived.Shelf.RegionOpen
import Derived.WalkKit
import Derived.OwnWalkIn
import Derived.TacticsInMore
import Derived.LoopNIn
import Derived.LoopIn
import Derived.Test.YtpmihhbgjimpmaaGreatDoorJExactSerRunCardA
namespace Go.Proofs.YtpmihhbgjimpmaaGreatDoor
open Go.RowKit Go.Deep
set_option linter.unusedVariables false
set_option maxRecDepth 100000

/-- A way as a value. -/
abbrev wayV (ga : Option Addr) (ng gc : Nat) (pa : Option Addr) (cp : Nat) (ta : Option Addr) (nt tc : Nat) (st : Bool) : Value := .agg #[.slice ga ng gc, .slice pa 3 cp, .slice ta nt tc, .bool st]
theorem resYes {w w' : World} {e : Ending} {C D : List Int} {K : Int} (h : Res w w' e C D K) (hC : C.length = 3) (hD : D.length = 2) : ∃ B1 B2 c1 c2, e = .returned (formV (some ⟨B1, 0, none⟩) 3 c1 (some ⟨B2, 0, none⟩) 2 c2 K) ∧ Below w.heap.size w w' ∧ w.heap.size ≤ B1 ∧ B1 ≠ B2 ∧ w.heap.size ≤ B2 ∧ Blk w' B1 C ∧ Blk w' B2 D := by
  obtain ⟨a, n, cap, c, m, cap', B1, B2, rfl, L1, L2, b, o1, o2, g1, g2, g3⟩ := h
  obtain rfl : n = 3 := by omega
  obtain rfl : m = 2 := by omega
  rcases o1 with h | ⟨rfl, k1⟩
  · rw [h] at hC; cases hC
  rcases o2 with h | ⟨rfl, k2⟩
  · rw [h] at hD; cases hD
  exact ⟨B1, B2, cap, cap', rfl, b, g1 (by omega), g3 (by omega) (by omega), g2 (by omega), k1, k2⟩
theorem iaddX_any (a : Option Addr) (cap : Nat) (c : Option Addr) (cap' : Nat) (f : Frm) (a2 : Option Addr) (cap2 : Nat) (c2 : Option Addr) (cap2' : Nat) (g : Frm) (w : World) (hC : Ints w a 3 f.1) (hD : Ints w c 2 f.2.1) (hC2 : Ints w a2 3 g.1) (hD2 : Ints w c2 2 g.2.1) (h1 : fitX 10000000 f) (h2 : fitX 10000000 g) (h3 : fitX 10000000 (plusX f g)) :
    Calls Tryz.prog 191 #[formV a 3 cap c 2 cap' f.2.2, formV a2 3 cap2 c2 2 cap2' g.2.2] w fun e w' => ∃ B1 B2 c1 c2, e = .returned (formV (some ⟨B1, 0, none⟩) 3 c1 (some ⟨B2, 0, none⟩) 2 c2 (plusX f g).2.2) ∧ Below w.heap.size w w' ∧ w.heap.size ≤ B1 ∧ B1 ≠ B2 ∧ w.heap.size ≤ B2 ∧ Blk w' B1 (plusX f g).1 ∧ Blk w' B2 (plusX f g).2.1 := by
  have hok : addOk 3 2 f.1 f.2.1 f.2.2 3 2 g.1 g.2.1 g.2.2 = true := by
    have e3 : formB 3 2 (lin f.1 g.1 1) (lin f.2.1 g.2.1 1) (f.2.2 + 1 * g.2.2) = true := fit_ok h3
    unfold addOk
    rw [fit_ok h1, fit_ok h2, e3]; rfl
  refine (iadd_any a 3 cap c 2 cap' f.2.2 f.1 f.2.1 a2 3 cap2 c2 2 cap2' g.2.2 g.1 g.2.1 w hC hD hC2 hD2 (by omega) (by omega) (by omega) (by omega)).mono ?_
  intro e w' h
  rw [hok] at h
  exact resYes h h3.c h3.d
theorem lin_neg (xs ys : List Int) : lin xs (mulL (-1) ys) 1 = lin xs ys (-1) := by
  unfold lin mulL
  rw [List.zipWith_map_right]
  congr 1
  funext x y
  omega
def negX (k : Nat) : Frm := (mulL (-1) (([0, 0, 0] : List Int).set k 1), mulL (-1) [0, 0], -1 * 0)
theorem plus_neg (f : Frm) (k : Nat) : plusX f (negX k) = lessX f k := by
  simp only [plusX, negX, lessX, lin_neg]
  rw [show f.2.2 + 1 * (-1 * 0) = f.2.2 + -1 * 0 by omega]
theorem negX_fit {k : Nat} (hk : k < 3) : fitX 1 (negX k) := by
  have b3 : bnd 1 (mulL (-1) (([0, 0, 0] : List Int).set k 1)) := fun i => by
    match k, hk, i with
    | 0, _, 0 => simp [mulL]
    | 0, _, 1 => simp [mulL]
    | 0, _, 2 => simp [mulL]
    | 0, _, i + 3 => simp [mulL]
    | 1, _, 0 => simp [mulL]
    | 1, _, 1 => simp [mulL]
    | 1, _, 2 => simp [mulL]
    | 1, _, i + 3 => simp [mulL]
    | 2, _, 0 => simp [mulL]
    | 2, _, 1 => simp [mulL]
    | 2, _, 2 => simp [mulL]
    | 2, _, i + 3 => simp [mulL]
  have b2 : bnd 1 (mulL (-1) ([0, 0] : List Int)) := fun i => by
    match i with
    | 0 => simp [mulL]
    | 1 => simp [mulL]
    | i + 2 => simp [mulL]
  exact ⟨by simp [negX, mulL], by simp [negX, mulL], b3, b2, by simp [negX], by simp [negX]⟩
/-- Less than no pot. -/
theorem inegpot_any (k : Nat) (hk : k < 3) (a : Option Addr) (cap : Nat) (c : Option Addr) (cap' : Nat) (w : World) (hC : Ints w a 3 (([0, 0, 0] : List Int).set k 1)) (hD : Ints w c 2 [0, 0]) :
    Calls Tryz.prog 192 #[formV a 3 cap c 2 cap' 0, .int .i64 (-1)] w fun e w' => ∃ B1 B2 c1 c2, e = .returned (formV (some ⟨B1, 0, none⟩) 3 c1 (some ⟨B2, 0, none⟩) 2 c2 (negX k).2.2) ∧ Below w.heap.size w w' ∧ w.heap.size ≤ B1 ∧ B1 ≠ B2 ∧ w.heap.size ≤ B2 ∧ Blk w' B1 (negX k).1 ∧ Blk w' B2 (negX k).2.1 := by
  have h1 : formB 3 2 (([0, 0, 0] : List Int).set k 1) [0, 0] 0 = true := by
    match k, hk with
    | 0, _ => decide
    | 1, _ => decide
    | 2, _ => decide
  have h2 : formB 3 2 (negX k).1 (negX k).2.1 (negX k).2.2 = true := fit_ok ((negX_fit hk).mono (by omega))
  have hok : timOk 3 2 (([0, 0, 0] : List Int).set k 1) [0, 0] 0 (-1) = true := by
    unfold timOk
    rw [h1]
    have h2' : formB 3 2 (mulL (-1) (([0, 0, 0] : List Int).set k 1)) (mulL (-1) [0, 0]) (-1 * 0) = true := h2
    rw [h2']; rfl
  refine (itim_any a 3 cap c 2 cap' 0 _ _ (-1) w hC hD (by omega) (by omega)).mono ?_
  intro e w' h
  rw [hok] at h
  exact resYes h (negX_fit hk).c (negX_fit hk).d

set_option maxHeartbeats 3200000 in
theorem iadds_any (y : Way) (ga : Option Addr) (ng gc : Nat) (pa : Option Addr) (cp : Nat) (ta : Option Addr) (nt tc : Nat) (st : Bool) (w : World) (hp : y.pots.length = 3) (hP : FormsAt w pa y.pots) (fp : ∀ k, k < 3 → fitX 9000000 (y.pots[k]?.getD noX)) :
    Calls Tryz.prog 181 #[wayV ga ng gc pa cp ta nt tc st] w fun e w' => ∃ v xs, e = .returned v ∧ JV w v 3 xs (endW y).adds w' := by
  have HPL : Hid (y.pots.length = 3) := hp
  have HFP : Hid _ := fp
  have HP : Hid (FormsAt w pa y.pots) := hP
  clear hp fp hP
  obtain ⟨zi, hi, hz0, hz1, hz2⟩ := info_parts Tryz.infoForm
  have B0 : Below w.heap.size w (w.alloc (.cells #[.slice ga ng gc, .slice pa 3 cp, .slice ta nt tc, .bool st] 223)) := (Below.refl _ _).alloc (Nat.le_refl _) _
  have j0 : JV w (.slice none 0 0) 0 [] (endW y).adds (w.alloc (.cells #[.slice ga ng gc, .slice pa 3 cp, .slice ta nt tc, .bool st] 223)) := (JV.nil w _).below B0
  go_enter Tryz.func181, Tryz.ntmps181
  go_wp2_with fail
  go_loopw [3, 4, 5, 9] (fun r _ _ i wr => ∃ (k : Nat) (xs : List Value), k ≤ 3 ∧ i = .int .i64 k ∧ JV w r k xs (endW y).adds wr) (fun _ _ _ i _ => 3 - (intOf i).toNat)
  case atStart => exact ⟨0, [], by omega, rfl, j0⟩
  case round =>
    clear j0 B0
    obtain ⟨k, xs, hk, rfl, j⟩ := hrel
    by_cases hlt : k < 3
    · obtain ⟨va, vc, rfl⟩ := j.isSlice
      have hlt' : (k : Int) < 3 := by omega
      obtain ⟨b, off, rfl, a', c', ca, cc, c0, c1, c2, iC, iD⟩ := (HP.out.keep j.b) k (by rw [HPL.out]; exact hlt)
      have hfit : fitX 9000000 (y.pots[k]?.getD ([], [], 0)) := HFP.out k hlt
      generalize HG : y.pots[k]?.getD ([], [], 0) = f at *
      have HT : Hid ((endW y).adds[k]?.getD ([], [], 0) = lessX f k) := by
        show _ = _
        rw [show (endW y).adds = (List.range 3).map (fun v => lessX (y.pots[v]?.getD noX) v) from rfl, List.getElem?_map, List.getElem?_range hlt]
        show lessX (y.pots[k]?.getD noX) k = _
        rw [show y.pots[k]?.getD noX = f from HG]
      clear HG
      have fit1 : fitX 10000000 f := hfit.mono (by omega)
      have fit3 : fitX 10000000 (plusX f (negX k)) := (plusX_fit hfit (negX_fit hlt) (by omega)).mono (by omega)
      have fit4 : fitX 10000000 (lessX f k) := by rw [← plus_neg]; exact fit3
      have HF1 : Hid _ := fit1
      have HF3 : Hid _ := fit3
      have lC := fit4.c
      have lD := fit4.d
      have HPN : Hid (plusX f (negX k) = lessX f k) := plus_neg f k
      clear hfit fit1 fit3 fit4
      have A1 : Below wr.heap.size wr (wr.alloc (.cells #[.slice a' 3 ca, .slice c' 2 cc, .int .i64 f.2.2] 95)) := (Below.refl _ _).alloc (Nat.le_refl _) _
      have bx := Cel.new wr [.slice a' 3 ca, .slice c' 2 cc, .int .i64 f.2.2] 95
      go_upto_region 5 with fail
      have z0 : wr.heap.size < (wr.alloc (.cells #[.slice a' 3 ca, .slice c' 2 cc, .int .i64 f.2.2] 95)).heap.size := by rw [World.size_alloc]; omega
      generalize (wr.alloc (.cells #[.slice a' 3 ca, .slice c' 2 cc, .int .i64 f.2.2] 95)) = W0 at *
      have KP : Hid (∀ W, Below W0.heap.size W0 W → Cel W wr.heap.size [.slice a' 3 ca, .slice c' 2 cc, .int .i64 f.2.2] 95) := fun W hW => bx.below hW
      have KQ : Hid (∀ W, Below W0.heap.size W0 W → (W.cell? ⟨wr.heap.size, 0, none⟩ = some (.slice a' 3 ca) ∧ W.cell? ⟨wr.heap.size, 1, none⟩ = some (.slice c' 2 cc) ∧ W.cell? ⟨wr.heap.size, 2, none⟩ = some (.int .i64 f.2.2))) := fun W hW => by
        obtain ⟨n0, n1, n2, _, _, _⟩ := (KP.out W hW).trio
        exact ⟨n0, n1, n2⟩
      have jW := j.below A1
      have iC0 := iC.below A1
      have iD0 := iD.below A1
      have e0 : Below W0.heap.size W0 W0.drew := (Below.refl _ _).drew
      have hSS := And.intro (KQ.out _ e0) (True.intro)
      have OWN : Hid (∀ G : Nat, (Value.slice va k vc).ownBlock = some G → G < wr.heap.size) := fun G e => (j.own e).2
      have sw := jW.b.size
      clear bx j iC iD c0 c1 c2 A1
      refine wp_region_ends (fun w' => w'.cell? ⟨wr.heap.size, 0, none⟩ = some (.slice a' 3 ca) ∧ w'.cell? ⟨wr.heap.size, 1, none⟩ = some (.slice c' 2 cc) ∧ w'.cell? ⟨wr.heap.size, 2, none⟩ = some (.int .i64 f.2.2)) (fun _ => True) 8 (by kernel_rfl) ?_
      refine wpAnyE_take0 (i := 0) (v := ?v0) rfl (by kernel_rfl) (by kernel_rfl) (by kernel_rfl) (by decide) (fun _ _ _ h => h) (Or.inl ⟨by rfl, ?hy0⟩) hSS ?_
      case hy0 => (intro wz hSw; (try dsimp only at hSw); go_simp; try (with_reducible rfl))
      refine wpAnyE_take0 (i := 1) (v := ?v1) rfl (by kernel_rfl) (by kernel_rfl) (by kernel_rfl) (by decide) (fun _ _ _ h => h) (Or.inl ⟨by rfl, ?hy1⟩) hSS ?_
      case hy1 => (intro wz hSw; (try dsimp only at hSw); go_simp; try (with_reducible rfl))
      refine wpAnyE_take0 (i := 2) (v := ?v2) rfl (by kernel_rfl) (by kernel_rfl) (by kernel_rfl) (by decide) (fun _ _ _ h => h) (Or.inl ⟨by rfl, ?hy2⟩) hSS ?_
      case hy2 => (intro wz hSw; (try dsimp only at hSw); go_simp; try (with_reducible rfl))
      clear hSS
      refine wpAnyE_one (i := 3) (by kernel_rfl) rfl (fun K hK => ?_)
      go_simp
      refine (ipot_any _ _).mono ?_
      intro ee w1 hR
      rw [potC_in (k : Int) k rfl (by omega), potD_in (k : Int) (by omega) (by omega)] at hR
      obtain ⟨P1, P2, p1, p2, rfl, b1, -, -, -, u1, u2⟩ := resYes hR (by simp) rfl
      have e1 := below_of_drew b1
      clear hR b1
      (try dsimp only)
      refine hK.out _ _ ⟨KQ.out _ e1, fun _ => trivial⟩ ?_
      clear hK K
      refine wpAnyE_one (i := 4) (by kernel_rfl) rfl (fun K hK => ?_)
      go_simp
      refine (inegpot_any k hlt _ _ _ _ _ (u1.ints' (by simp)) (u2.ints' rfl)).mono ?_
      rintro ee w2 ⟨N1, N2, q1, q2, rfl, b2, -, -, -, v1, v2⟩
      have e2 := e1.trans (b2.mono e1.size)
      clear b2 u1 u2
      (try dsimp only)
      refine hK.out _ _ ⟨KQ.out _ e2, fun _ => trivial⟩ ?_
      clear hK K
      refine wpAnyE_one (i := 5) (by kernel_rfl) rfl (fun K hK => ?_)
      go_simp
      refine (iaddX_any _ _ _ _ f _ _ _ _ (negX k) _ (iC0.below e2) (iD0.below e2) (v1.ints' (by simp [negX, mulL])) (v2.ints' (by simp [negX, mulL])) HF1.out ((negX_fit hlt).mono (by omega)) HF3.out).mono ?_
      rw [HPN.out]
      rintro ee w3 ⟨Z1, Z2, x0, y0, rfl, b3, z1, z2, z3, k1, k2⟩
      have e3 := e2.trans (b3.mono e2.size)
      have s2 := e2.size
      have s3 := b3.size
      clear b3 v1 v2
      (try dsimp only)
      refine hK.out _ _ ⟨KQ.out _ e3, fun _ => trivial⟩ ?_
      clear hK K
      refine wpAnyE_one (i := 6) (by kernel_rfl) rfl (fun K hK => ?_)
      go_simp
      have A : Below w3.heap.size w3 (w3.alloc (.cells #[.slice (some ⟨Z1, 0, none⟩) 3 x0, .slice (some ⟨Z2, 0, none⟩) 2 y0, .int .i64 (lessX f k).2.2] 95)) := (Below.refl _ _).alloc (Nat.le_refl _) _
      have e4 := e3.trans (A.mono e3.size)
      have j4 := jW.below e4
      have k1' := k1.below A
      have k2' := k2.below A
      have n1 : (Value.slice va k vc).ownBlock ≠ some Z1 := fun e => by have := OWN.out _ e; omega
      have n2 : (Value.slice va k vc).ownBlock ≠ some Z2 := fun e => by have := OWN.out _ e; omega
      refine hK.out _ _ ⟨KQ.out _ e4, fun _ => trivial⟩ ?_
      clear hK K jW
      refine wpAnyE_one (i := 7) (by kernel_rfl) rfl (fun K hK => ?_)
      rw [if_pos (by rfl)]
      refine wp_append_lies _ (.tmp 14) (.tmp 20) 176 rfl w.heap.size 95 zi _ 3 56 Tryz.underlying176 hi hz0 hz1 hz2 rfl (by omega) (.slice va k vc) k xs (by rfl) j4.o ⟨w3.heap.size, 0, none⟩ 1 1 [.slice (some ⟨Z1, 0, none⟩) 3 x0, .slice (some ⟨Z2, 0, none⟩) 2 y0, .int .i64 (lessX f k).2.2] (by rfl) (by rfl) (World.news_of_block (cs := #[.slice (some ⟨Z1, 0, none⟩) 3 x0, .slice (some ⟨Z2, 0, none⟩) 2 y0, .int .i64 (lessX f k).2.2]) (t := 95) (fr := (0, 0)) (heap_alloc_new w3 _)) (by simp [Value.oneCell']) (by omega) (by unfold maxLen; omega) (by omega) j4.b.size _ rfl ?_
      intro g cpg w4 hown hgrow hat hltg
      have j5 := j4.app hown hgrow hat rfl (k1'.ints' lC) (k2'.ints' lD) n1 n2 (by omega) (by omega) HT.out
      have bx4 := (KP.out _ e4).grew hgrow (fun e => by have := OWN.out _ e; omega)
      obtain ⟨m0, m1, m2, -, -, -⟩ := bx4.trio
      refine hK.out _ _ ⟨⟨m0, m1, m2⟩, fun _ => trivial⟩ ?_
      clear hK K hown hgrow hat j4 k1 k2 k1' k2' n1 n2
      refine wpAnyE_one (i := 8) (by kernel_rfl) rfl (fun K hK => ?_)
      go_simp
      refine hK.out _ _ ⟨⟨m0, m1, m2⟩, fun _ => trivial⟩ ?_
      clear hK K
      refine wpAnyE_done (by kernel_rfl) ?_ _
      clear bx4 m0 m1 m2 KP KQ
      go_wp2
      go_roundw
      case rel => exact ⟨k + 1, _, by omega, by go_num, j5⟩
      case measure => simp [intOf]; omega
    · obtain rfl : k = 3 := by omega
      go_wp2
      go_ret
      exact ⟨_, xs, rfl, j⟩

end Go.Proofs.YtpmihhbgjimpmaaGreatDoor
namespace Go.Proofs.YtpmihhbgjimpmaaGreatDoor
open Go.RowKit Go.Deep
set_option linter.unusedVariables false
set_option maxRecDepth 100000

/-- No number of a row is too great. -/
structure RowFit (r : RowM) : Prop where
  g : ∀ k, k < r.guards.length → fitX 10000000 (r.guards[k]?.getD ([], [], 0))
  a : ∀ k, k < r.adds.length → fitX 10000000 (r.adds[k]?.getD ([], [], 0))
  t : ∀ k, k < r.tells.length → fitX 10000000 (r.tells[k]?.getD ([], [], 0))
  lg : r.guards.length ≤ 1000
  la : r.adds.length ≤ 3
  lt : r.tells.length ≤ 1000
theorem endW_fit {i : Nat} {y : Way} (h : WayOk i y) (hi : i ≤ 1000) : RowFit (endW y) := by
  refine ⟨fun k hk => h.gf k hk, fun k hk => ?_, fun k hk => h.tf k hk, ?_, ?_, ?_⟩
  · have hk3 : k < 3 := by
      have : (endW y).adds.length = 3 := by simp [endW]
      omega
    have e : (endW y).adds[k]?.getD ([], [], 0) = lessX (y.pots[k]?.getD noX) k := by
      rw [show (endW y).adds = (List.range 3).map (fun v => lessX (y.pots[v]?.getD noX) v) from rfl, List.getElem?_map, List.getElem?_range hk3]
      rfl
    rw [e, ← plus_neg]
    have h1 := h.pf k hk3
    have h6 := wb_six (n := min i 6) (by omega)
    have hp := wb_pos (min i 6)
    exact (plusX_fit h1 (negX_fit hk3) (by omega)).mono (by omega)
  · show y.guards.length ≤ 1000; have := h.gl; omega
  · simp [endW]
  · show y.tells.length ≤ 1000; have := h.tl; omega
theorem stopW_fit {i : Nat} {y : Way} (h : WayOk i y) (hi : i ≤ 1000) : RowFit (stopW y) :=
  ⟨fun k hk => h.gf k hk, fun k hk => by simp [stopW] at hk, fun k hk => by simp [stopW] at hk, by show y.guards.length ≤ 1000; have := h.gl; omega, by simp [stopW], by simp [stopW]⟩
theorem goW_fit {ls : List LV} (h6 : ls.length ≤ 6) (hall : ls.all LV.ok = true) (hD : ∀ k, k < ls.length → (ls[k]?.getD noLV).f.D.length = (ls[k]?.getD noLV).f.m) (f : Nat) : ∀ (i : Nat) (y : Way), i ≤ 12 + 7 * (7 - f) → f ≤ 7 → WayOk i y → ∀ r ∈ goW ls f i y, RowFit r := by
  induction f with
  | zero => intro i y hi _ h r hr; simp only [goW, List.mem_cons, List.not_mem_nil, or_false] at hr; subst hr; exact endW_fit h (by omega)
  | succ f ih =>
    intro i y hi hf7 h r hr
    rw [goW] at hr
    by_cases hl : i < ls.length
    · rw [if_pos hl] at hr
      have hok : (ls[i]?.getD noLV).ok = true := by
        rw [List.getElem?_eq_getElem hl]
        exact List.all_eq_true.1 hall _ (List.getElem_mem hl)
      have hDD := hD i hl
      generalize ls[i]?.getD noLV = q at *
      by_cases hk4 : q.kind = 4
      · rw [if_neg (by omega), if_neg (by omega), if_neg (by omega)] at hr
        simp only [List.mem_cons, List.not_mem_nil, or_false] at hr
        subst hr
        exact stopW_fit h (by omega)
      · obtain ⟨hsm, hkk, hz, hp⟩ := lineW (show lineB q.kind q.pot q.skip q.f.n q.f.m q.f.C q.f.D q.f.K = true from hok) hk4
        obtain ⟨f1, f2, f3⟩ := h.into (by omega) (f := q.f) hsm hDD
        rcases hkk with e | e | e
        · rw [if_pos e] at hr
          have hz' := hz e
          rcases List.mem_append.1 hr with hr | hr
          · exact ih _ _ (by omega) (by omega) (h.guard (by omega) f2) r hr
          · exact ih _ _ (by omega) (by omega) (h.guard (by omega) f3) r hr
        · rw [if_neg (by omega), if_pos e] at hr
          have hp' := hp e
          exact ih _ _ (by omega) (by omega) (h.add (by omega) (by omega) f1) r hr
        · rw [if_neg (by omega), if_neg (by omega), if_pos e] at hr
          exact ih _ _ (by omega) (by omega) (h.tell (by omega) f2) r hr
    · rw [if_neg hl] at hr
      simp only [List.mem_cons, List.not_mem_nil, or_false] at hr
      subst hr
      exact endW_fit h (by omega)

/-- What ways tell of, or add by. -/
def readsR (rs : List RowM) (v : Nat) : Bool := rs.any fun r => r.adds.any (fun f => hasP f v) || r.tells.any (fun f => hasP f v)
theorem readsR_snoc (rs : List RowM) (k : Nat) (hk : k < rs.length) (v : Nat) : readsR (rs.take (k + 1)) v = readsF (readsF (readsR (rs.take k)) (rs[k]?.getD noR).adds) (rs[k]?.getD noR).tells v := by
  rw [readsR, List.take_succ_eq_append_getElem hk, List.any_append, List.getElem?_eq_getElem hk]
  simp [readsF, readsR, Bool.or_assoc]
theorem rowsL_fit {ls : List LV} {w : World} {ad : Option Addr} (h6 : ls.length ≤ 6) (hall : ls.all LV.ok = true) (hF : LinesG w ad ls) : ∀ r ∈ rowsL ls, RowFit r :=
  goW_fit h6 hall (fun k hk => by obtain ⟨b, off, e, hc, hA⟩ := hF k hk; exact hA.D.1) 7 0 way0 (by omega) (by omega) WayOk.start

theorem OwnB.below {W W' : World} {G : Nat} {f : Nat → Bool} (h : OwnB W G f) (b : Below W.heap.size W W') : OwnB W' G f := by
  obtain ⟨cur, hc, hv⟩ := h
  exact ⟨cur, hc.below b, hv⟩

end Go.Proofs.YtpmihhbgjimpmaaGreatDoor
namespace Go.Proofs.YtpmihhbgjimpmaaGreatDoor
open Go.RowKit Go.Deep
set_option linter.unusedVariables false
set_option maxRecDepth 100000

theorem put4 {W : World} {X : Nat} {vs : List Value} {T : TypeId} (h : Cel W X vs T) (hl : vs.length = 4) (v0 v1 v2 v3 : Value) :
    Cel ((((W.setCell ⟨X, 0, none⟩ v0).setCell ⟨X, 1, none⟩ v1).setCell ⟨X, 2, none⟩ v2).setCell ⟨X, 3, none⟩ v3) X [v0, v1, v2, v3] T ∧ Touch (fun z => z = X) W ((((W.setCell ⟨X, 0, none⟩ v0).setCell ⟨X, 1, none⟩ v1).setCell ⟨X, 2, none⟩ v2).setCell ⟨X, 3, none⟩ v3) := by
  refine ⟨?_, (((((Touch.refl (fun z => z = X) W).setCell rfl _).setCell rfl _).setCell rfl _).setCell rfl _)⟩
  have := (((h.set 0 v0).set 1 v1).set 2 v2).set 3 v3
  match vs, hl with
  | [a, b, c, d], _ => exact this
theorem FOff.empty {W : World} {S : Nat → Prop} {a : Option Addr} : FOff W S a [] := fun W' t i hi => by simp at hi
theorem JV.foff' {w W : World} {a : Option Addr} {n cap : Nat} {xs : List Value} {fs : List Frm} (j : JV w (.slice a n cap) n xs fs W) (hn : fs.length = n) : FOff W (fun k => k < w.heap.size) a fs := by
  obtain ⟨a', cap', e, h⟩ := j.foff hn
  simp only [Value.slice.injEq, true_and] at e
  obtain ⟨rfl, rfl⟩ := e
  exact h

end Go.Proofs.YtpmihhbgjimpmaaGreatDoor
namespace Go.Proofs.YtpmihhbgjimpmaaGreatDoor
open Go.RowKit Go.Deep
set_option linter.unusedVariables false
set_option maxRecDepth 100000

/-- Three forms in memory of their own, their lists anywhere. -/
structure JC (base : Nat) (G cap : Nat) (xs : List Value) (fs : List Frm) (W : World) : Prop where
  o : W.ownsRow base 95 3 (.slice (some ⟨G, 0, none⟩) 3 cap) 3 xs
  t : TermsOk W G xs fs 3
theorem JC.below {base : Nat} {W W' : World} {G cap : Nat} {xs : List Value} {fs : List Frm} (j : JC base G cap xs fs W) (h : Below W.heap.size W W') : JC base G cap xs fs W' := ⟨own_below j.o h, j.t.below h⟩
theorem JC.past {base : Nat} {W W' : World} {X G cap : Nat} {xs : List Value} {fs : List Frm} (j : JC base G cap xs fs W) (hX : X ≠ G) (hx : ∀ o q, W.cell? ⟨X, o, none⟩ ≠ some (.int .i64 q)) (t : Touch (fun z => z = X) W W') : JC base G cap xs fs W' := by
  refine ⟨own_off j.o (fun g hg hs => ?_) t, fun i hi => ?_⟩
  · have h' : some G = some g := hg
    simp only [Option.some.injEq] at h'
    exact hX (by rw [h']; exact hs.symm)
  · obtain ⟨a', c', ca, cc, e0, e1, e2, i1, i2, n1, n2⟩ := j.t i hi
    exact ⟨a', c', ca, cc, e0, e1, e2, i1.past hx t, i2.past hx t, n1, n2⟩
theorem JC.lt {base : Nat} {W : World} {G cap : Nat} {xs : List Value} {fs : List Frm} (j : JC base G cap xs fs W) : base ≤ G ∧ G < W.heap.size := by
  rcases j.o.2 with ⟨h, _⟩ | ⟨g, cap', cur, h, hg, hh, _⟩
  · cases h
  · simp only [Value.slice.injEq, Option.some.injEq, Addr.mk.injEq, and_true, true_and] at h
    obtain ⟨rfl, _⟩ := h
    exact ⟨hg, lt_of_block hh⟩
theorem JC.frz {base : Nat} {W : World} {G cap : Nat} {xs : List Value} {fs : List Frm} (j : JC base G cap xs fs W) (i : Nat) : W.frozen? ⟨G, i, none⟩ = false := by
  rcases j.o.2 with ⟨h, _⟩ | ⟨g, cap', cur, h, hg, hh, _⟩
  · cases h
  · simp only [Value.slice.injEq, Option.some.injEq, Addr.mk.injEq, and_true, true_and] at h
    obtain ⟨rfl, _⟩ := h
    have : Cel W G cur.toList 95 := by unfold Cel; simpa using hh
    exact this.free i
/-- One of them is overwritten. -/
theorem JC.put {base : Nat} {W : World} {G cp : Nat} {xs : List Value} {fs : List Frm} (j : JC base G cp xs fs W) (hn : fs.length = 3) {p : Nat} (hp : p < 3) {B1 B2 ca cc : Nat} {C D : List Int} {K : Int} (k1 : Blk W B1 C) (l1 : C.length = 3) (k2 : Blk W B2 D) (l2 : D.length = 2) (n1 : B1 ≠ G) (n2 : B2 ≠ G) :
    FormsAt (((W.setCell ⟨G, p * 3, none⟩ (.slice (some ⟨B1, 0, none⟩) 3 ca)).setCell ⟨G, p * 3 + 1, none⟩ (.slice (some ⟨B2, 0, none⟩) 2 cc)).setCell ⟨G, p * 3 + 2, none⟩ (.int .i64 K)) (some ⟨G, 0, none⟩) (fs.set p (C, D, K)) := by
  have hT := j.t
  have hx := j.o.1
  rcases j.o.2 with ⟨h, _⟩ | ⟨g, cap', cur, h, hg, hh, hl, _, hcs, ht⟩
  · cases h
  simp only [Value.slice.injEq, Option.some.injEq, Addr.mk.injEq, and_true, true_and] at h
  obtain ⟨rfl, rfl⟩ := h
  have cel : Cel W G cur.toList 95 := by unfold Cel; simpa using hh
  have hlen : 9 ≤ cur.toList.length := by
    have := congrArg List.length ht
    rw [List.length_take, hx] at this
    omega
  have hat : ∀ i, i < 9 → cur.toList[i]? = xs[i]? := fun i hi => by
    rw [← ht, List.getElem?_take, if_pos (by omega)]
  have c3 := ((cel.set (p * 3) (.slice (some ⟨B1, 0, none⟩) 3 ca)).set (p * 3 + 1) (.slice (some ⟨B2, 0, none⟩) 2 cc)).set (p * 3 + 2) (.int .i64 K)
  have tt : Touch (fun x => x = G) W (((W.setCell ⟨G, p * 3, none⟩ (.slice (some ⟨B1, 0, none⟩) 3 ca)).setCell ⟨G, p * 3 + 1, none⟩ (.slice (some ⟨B2, 0, none⟩) 2 cc)).setCell ⟨G, p * 3 + 2, none⟩ (.int .i64 K)) := (((Touch.refl (fun x => x = G) W).setCell rfl _).setCell rfl _).setCell rfl _
  have m1 := (k1.ints' l1).by tt (fun b o e => by simp only [Option.some.injEq, Addr.mk.injEq, and_true] at e; omega)
  have m2 := (k2.ints' l2).by tt (fun b o e => by simp only [Option.some.injEq, Addr.mk.injEq, and_true] at e; omega)
  intro i hi
  rw [List.length_set, hn] at hi
  by_cases e : p = i
  · subst e
    rw [List.getElem?_set_self (by omega)]
    refine ⟨G, 0, rfl, _, _, ca, cc, ?_, ?_, ?_, m1, m2⟩
    · rw [Nat.zero_add, c3.cell, List.getElem?_set_ne (by omega), List.getElem?_set_ne (by omega), List.getElem?_set_self (by omega)]
    · rw [Nat.zero_add, c3.cell, List.getElem?_set_ne (by omega), List.getElem?_set_self (by rw [List.length_set]; omega)]
    · rw [Nat.zero_add, c3.cell, List.getElem?_set_self (by rw [List.length_set, List.length_set]; omega)]; rfl
  · rw [List.getElem?_set_ne e]
    obtain ⟨a', c', x, y, e0, e1, e2, i1, i2, q1, q2⟩ := hT i hi
    refine ⟨G, 0, rfl, a', c', x, y, ?_, ?_, ?_, i1.by tt q1, i2.by tt q2⟩
    · rw [Nat.zero_add, c3.cell, List.getElem?_set_ne (by omega), List.getElem?_set_ne (by omega), List.getElem?_set_ne (by omega), hat _ (by omega)]; exact e0
    · rw [Nat.zero_add, c3.cell, List.getElem?_set_ne (by omega), List.getElem?_set_ne (by omega), List.getElem?_set_ne (by omega), hat _ (by omega)]; exact e1
    · rw [Nat.zero_add, c3.cell, List.getElem?_set_ne (by omega), List.getElem?_set_ne (by omega), List.getElem?_set_ne (by omega), hat _ (by omega)]; exact e2

theorem addr_add (b off j : Nat) : (⟨b, off, none⟩ : Addr).add j = ⟨b, off + j, none⟩ := by
  by_cases h0 : j = 0
  · subst h0; simp [Addr.add]
  · simp [Addr.add, h0]

set_option maxHeartbeats 1600000 in
theorem iclone3_any (pa : Option Addr) (cp : Nat) (fs : List Frm) (w : World) (hn : fs.length = 3) (hP : FormsAt w pa fs) :
    Calls Tryz.prog 198 #[.slice pa 3 cp] w fun e w' => ∃ G cap xs, e = .returned (.slice (some ⟨G, 0, none⟩) 3 cap) ∧ Below w.heap.size w w' ∧ JC w.heap.size G cap xs fs w' := by
  obtain ⟨zi, hi, hz0, hz1, hz2⟩ := info_parts Tryz.infoForm
  obtain ⟨b, off, rfl, a0, c0, x0, y0, p00, p01, p02, i0, j0⟩ := hP 0 (by omega)
  obtain ⟨b1, off1, e1, a1, c1, x1, y1, p10, p11, p12, i1, j1⟩ := hP 1 (by omega)
  obtain ⟨b2, off2, e2, a2, c2, x2, y2, p20, p21, p22, i2, j2⟩ := hP 2 (by omega)
  simp only [Option.some.injEq, Addr.mk.injEq, and_true] at e1 e2
  obtain ⟨rfl, rfl⟩ := e1
  obtain ⟨rfl, rfl⟩ := e2
  have A : Below w.heap.size w (w.alloc (.cells #[] 95)) := (Below.refl _ _).alloc (Nat.le_refl _) _
  have HNW : Hid (∀ j u, ([.slice a0 3 x0, .slice c0 2 y0, .int .i64 (fs[0]?.getD ([], [], 0)).2.2, .slice a1 3 x1, .slice c1 2 y1, .int .i64 (fs[1]?.getD ([], [], 0)).2.2, .slice a2 3 x2, .slice c2 2 y2, .int .i64 (fs[2]?.getD ([], [], 0)).2.2] : List Value)[j]? = some u → (w.alloc (.cells #[] 95)).cell? ((⟨b, off, none⟩ : Addr).add j) = some u) := fun j u hu => by
    rw [addr_add]
    have key : ∀ q v, w.cell? ⟨b, q, none⟩ = some v → (w.alloc (.cells #[] 95)).cell? ⟨b, q, none⟩ = some v := fun q v h => by rw [A.cell (p := ⟨b, q, none⟩) (block_lt h)]; exact h
    match j with
    | 0 => simp only [List.getElem?_cons_zero, Option.some.injEq] at hu; subst hu; exact key _ _ p00
    | 1 => simp only [List.getElem?_cons_zero, List.getElem?_cons_succ, Option.some.injEq] at hu; subst hu; exact key _ _ p01
    | 2 => simp only [List.getElem?_cons_zero, List.getElem?_cons_succ, Option.some.injEq] at hu; subst hu; exact key _ _ p02
    | 3 => simp only [List.getElem?_cons_zero, List.getElem?_cons_succ, Option.some.injEq] at hu; subst hu; exact key _ _ p10
    | 4 => simp only [List.getElem?_cons_zero, List.getElem?_cons_succ, Option.some.injEq] at hu; subst hu; exact key _ _ p11
    | 5 => simp only [List.getElem?_cons_zero, List.getElem?_cons_succ, Option.some.injEq] at hu; subst hu; exact key _ _ p12
    | 6 => simp only [List.getElem?_cons_zero, List.getElem?_cons_succ, Option.some.injEq] at hu; subst hu; exact key _ _ p20
    | 7 => simp only [List.getElem?_cons_zero, List.getElem?_cons_succ, Option.some.injEq] at hu; subst hu; exact key _ _ p21
    | 8 => simp only [List.getElem?_cons_zero, List.getElem?_cons_succ, Option.some.injEq] at hu; subst hu; exact key _ _ p22
    | j + 9 => simp at hu
  have HOL := World.ownsRow_lit (e := 95) (size := 3) (base := w.heap.size) w #[] 0 (Nat.le_refl _) (by unfold maxLen; omega) rfl
  have HNX : Hid (∀ u ∈ ([.slice a0 3 x0, .slice c0 2 y0, .int .i64 (fs[0]?.getD ([], [], 0)).2.2, .slice a1 3 x1, .slice c1 2 y1, .int .i64 (fs[1]?.getD ([], [], 0)).2.2, .slice a2 3 x2, .slice c2 2 y2, .int .i64 (fs[2]?.getD ([], [], 0)).2.2] : List Value), u.oneCell' = true) := by
    show ∀ u ∈ _, _
    simp [Value.oneCell']
  have I0 := i0.below A
  have J0 := j0.below A
  have I1 := i1.below A
  have J1 := j1.below A
  have I2 := i2.below A
  have J2 := j2.below A
  have l0 := i0.blt (by omega)
  have m0 := j0.blt (by omega)
  have l1 := i1.blt (by omega)
  have m1 := j1.blt (by omega)
  have l2 := i2.blt (by omega)
  have m2 := j2.blt (by omega)
  have hnil : ∀ w, (binOp .eql 176 (.slice (some ⟨b, off, none⟩) 3 cp) (.slice none 0 0)).run Tryz.prog w = .ok (.bool false) w := fun w => Go.Lib.run_eql_slice_nil w _ _ _ _ _ _ _ Tryz.underlying176
  clear hP p00 p01 p02 p10 p11 p12 p20 p21 p22 i0 j0 i1 j1 i2 j2
  go_enter Tryz.func198, Tryz.ntmps198
  go_wp2_with (at_builtin; go_must (refine wpList_append_lies _ rfl (.tmp 5) (.tmp 6) 176 rfl w.heap.size 95 zi _ 3 56 Tryz.underlying176 hi hz0 hz1 hz2 rfl (by decide) (.slice (some ⟨w.heap.size, 0, none⟩) 0 0) 0 [] rfl HOL ⟨b, off, none⟩ 3 cp _ rfl rfl HNW.out HNX.out (by omega) (by unfold maxLen; omega) (by omega) (by rw [World.size_alloc]; omega) _ rfl ?_); intro g cpg w1 hown hgrow hat hlt1)
  have hg : w.heap.size ≤ g := by
    rcases hat with h | h
    · have h' : some w.heap.size = some g := h
      simp only [Option.some.injEq] at h'
      omega
    · rw [World.size_alloc] at h; omega
  have gT : Touch (fun k => k = w.heap.size) (w.alloc (.cells #[] 95)) w1 := ⟨hgrow.os, hgrow.tape, hgrow.output, hgrow.size, fun z hz hn => hgrow.block z hz (fun e => hn (by have e' : some z = some w.heap.size := e; simpa using e'))⟩
  have ty : ∀ {a : Option Addr} {n : Nat} {zs : List Int}, Ints (w.alloc (.cells #[] 95)) a n zs → (∀ b o, a = some ⟨b, o, none⟩ → b < w.heap.size) → Ints w1 a n zs := fun h hb => h.by gT (fun b o e => by have := hb b o e; omega)
  have bb : Below w.heap.size w w1 := A.grown hgrow A.size (fun k hk => by have h' : some w.heap.size = some k := hk; simp only [Option.some.injEq] at h'; omega)
  have jj : JC w.heap.size g cpg _ fs w1 := ⟨hown, fun i hi => by
    match i, hi with
    | 0, _ => exact ⟨a0, c0, x0, y0, rfl, rfl, rfl, ty I0 l0, ty J0 m0, fun b o e => by have := l0 b o e; omega, fun b o e => by have := m0 b o e; omega⟩
    | 1, _ => exact ⟨a1, c1, x1, y1, rfl, rfl, rfl, ty I1 l1, ty J1 m1, fun b o e => by have := l1 b o e; omega, fun b o e => by have := m1 b o e; omega⟩
    | 2, _ => exact ⟨a2, c2, x2, y2, rfl, rfl, rfl, ty I2 l2, ty J2 m2, fun b o e => by have := l2 b o e; omega, fun b o e => by have := m2 b o e; omega⟩⟩
  clear hown hgrow hat gT ty I0 J0 I1 J1 I2 J2 l0 m0 l1 m1 l2 m2
  go_wp2
  go_ret
  exact ⟨g, cpg, rfl, bb, _, jj⟩

set_option maxHeartbeats 6400000 in
theorem iadding_any (y : Way) (p : Nat) (hp : p < 3) (X : Frm) (ga : Option Addr) (ng gc : Nat) (pa : Option Addr) (cp : Nat) (ta : Option Addr) (nt tc : Nat) (st : Bool) (fa : Option Addr) (fc : Nat) (fd : Option Addr) (fe : Nat) (w : World) (hl : y.pots.length = 3) (hP : FormsAt w pa y.pots) (hX1 : Ints w fa 3 X.1) (hX2 : Ints w fd 2 X.2.1) (h1 : fitX 10000000 (y.pots[p]?.getD noX)) (h2 : fitX 10000000 X) (h3 : fitX 10000000 (plusX (y.pots[p]?.getD noX) X)) :
    Calls Tryz.prog 185 #[wayV ga ng gc pa cp ta nt tc st, .int .i64 (p : Int), formV fa 3 fc fd 2 fe X.2.2] w fun e w' => ∃ G cG, e = .returned (wayV ga ng gc (some ⟨G, 0, none⟩) cG ta nt tc st) ∧ Below w.heap.size w w' ∧ FormsAt w' (some ⟨G, 0, none⟩) (y.add p X).pots := by
  have HL : Hid (y.pots.length = 3) := hl
  have H1 : Hid _ := h1
  have H2 : Hid _ := h2
  have H3 : Hid _ := h3
  clear hl h1 h2 h3
  obtain ⟨W0, hW0⟩ : ∃ W0, W0 = ((w.alloc (.cells #[.slice ga ng gc, .slice pa 3 cp, .slice ta nt tc, .bool st] 223)).alloc (.cells #[.slice fa 3 fc, .slice fd 2 fe, .int .i64 X.2.2] 95)).alloc (.cells #[.slice none 0 0, .slice none 0 0, .slice none 0 0, .bool false] 223) := ⟨_, rfl⟩
  have q0 := ((Cel.new w [.slice ga ng gc, .slice pa 3 cp, .slice ta nt tc, .bool st] 223).alloc (.cells #[.slice fa 3 fc, .slice fd 2 fe, .int .i64 X.2.2] 95)).alloc (.cells #[.slice none 0 0, .slice none 0 0, .slice none 0 0, .bool false] 223)
  have f0 := (Cel.new (w.alloc (.cells #[.slice ga ng gc, .slice pa 3 cp, .slice ta nt tc, .bool st] 223)) [.slice fa 3 fc, .slice fd 2 fe, .int .i64 X.2.2] 95).alloc (.cells #[.slice none 0 0, .slice none 0 0, .slice none 0 0, .bool false] 223)
  have r0 := Cel.new ((w.alloc (.cells #[.slice ga ng gc, .slice pa 3 cp, .slice ta nt tc, .bool st] 223)).alloc (.cells #[.slice fa 3 fc, .slice fd 2 fe, .int .i64 X.2.2] 95)) [.slice none 0 0, .slice none 0 0, .slice none 0 0, .bool false] 223
  rw [World.size_alloc] at f0
  rw [World.size_alloc, World.size_alloc] at r0
  have B0 : Below w.heap.size w W0 := by rw [hW0]; exact (((Below.refl _ _).alloc (Nat.le_refl _) _).alloc (by simp) _).alloc (by simp; omega) _
  rw [← hW0] at q0 f0 r0
  go_enter Tryz.func185, Tryz.ntmps185
  go_upto_region 1 with fail
  rw [← hW0]
  clear hW0
  obtain ⟨c0, c1, c2, c3⟩ := q0.four
  have z0 := q0.lt
  have z1 := f0.lt
  have z2 := r0.lt
  go_wp2_with fail
  refine (iclone3_any _ _ y.pots _ HL.out (hP.keep B0)).mono ?_
  rintro e w1 ⟨G, cG, xs, rfl, b1, jG⟩
  have lG := jG.lt
  have q1 := q0.below b1
  have f1 := f0.below b1
  have r1 := r0.below b1
  have B1 := B0.trans (b1.mono B0.size)
  have sz1 := b1.size
  have x1 := hX1.below B1
  have x2 := hX2.below B1
  clear q0 f0 r0 c0 c1 c2 c3 b1
  obtain ⟨c0, c1, c2, c3⟩ := q1.four
  have y1 := q1.free 1
  have T1 : Touch (fun k => k = w.heap.size) w1 (w1.setCell ⟨w.heap.size, 1, none⟩ (.slice (some ⟨G, 0, none⟩) 3 cG)) := Touch.setCell (S := fun k => k = w.heap.size) (Touch.refl _ _) rfl _
  have q2 := q1.set 1 (.slice (some ⟨G, 0, none⟩) 3 cG)
  simp only [List.set_cons_zero, List.set_cons_succ] at q2
  have f2 := f1.touch T1 (fun h => by have := h; omega)
  have r2 := r1.touch T1 (fun h => by have := h; omega)
  have B2 := B1.trans (T1.below B1.size (fun k hk => by omega))
  have j2 := jG.past (by omega) (boxNo q1) T1
  have u1 := x1.past (boxNo q1) T1
  have u2 := x2.past (boxNo q1) T1
  have s2 : w1.heap.size ≤ (w1.setCell ⟨w.heap.size, 1, none⟩ (.slice (some ⟨G, 0, none⟩) 3 cG)).heap.size := T1.size
  go_upto_region 2 with fail
  clear q1 f1 r1 jG x1 x2 T1 B1 c0 c1 c2 c3 y1
  generalize (w1.setCell ⟨w.heap.size, 1, none⟩ (.slice (some ⟨G, 0, none⟩) 3 cG)) = w2 at *
  obtain ⟨pa', pc', pca, pcc, d0, d1, d2, iC, iD, nC, nD⟩ := j2.t p hp
  obtain ⟨PX, hPX⟩ : ∃ PX, PX = y.pots[p]?.getD ([], [], 0) := ⟨_, rfl⟩
  have HPX : Hid (y.pots[p]?.getD noX = PX) := hPX.symm
  rw [← hPX] at d2 iC iD
  clear hPX
  have g0 : w2.cell? ⟨G, p * 3, none⟩ = some (.slice pa' 3 pca) := (own_cell j2.o _ (by omega)).trans d0
  have g1 : w2.cell? ⟨G, p * 3 + 1, none⟩ = some (.slice pc' 2 pcc) := (own_cell j2.o _ (by omega)).trans d1
  have g2 : w2.cell? ⟨G, p * 3 + 2, none⟩ = some (.int .i64 PX.2.2) := (own_cell j2.o _ (by omega)).trans d2
  have lG2 := j2.lt
  obtain ⟨-, m1, -, -⟩ := q2.four
  obtain ⟨n0, n1, n2, -, -, -⟩ := f2.trio
  have hSS : (w2.drew.cell? ⟨w.heap.size, 1, none⟩ = some (.slice (some ⟨G, 0, none⟩) 3 cG) ∧ w2.drew.cell? ⟨w.heap.size + 1, 0, none⟩ = some (.slice fa 3 fc) ∧ w2.drew.cell? ⟨w.heap.size + 1, 1, none⟩ = some (.slice fd 2 fe) ∧ w2.drew.cell? ⟨w.heap.size + 1, 2, none⟩ = some (.int .i64 X.2.2)) ∧ (w2.drew.cell? ⟨G, p * 3, none⟩ = some (.slice pa' 3 pca) ∧ w2.drew.cell? ⟨G, p * 3 + 1, none⟩ = some (.slice pc' 2 pcc) ∧ w2.drew.cell? ⟨G, p * 3 + 2, none⟩ = some (.int .i64 PX.2.2)) := ⟨⟨m1, n0, n1, n2⟩, g0, g1, g2⟩
  have hpI : (p : Int) < 3 := by omega
  refine wp_region_ends (fun w' => w'.cell? ⟨w.heap.size, 1, none⟩ = some (.slice (some ⟨G, 0, none⟩) 3 cG) ∧ w'.cell? ⟨w.heap.size + 1, 0, none⟩ = some (.slice fa 3 fc) ∧ w'.cell? ⟨w.heap.size + 1, 1, none⟩ = some (.slice fd 2 fe) ∧ w'.cell? ⟨w.heap.size + 1, 2, none⟩ = some (.int .i64 X.2.2)) (fun w' => w'.cell? ⟨G, p * 3, none⟩ = some (.slice pa' 3 pca) ∧ w'.cell? ⟨G, p * 3 + 1, none⟩ = some (.slice pc' 2 pcc) ∧ w'.cell? ⟨G, p * 3 + 2, none⟩ = some (.int .i64 PX.2.2)) 10 (by kernel_rfl) ?_
  refine wpAnyE_take0 (i := 0) (v := ?v0) rfl (by kernel_rfl) (by kernel_rfl) (by kernel_rfl) (by decide) (fun _ _ _ h => h) (Or.inl ⟨by rfl, ?hy0⟩) hSS ?_
  case hy0 => (intro wz hSw; (try dsimp only at hSw); go_simp; try (with_reducible rfl))
  refine wpAnyE_take0 (i := 1) (v := ?v1) rfl (by kernel_rfl) (by kernel_rfl) (by kernel_rfl) (by decide) (fun _ _ _ h => h) (Or.inl ⟨by rfl, ?hy1⟩) hSS ?_
  case hy1 => (intro wz hSw; (try dsimp only at hSw); go_simp; try (with_reducible rfl))
  refine wpAnyE_take0 (i := 2) (v := ?v2) rfl (by kernel_rfl) (by kernel_rfl) (by kernel_rfl) (by decide) (fun _ _ _ h => h) (Or.inl ⟨by rfl, ?hy2⟩) hSS ?_
  case hy2 => (intro wz hSw; (try dsimp only at hSw); go_simp; try (with_reducible rfl))
  refine wpAnyE_take0 (i := 3) (v := ?v3) rfl (by kernel_rfl) (by kernel_rfl) (by kernel_rfl) (by decide) (fun _ _ _ h => h) (Or.inl ⟨by rfl, ?hy3⟩) hSS ?_
  case hy3 => (intro wz hSw; (try dsimp only at hSw); go_simp; try (with_reducible rfl))
  refine wpAnyE_take0 (i := 4) (v := ?v4) rfl (by kernel_rfl) (by kernel_rfl) (by kernel_rfl) (by decide) (fun _ _ _ h => h) (Or.inl ⟨by rfl, ?hy4⟩) hSS ?_
  case hy4 => (intro wz hSw; (try dsimp only at hSw); go_simp; try (with_reducible rfl))
  refine wpAnyE_take0 (i := 5) (v := ?v5) rfl (by kernel_rfl) (by kernel_rfl) (by kernel_rfl) (by decide) (fun _ _ _ h => h) (Or.inl ⟨by rfl, ?hy5⟩) hSS ?_
  case hy5 => (intro wz hSw; (try dsimp only at hSw); go_simp; try (with_reducible rfl))
  refine wpAnyE_take0 (i := 6) (v := ?v6) rfl (by kernel_rfl) (by kernel_rfl) (by kernel_rfl) (by decide) (fun _ _ _ h => h) (Or.inl ⟨by rfl, ?hy6⟩) hSS ?_
  case hy6 => (intro wz hSw; (try dsimp only at hSw); go_simp; try (with_reducible rfl))
  refine wpAnyE_take1 (i := 7) (v := ?v7) rfl rfl (by kernel_rfl) (by kernel_rfl) (by kernel_rfl) (by decide) (by rfl) (by simp [Region.binds]) (fun _ _ _ h => h) (Or.inl ⟨by rfl, ?hy7⟩) hSS ?_
  case hy7 => (intro wz hSw; (try dsimp only at hSw); go_simp; try (with_reducible rfl))
  refine wpAnyE_take0 (i := 8) (v := ?v8) rfl (by kernel_rfl) (by kernel_rfl) (by kernel_rfl) (by decide) (fun _ _ _ h => h) (Or.inl ⟨by rfl, ?hy8⟩) hSS ?_
  case hy8 => (intro wz hSw; (try dsimp only at hSw); go_simp; try (with_reducible rfl))
  refine wpAnyE_one (i := 9) (by kernel_rfl) rfl (fun K hK => ?_)
  go_simp
  refine (iaddX_any _ _ _ _ PX _ _ _ _ X _ (iC.below (Below.refl _ _).drew) (iD.below (Below.refl _ _).drew) (u1.below (Below.refl _ _).drew) (u2.below (Below.refl _ _).drew) (by rw [← HPX.out]; exact H1.out) H2.out (by rw [← HPX.out]; exact H3.out)).mono ?_
  rintro ee w3 ⟨E1, E2, k1', k2', rfl, bd, y1, y2, y3, v1, v2⟩
  have b3 := below_of_drew bd
  have y1x : w2.heap.size ≤ E1 := y1
  have y3x : w2.heap.size ≤ E2 := y3
  have j3 := j2.below b3
  have q3 := q2.below b3
  have f3 := f2.below b3
  have r3 := r2.below b3
  have s3 := b3.size
  obtain ⟨-, m1', -, -⟩ := q3.four
  obtain ⟨n0', n1', n2', -, -, -⟩ := f3.trio
  have hS3 : (w3.cell? ⟨w.heap.size, 1, none⟩ = some (.slice (some ⟨G, 0, none⟩) 3 cG) ∧ w3.cell? ⟨w.heap.size + 1, 0, none⟩ = some (.slice fa 3 fc) ∧ w3.cell? ⟨w.heap.size + 1, 1, none⟩ = some (.slice fd 2 fe) ∧ w3.cell? ⟨w.heap.size + 1, 2, none⟩ = some (.int .i64 X.2.2)) ∧ (w3.cell? ⟨G, p * 3, none⟩ = some (.slice pa' 3 pca) ∧ w3.cell? ⟨G, p * 3 + 1, none⟩ = some (.slice pc' 2 pcc) ∧ w3.cell? ⟨G, p * 3 + 2, none⟩ = some (.int .i64 PX.2.2)) := ⟨⟨m1', n0', n1', n2'⟩, (b3.cell (p := ⟨G, p * 3, none⟩) lG2.2).trans g0, (b3.cell (p := ⟨G, p * 3 + 1, none⟩) lG2.2).trans g1, (b3.cell (p := ⟨G, p * 3 + 2, none⟩) lG2.2).trans g2⟩
  (try dsimp only)
  refine hK.out _ _ ⟨hS3.1, fun _ => hS3.2⟩ ?_
  clear hK K hSS
  refine wpAnyE_one (i := 10) (by kernel_rfl) rfl (fun K hK => ?_)
  go_simp
  refine hK.out _ _ ⟨hS3.1, fun h => absurd (show true = false from h) (by decide)⟩ ?_
  clear hK K
  have FPN := j3.put HL.out hp (ca := k1') (cc := k2') (K := (plusX PX X).2.2) v1 (by rw [← HPX.out]; exact H3.out.c) v2 (by rw [← HPX.out]; exact H3.out.d) (by omega) (by omega)
  have fz0 := j3.frz (p * 3)
  have fz1 := j3.frz (p * 3 + 1)
  have fz2 := j3.frz (p * 3 + 2)
  obtain ⟨h0', h1', h2'⟩ := hS3.2
  have TT : Touch (fun q => q = G) w3 (((w3.setCell ⟨G, p * 3, none⟩ (.slice (some ⟨E1, 0, none⟩) 3 k1')).setCell ⟨G, p * 3 + 1, none⟩ (.slice (some ⟨E2, 0, none⟩) 2 k2')).setCell ⟨G, p * 3 + 2, none⟩ (.int .i64 (plusX PX X).2.2)) := (((Touch.refl (fun q => q = G) w3).setCell rfl _).setCell rfl _).setCell rfl _
  have q4 := q3.touch TT (fun h => by have := h; omega)
  have f4 := f3.touch TT (fun h => by have := h; omega)
  have r4 := r3.touch TT (fun h => by have := h; omega)
  have B4 := (B2.trans (b3.mono B2.size)).trans (TT.below (by have := B2.size; omega) (fun q hq => by omega))
  obtain ⟨o0, o1, o2, o3⟩ := q4.four
  obtain ⟨t0, t1, t2, -, -, -⟩ := f4.trio
  have sTT := TT.size
  refine wpAnyE_one (i := 11) (by kernel_rfl) rfl (fun K hK => ?_)
  go_simp
  refine hK.out _ _ ⟨⟨o1, t0, t1, t2⟩, fun h => absurd (show true = false from h) (by decide)⟩ ?_
  clear hK K
  refine wpAnyE_done (by kernel_rfl) ?_ _
  have eAdd : (y.add p X).pots = y.pots.set p ((plusX PX X).1, (plusX PX X).2.1, (plusX PX X).2.2) := by
    show y.pots.set p (plusX (y.pots[p]?.getD noX) X) = _
    rw [HPX.out]
  rw [← eAdd] at FPN
  clear hS3 h0' h1' h2' fz0 fz1 fz2 TT eAdd f4 f3 f2 q3 q2 r3 r2 j3 j2 B2 b3 bd v1 v2 u1 u2 iC iD g0 g1 g2 d0 d1 d2
  generalize (((w3.setCell ⟨G, p * 3, none⟩ (.slice (some ⟨E1, 0, none⟩) 3 k1')).setCell ⟨G, p * 3 + 1, none⟩ (.slice (some ⟨E2, 0, none⟩) 2 k2')).setCell ⟨G, p * 3 + 2, none⟩ (.int .i64 (plusX PX X).2.2)) = V at *
  obtain ⟨l0, l1, l2, l3⟩ := r4.four
  have fy0 := r4.free 0
  have fy1 := r4.free 1
  have fy2 := r4.free 2
  have fy3 := r4.free 3
  obtain ⟨x', T'⟩ := put4 r4 rfl (.slice ga ng gc) (.slice (some ⟨G, 0, none⟩) 3 cG) (.slice ta nt tc) (.bool st)
  have FP2 := FPN.past (boxNil r4) T'
  have B5 := B4.trans (T'.below B4.size (fun k hk => by omega))
  obtain ⟨e0, e1, e2, e3⟩ := x'.four
  have lr := r4.lt
  clear FPN r4 T' x'
  go_wp2
  refine bodyPost_ret (v := wayV ga ng gc (some ⟨G, 0, none⟩) cG ta nt tc st) (by simp [results, Tryz.results185, go_sem, e0, e1, e2, e3]) rfl ?_
  exact ⟨G, cG, rfl, B5, FP2⟩

end Go.Proofs.YtpmihhbgjimpmaaGreatDoor
namespace Go.Proofs.YtpmihhbgjimpmaaGreatDoor
open Go.RowKit Go.Deep
set_option linter.unusedVariables false
set_option maxRecDepth 100000

theorem next_nil {n : Nat} (h : 0 < n) : Builtin.nextslicecap n 0 = n := by
  simp [Builtin.nextslicecap, h]
/-- append(nil, make([]T, n)...). -/
theorem run_append_made {P : Program} (w : World) (t tx ty e : TypeId) (i : TypeInfo) (z : Value) (ht : P.underlying t = some (.slice e)) (htx : P.underlying tx = some (.int .i64)) (hi : P.info? e = some i) (hz : i.zero = some z) (n : Nat) (h0 : 0 < n) (hs : 0 < i.size) (hn : n ≤ 1000) (hb : i.bytes ≤ 1000) :
    (Builtin.append_ #[t, tx] ty #[.slice none 0 0, .int .i64 (n : Int)]).run P w = .ok (.slice (some ⟨w.heap.size, 0, none⟩) n (grownCap w n 0 e)) (w.drew.alloc (.cells (Builtin.zeroCells z.cells n ++ Builtin.zeroCells z.cells (grownCap w n 0 e - n)) e)) := by
  have hw : IntKind.i64.wrap (n : Int) = n := wrap_id (by omega) (by omega)
  have h1 : ¬ ((n : Int) < 0) := by omega
  have hnb : n * i.bytes ≤ 1000 * 1000 := Nat.mul_le_mul hn hb
  have h2 : ¬ (281474976710656 < (n : Int) * (i.bytes : Int)) := by
    have : ((n * i.bytes : Nat) : Int) = (n : Int) * (i.bytes : Int) := by simp
    omega
  have h3 : ¬ (n * i.size = 0) := by
    have := Nat.mul_pos h0 hs
    omega
  have h4 : ¬ (n = 0) := by omega
  have h5 : ¬ (281474976710656 < n * i.bytes) := by omega
  have h6 : ¬ (9223372036854775807 < (n : Int)) := by omega
  have hold : (Builtin.firstCells i.size 0 (.slice none 0 0)).run P w.drew = .ok #[] w.drew := run_firstCells_none w.drew i.size 0 0 0
  simp [Builtin.append_, asInt, asIntOf, run_underlying ht, run_underlying htx, sizeOf, typeInfo, zeroValue, hi, hz, hw, h1, h2, h3, h4, h5, h6, next_nil h0, Question.forced, hold, newRow, grownCap]

theorem wpList_append_made {P : Program} {ops : Array Oper} {rest : List Oper} {o : Oper} {a : Act} {w : World} {Q : Exit → Act → World → Prop} (hgd : o.guard = none) (s x : Operand) (t tx : TypeId) (ho : o.op = .call { callee := .builtin .append, args := #[s, x], argTypes := #[t, tx] }) (v xv r : Value) (w' : World) (hs : a.eval s = v) (hx : a.eval x = xv) (hr : (Builtin.append_ #[t, tx] o.type #[v, xv]).run P w = .ok r w') (h : wpList P ops Q rest (a.put o.dst r) w') : wpList P ops Q (o :: rest) a w := by
  refine wpList_plain hgd fun K hK => ?_
  unfold Oper.wp execOp
  simp only [ho, resolve, invoke, builtin, Sem.run_bind, Sem.run_pure, Result.andThen_ok, List.map_toArray, List.map_cons, List.map_nil, hs, hx, hr]
  exact hK _ _ h
theorem zero_size (z : Array Value) (n : Nat) : (Builtin.zeroCells z n).size = n * z.size := by simp [Builtin.zeroCells]

set_option maxHeartbeats 1600000 in
theorem igrow_any (n : Nat) (h0 : 0 < n) (hn : n ≤ 1000) (w : World) :
    Calls Tryz.prog 202 #[.slice none 0 0, .int .i64 (n : Int)] w fun e w' => ∃ G cap, e = .returned (.slice (some ⟨G, 0, none⟩) 0 cap) ∧ Below w.heap.size w w' ∧ w'.ownsRow w.heap.size 95 3 (.slice (some ⟨G, 0, none⟩) 0 cap) 0 [] ∧ n ≤ cap := by
  obtain ⟨zi, hi, hz0, hz1, hz2⟩ := info_parts Tryz.infoForm
  have hap : ∀ (ty : TypeId) (w : World), (Builtin.append_ #[176, 3] ty #[.slice none 0 0, .int .i64 (n : Int)]).run Tryz.prog w = .ok (.slice (some ⟨w.heap.size, 0, none⟩) n (grownCap w n 0 95)) (w.drew.alloc (.cells (Builtin.zeroCells (Value.agg #[.slice none 0 0, .slice none 0 0, .int .i64 0]).cells n ++ Builtin.zeroCells (Value.agg #[.slice none 0 0, .slice none 0 0, .int .i64 0]).cells (grownCap w n 0 95 - n)) 95)) := fun ty w => run_append_made w _ _ ty _ zi _ Tryz.underlying176 (by kernel_rfl) hi hz0 n h0 (by rw [hz1]; omega) hn (by rw [hz2]; omega)
  have hpos : ¬ ((n : Int) < 0) := by omega
  have hpos2 : (0 : Int) < n := by omega
  have hge := grownCap_ge w n 0 95
  have hle := grownCap_le_maxLen w n 0 95 (by unfold maxLen; omega)
  go_enter Tryz.func202, Tryz.ntmps202
  go_wp2_with (at_builtin; go_must (refine wpList_append_made rfl (.tmp 20) (.tmp 21) 176 3 rfl _ _ _ _ rfl rfl (hap _ _) ?_))
  have B : Below w.heap.size w (w.drew.alloc (.cells (Builtin.zeroCells (Value.agg #[.slice none 0 0, .slice none 0 0, .int .i64 0]).cells n ++ Builtin.zeroCells (Value.agg #[.slice none 0 0, .slice none 0 0, .int .i64 0]).cells (grownCap w n 0 95 - n)) 95)) := ((Below.refl w.heap.size w).drew).alloc (Nat.le_refl _) _
  have O : (w.drew.alloc (.cells (Builtin.zeroCells (Value.agg #[.slice none 0 0, .slice none 0 0, .int .i64 0]).cells n ++ Builtin.zeroCells (Value.agg #[.slice none 0 0, .slice none 0 0, .int .i64 0]).cells (grownCap w n 0 95 - n)) 95)).ownsRow w.heap.size 95 3 (.slice (some ⟨w.heap.size, 0, none⟩) 0 (grownCap w n 0 95)) 0 [] := by
    refine ⟨rfl, .inr ⟨w.heap.size, _, _, rfl, Nat.le_refl _, heap_alloc_new w.drew _, Nat.zero_le _, hle, ?_, rfl⟩⟩
    rw [Array.size_append, zero_size, zero_size]
    show n * 3 + (grownCap w n 0 95 - n) * 3 = _
    omega
  go_wp2
  go_ret
  exact ⟨_, _, rfl, B, O, hge⟩

end Go.Proofs.YtpmihhbgjimpmaaGreatDoor
namespace Go.Proofs.YtpmihhbgjimpmaaGreatDoor
open Go.RowKit Go.Deep
set_option linter.unusedVariables false
set_option maxRecDepth 100000

/-- The cells of forms that can be read. -/
theorem FormsAt.cells {w : World} {b off : Nat} {fs : List Frm} (h : FormsAt w (some ⟨b, off, none⟩) fs) : ∀ k, k ≤ fs.length → ∃ xs : List Value, xs.length = k * 3 ∧ (∀ j u, xs[j]? = some u → w.cell? ⟨b, off + j, none⟩ = some u) ∧ (∀ u ∈ xs, u.oneCell' = true) ∧ (∀ G, w.heap.size ≤ G → TermsOk w G xs fs k) := by
  intro k
  induction k with
  | zero => intro _; exact ⟨[], rfl, fun j u hu => by simp at hu, fun u hu => by simp at hu, fun G _ j hj => by omega⟩
  | succ k ih =>
    intro hk
    obtain ⟨xs, h1, h2, h3, h4⟩ := ih (by omega)
    obtain ⟨b', off', e, a', c', ca, cc, c0, c1, c2, iC, iD⟩ := h k (by omega)
    simp only [Option.some.injEq, Addr.mk.injEq, and_true] at e
    obtain ⟨rfl, rfl⟩ := e
    refine ⟨xs ++ [.slice a' 3 ca, .slice c' 2 cc, .int .i64 (fs[k]?.getD ([], [], 0)).2.2], by rw [List.length_append, h1]; simp; omega, fun j u hu => ?_, fun u hu => ?_, fun G hG j hj => ?_⟩
    · by_cases hj : j < xs.length
      · rw [List.getElem?_append_left hj] at hu; exact h2 j u hu
      · rw [List.getElem?_append_right (by omega), h1] at hu
        obtain ⟨r, rfl⟩ : ∃ r, j = k * 3 + r := ⟨j - k * 3, by omega⟩
        rw [show k * 3 + r - k * 3 = r by omega] at hu
        match r with
        | 0 => simp only [List.getElem?_cons_zero, Option.some.injEq] at hu; subst hu; exact c0
        | 1 => simp only [List.getElem?_cons_zero, List.getElem?_cons_succ, Option.some.injEq] at hu; subst hu; exact c1
        | 2 => simp only [List.getElem?_cons_zero, List.getElem?_cons_succ, Option.some.injEq] at hu; subst hu; exact c2
        | r + 3 => simp at hu
    · rcases List.mem_append.1 hu with hu | hu
      · exact h3 u hu
      · simp only [List.mem_cons, List.not_mem_nil, or_false] at hu
        rcases hu with rfl | rfl | rfl <;> rfl
    · by_cases hjk : j < k
      · obtain ⟨a2, c2', x, y, e0, e1, e2, i1, i2, n1, n2⟩ := h4 G hG j hjk
        exact ⟨a2, c2', x, y, by rw [List.getElem?_append_left (by omega)]; exact e0, by rw [List.getElem?_append_left (by omega)]; exact e1, by rw [List.getElem?_append_left (by omega)]; exact e2, i1, i2, n1, n2⟩
      · obtain rfl : j = k := by omega
        refine ⟨a', c', ca, cc, ?_, ?_, ?_, iC, iD, fun b o e => by have := iC.blt (by omega) b o e; omega, fun b o e => by have := iD.blt (by omega) b o e; omega⟩
        · rw [List.getElem?_append_right (by omega), h1, Nat.sub_self]; rfl
        · rw [List.getElem?_append_right (by omega), h1, show j * 3 + 1 - j * 3 = 1 by omega]; rfl
        · rw [List.getElem?_append_right (by omega), h1, show j * 3 + 2 - j * 3 = 2 by omega]; rfl
theorem TermsOk.move {W W' : World} {G g : Nat} {xs : List Value} {T : List Frm} {n : Nat} (h : TermsOk W G xs T n) (t : Touch (fun x => x = G) W W') (hg : g = G ∨ W.heap.size ≤ g) : TermsOk W' g xs T n := fun j hj => by
  obtain ⟨a', c', ca, cc, e0, e1, e2, i1, i2, n1, n2⟩ := h j hj
  refine ⟨a', c', ca, cc, e0, e1, e2, i1.by t n1, i2.by t n2, fun b o e => ?_, fun b o e => ?_⟩
  · have := n1 b o e
    have := i1.blt (by omega) b o e
    omega
  · have := n2 b o e
    have := i2.blt (by omega) b o e
    omega
theorem TermsOk.join {W : World} {G : Nat} {xs ys : List Value} {T U : List Frm} {n m : Nat} (h : TermsOk W G xs T n) (h' : TermsOk W G ys U m) (hx : xs.length = n * 3) (hT : T.length = n) : TermsOk W G (xs ++ ys) (T ++ U) (n + m) := fun j hj => by
  by_cases hjn : j < n
  · obtain ⟨a', c', ca, cc, e0, e1, e2, r⟩ := h j hjn
    refine ⟨a', c', ca, cc, by rw [List.getElem?_append_left (by omega)]; exact e0, by rw [List.getElem?_append_left (by omega)]; exact e1, ?_, ?_⟩
    · rw [List.getElem?_append_left (by omega), List.getElem?_append_left (l₁ := T) (by omega)]; exact e2
    · rw [List.getElem?_append_left (l₁ := T) (by omega)]; exact r
  · obtain ⟨a', c', ca, cc, e0, e1, e2, r⟩ := h' (j - n) (by omega)
    refine ⟨a', c', ca, cc, ?_, ?_, ?_, ?_⟩
    · rw [List.getElem?_append_right (by omega), hx, show j * 3 - n * 3 = (j - n) * 3 by omega]; exact e0
    · rw [List.getElem?_append_right (by omega), hx, show j * 3 + 1 - n * 3 = (j - n) * 3 + 1 by omega]; exact e1
    · rw [List.getElem?_append_right (by omega), hx, show j * 3 + 2 - n * 3 = (j - n) * 3 + 2 by omega, List.getElem?_append_right (l₁ := T) (by omega), hT]; exact e2
    · rw [List.getElem?_append_right (l₁ := T) (by omega), hT]; exact r
theorem grown_touch {W W' : World} {G : Nat} (h : W.grownBy W' (some G)) : Touch (fun x => x = G) W W' := ⟨h.os, h.tape, h.output, h.size, fun z hz hn => h.block z hz (fun e => hn (by simpa using e))⟩

theorem igrow_at (x : Int) (n : Nat) (hx : x = (n : Int)) (h0 : 0 < n) (hn : n ≤ 1000) (w : World) :
    Calls Tryz.prog 202 #[.slice none 0 0, .int .i64 x] w fun e w' => ∃ G cap, e = .returned (.slice (some ⟨G, 0, none⟩) 0 cap) ∧ Below w.heap.size w w' ∧ w'.ownsRow w.heap.size 95 3 (.slice (some ⟨G, 0, none⟩) 0 cap) 0 [] ∧ n ≤ cap := by
  subst hx
  exact igrow_any n h0 hn w
theorem own_lo {W : World} {base g cap n : Nat} {xs : List Value} (h : W.ownsRow base 95 3 (.slice (some ⟨g, 0, none⟩) n cap) n xs) : base ≤ g ∧ g < W.heap.size ∧ n ≤ cap := by
  rcases h.2 with ⟨h', _⟩ | ⟨g', cap', cur, h', hb, hh, hc, _⟩
  · cases h'
  · simp only [Value.slice.injEq, Option.some.injEq, Addr.mk.injEq, and_true, true_and] at h'
    obtain ⟨rfl, rfl⟩ := h'
    exact ⟨hb, lt_of_block hh, hc⟩

set_option maxHeartbeats 3200000 in
theorem iconcat_any (Q : Nat) (ga : Option Addr) (ng gc : Nat) (fs : List Frm) (F fcap : Nat) (X : Frm) (w : World) (hQ : Cel w Q [.slice ga ng gc, .slice (some ⟨F, 0, none⟩) 1 fcap] 176) (hn : fs.length = ng) (hng : ng ≤ 100) (hG : FormsAt w ga fs) (hX : FormsAt w (some ⟨F, 0, none⟩) [X]) :
    Calls Tryz.prog 197 #[.slice (some ⟨Q, 0, none⟩) 2 2] w fun e w' => ∃ G cap, e = .returned (.slice (some ⟨G, 0, none⟩) (ng + 1) cap) ∧ Below w.heap.size w w' ∧ FormsAt w' (some ⟨G, 0, none⟩) (fs ++ [X]) := by
  have HN : Hid (fs.length = ng) := hn
  have HG : Hid (FormsAt w ga fs) := hG
  have HX : Hid (FormsAt w (some ⟨F, 0, none⟩) [X]) := hX
  have HQ : Hid (Cel w Q [.slice ga ng gc, .slice (some ⟨F, 0, none⟩) 1 fcap] 176) := hQ
  clear hn hG hX hQ
  obtain ⟨zi, hi, hz0, hz1, hz2⟩ := info_parts Tryz.infoForm
  go_enter Tryz.func197, Tryz.ntmps197
  go_wp2_with fail
  go_loopw [3, 5, 11] (fun s _ i wr => ∃ k : Nat, k ≤ 2 ∧ i = .int .i64 k ∧ (∃ x : Int, s = .int .i64 x ∧ ((k = 0 ∧ x = 0) ∨ (k = 1 ∧ x = ng) ∨ (k = 2 ∧ x = ng + 1))) ∧ wr = w) (fun _ _ i _ => 2 - (intOf i).toNat)
  case atStart => exact ⟨0, by omega, rfl, ⟨0, rfl, .inl ⟨rfl, rfl⟩⟩, rfl⟩
  case round =>
    obtain ⟨k, hk, rfl, ⟨x, rfl, hx⟩, hwr⟩ := hrel
    have hwr' : w = wr := hwr.symm
    subst hwr'
    have c0 : w.cell? ⟨Q, 0, none⟩ = some (.slice ga ng gc) := HQ.out.cell 0
    have c1 : w.cell? ⟨Q, 1, none⟩ = some (.slice (some ⟨F, 0, none⟩) 1 fcap) := HQ.out.cell 1
    rcases hx with ⟨rfl, rfl⟩ | ⟨rfl, rfl⟩ | ⟨rfl, rfl⟩
    · have p1 : ¬ ((ng : Int) < 0) := by omega
      go_wp2
      go_roundw
      case rel => exact ⟨1, by omega, rfl, ⟨_, rfl, .inr (.inl ⟨rfl, rfl⟩)⟩, trivial⟩
      case measure => simp [intOf]
    · have p1 : ¬ ((ng : Int) + 1 < 0) := by omega
      go_wp2
      go_roundw
      case rel => exact ⟨2, by omega, rfl, ⟨_, rfl, .inr (.inr ⟨rfl, rfl⟩)⟩, trivial⟩
      case measure => simp [intOf]
    · go_wp2_with fail
      refine (igrow_at _ (ng + 1) (by omega) (by omega) (by omega) _).mono ?_
      rintro e w1 ⟨G, cap, rfl, b1, o1, hcap⟩
      clear c0 c1
      go_wp2_with fail
      go_loopw [6, 8, 27] (fun r _ i w2 => ∃ (k n g cp : Nat) (xs : List Value) (T : List Frm), k ≤ 2 ∧ i = .int .i64 k ∧ r = .slice (some ⟨g, 0, none⟩) n cp ∧ T.length = n ∧ ((k = 0 ∧ n = 0 ∧ T = []) ∨ (k = 1 ∧ n = ng ∧ T = fs) ∨ (k = 2 ∧ n = ng + 1 ∧ T = fs ++ [X])) ∧ Below w.heap.size w w2 ∧ w2.ownsRow w.heap.size 95 3 (.slice (some ⟨g, 0, none⟩) n cp) n xs ∧ TermsOk w2 g xs T n) (fun _ _ i _ => 2 - (intOf i).toNat)
      case atStart => exact ⟨0, 0, G, cap, [], [], by omega, rfl, rfl, rfl, .inl ⟨rfl, rfl, rfl⟩, b1, o1, fun j hj => by omega⟩
      case round =>
        clear b1 o1 hcap
        obtain ⟨k, n, g, cp, xs, T, hk, rfl, rfl, hT, hx, hb, ho, ht⟩ := hrel
        have HT : Hid (T.length = n) := hT
        have HTT : Hid (TermsOk wr g xs T n) := ht
        have q := HQ.out.below hb
        have c0 : wr.cell? ⟨Q, 0, none⟩ = some (.slice ga ng gc) := q.cell 0
        have c1 : wr.cell? ⟨Q, 1, none⟩ = some (.slice (some ⟨F, 0, none⟩) 1 fcap) := q.cell 1
        obtain ⟨lo1, lo2, lo3⟩ := own_lo ho
        have sz := hb.size
        clear hT ht q
        rcases hx with ⟨rfl, rfl, rfl⟩ | ⟨rfl, rfl, rfl⟩ | ⟨rfl, rfl, rfl⟩
        · rcases Nat.eq_zero_or_pos ng with h0 | h0
          · have HNG : Hid (ng = 0) := h0
            clear h0
            have hs : ∀ w : World, Src Tryz.prog zi.size 176 (.slice ga ng gc) 0 [] w := fun w => by
              rw [HNG.out]
              cases ga with
              | none => exact Src.ofNil w Tryz.underlying176 gc
              | some a => exact Src.ofSlice w Tryz.underlying176 a 0 gc [] (by simp) (fun j u hu => by simp at hu) (fun u hu => by simp at hu)
            go_wp2_with (at_builtin; go_must (refine wpList_append_made rfl (.tmp 31) (.tmp 32) 176 176 rfl _ _ _ _ rfl rfl (run_append_nothing _ _ _ _ _ zi Tryz.underlying176 hi _ _ _ lo3 _ (hs _)) ?_))
            (try go_wp2)
            go_roundw
            case rel => exact ⟨1, 0, g, cp, xs, fs, by omega, rfl, rfl, HN.out.trans HNG.out, .inr (.inl ⟨rfl, HNG.out.symm, rfl⟩), hb, ho, fun j hj => by omega⟩
            case measure => simp [intOf]
          · obtain ⟨gb, go', rfl, -⟩ := HG.out 0 (by rw [HN.out]; exact h0)
            obtain ⟨ys, y1, y2, y3, y4⟩ := (HG.out.keep hb).cells ng (by rw [HN.out]; exact Nat.le_refl _)
            have HY2 : Hid (∀ j u, ys[j]? = some u → wr.cell? ((⟨gb, go', none⟩ : Addr).add j) = some u) := fun j u hu => by rw [addr_add]; exact y2 j u hu
            have HY3 : Hid _ := y3
            have HY1 : Hid (ys.length = ng * 3) := y1
            have HG2 := (HG.out.keep hb)
            obtain ⟨zs, z1, z2, z3, z4⟩ := HG.out.cells ng (by rw [HN.out]; exact Nat.le_refl _)
            have hxs : xs = [] := List.eq_nil_of_length_eq_zero (by have := ho.1; omega)
            subst hxs
            have HTG : Hid (TermsOk wr g ys fs ng) := fun j hj => by
              obtain ⟨a', c', ca, cc, e0, e1, e2, i1, i2, n1, n2⟩ := y4 wr.heap.size (Nat.le_refl _) j hj
              obtain ⟨b0, o0, e, a'', c'', ca', cc', k0, k1, k2, iC, iD⟩ := HG.out j (by rw [HN.out]; exact hj)
              simp only [Option.some.injEq, Addr.mk.injEq, and_true] at e
              obtain ⟨rfl, rfl⟩ := e
              have f0 := (hb.cell (p := ⟨gb, go' + j * 3, none⟩) (block_lt k0)).trans k0
              have f1 := (hb.cell (p := ⟨gb, go' + j * 3 + 1, none⟩) (block_lt k1)).trans k1
              have g0 := y2 (j * 3) _ e0
              have g1 := y2 (j * 3 + 1) _ e1
              rw [f0] at g0
              rw [show go' + (j * 3 + 1) = go' + j * 3 + 1 by omega, f1] at g1
              simp only [Option.some.injEq, Value.slice.injEq, true_and] at g0 g1
              obtain ⟨rfl, rfl⟩ := g0
              obtain ⟨rfl, rfl⟩ := g1
              exact ⟨a'', c'', ca', cc', e0, e1, e2, i1, i2, fun b o e => by have := iC.blt (by omega) b o e; omega, fun b o e => by have := iD.blt (by omega) b o e; omega⟩
            clear y1 y2 y3 y4 z1 z2 z3 z4 zs HG2
            go_wp2_with (at_builtin; go_must (refine wpList_append_lies _ rfl (.tmp 31) (.tmp 32) 176 rfl w.heap.size 95 zi _ 3 56 Tryz.underlying176 hi hz0 hz1 hz2 rfl (by decide) (.slice (some ⟨g, 0, none⟩) 0 cp) 0 [] rfl ho ⟨gb, go', none⟩ ng gc ys rfl HY1.out HY2.out HY3.out h0 (by unfold maxLen; omega) (by omega) sz _ rfl ?_); intro g2 cp2 w3 hown hgrow hat hlt1)
            have t3 : Touch (fun x => x = g) wr w3 := grown_touch hgrow
            have hat' : g2 = g ∨ wr.heap.size ≤ g2 := by
              rcases hat with h | h
              · have h' : some g = some g2 := h
                simp only [Option.some.injEq] at h'
                omega
              · omega
            have T3 := HTG.out.move t3 hat'
            have b3 := hb.trans (t3.below hb.size (fun k hk => by omega))
            have ow : w3.ownsRow w.heap.size 95 3 (.slice (some ⟨g2, 0, none⟩) ng cp2) ng ys := by
              have := hown
              rw [Nat.zero_add, List.nil_append] at this
              exact this
            clear hown hgrow hat t3 hat' HTG
            (try go_wp2)
            go_roundw
            case rel => exact ⟨1, ng, g2, cp2, ys, fs, by omega, rfl, rfl, HN.out, .inr (.inl ⟨rfl, rfl, rfl⟩), b3, ow, T3⟩
            case measure => simp [intOf]
        · obtain ⟨ys, y1, y2, y3, y4⟩ := (HX.out.keep hb).cells 1 (Nat.le_refl _)
          have HY2 : Hid (∀ j u, ys[j]? = some u → wr.cell? ((⟨F, 0, none⟩ : Addr).add j) = some u) := fun j u hu => by rw [addr_add]; exact y2 j u hu
          have HY3 : Hid _ := y3
          have HY1 : Hid (ys.length = 1 * 3) := y1
          have HTG : Hid (TermsOk wr g ys [X] 1) := fun j hj => by
            obtain ⟨a', c', ca, cc, e0, e1, e2, i1, i2, n1, n2⟩ := y4 wr.heap.size (Nat.le_refl _) j hj
            obtain ⟨b0, o0, e, a'', c'', ca', cc', k0, k1, k2, iC, iD⟩ := HX.out j hj
            simp only [Option.some.injEq, Addr.mk.injEq, and_true] at e
            obtain ⟨rfl, rfl⟩ := e
            have f0 := (hb.cell (p := ⟨F, 0 + j * 3, none⟩) (block_lt k0)).trans k0
            have f1 := (hb.cell (p := ⟨F, 0 + j * 3 + 1, none⟩) (block_lt k1)).trans k1
            have g0 := y2 (j * 3) _ e0
            have g1 := y2 (j * 3 + 1) _ e1
            rw [f0] at g0
            rw [show 0 + (j * 3 + 1) = 0 + j * 3 + 1 by omega, f1] at g1
            simp only [Option.some.injEq, Value.slice.injEq, true_and] at g0 g1
            obtain ⟨rfl, rfl⟩ := g0
            obtain ⟨rfl, rfl⟩ := g1
            exact ⟨a'', c'', ca', cc', e0, e1, e2, i1, i2, fun b o e => by have := iC.blt (by omega) b o e; omega, fun b o e => by have := iD.blt (by omega) b o e; omega⟩
          have HJ : Hid (TermsOk wr g (xs ++ ys) (T ++ [X]) (n + 1)) := HTT.out.join HTG.out ho.1 HT.out
          clear y1 y2 y3 y4
          go_wp2_with (at_builtin; go_must (refine wpList_append_lies _ rfl (.tmp 31) (.tmp 32) 176 rfl w.heap.size 95 zi _ 3 56 Tryz.underlying176 hi hz0 hz1 hz2 rfl (by decide) (.slice (some ⟨g, 0, none⟩) n cp) n xs rfl ho ⟨F, 0, none⟩ 1 fcap ys rfl HY1.out HY2.out HY3.out (by omega) (by unfold maxLen; omega) (by omega) sz _ rfl ?_); intro g2 cp2 w3 hown hgrow hat hlt1)
          have t3 : Touch (fun x => x = g) wr w3 := grown_touch hgrow
          have hat' : g2 = g ∨ wr.heap.size ≤ g2 := by
            rcases hat with h | h
            · have h' : some g = some g2 := h
              simp only [Option.some.injEq] at h'
              omega
            · omega
          have T3 := HJ.out.move t3 hat'
          have b3 := hb.trans (t3.below hb.size (fun k hk => by omega))
          clear hgrow hat t3 hat' HTG HJ
          (try go_wp2)
          go_roundw
          case rel => exact ⟨2, _, g2, cp2, _, T ++ [X], by omega, rfl, rfl, by rw [List.length_append, HT.out]; rfl, .inr (.inr ⟨rfl, rfl, rfl⟩), b3, hown, T3⟩
          case measure => simp [intOf]
        · go_wp2
          go_ret
          exact ⟨g, cp, rfl, hb, HTT.out.forms HT.out ho⟩

end Go.Proofs.YtpmihhbgjimpmaaGreatDoor
namespace Go.Proofs.YtpmihhbgjimpmaaGreatDoor
open Go.RowKit Go.Deep
set_option linter.unusedVariables false
set_option maxRecDepth 100000

/-- A block that holds no number holds no form. -/
theorem FormsAt.past2 {W W' : World} {X : Nat} {a : Option Addr} {fs : List Frm} (h : FormsAt W a fs) (hx : ∀ o q, W.cell? ⟨X, o, none⟩ ≠ some (.int .i64 q)) (t : Touch (fun z => z = X) W W') : FormsAt W' a fs := fun i hi => by
  obtain ⟨b, off, e, a', c', ca, cc, c0, c1, c2, iC, iD⟩ := h i hi
  have hne : b ≠ X := fun e2 => by subst e2; exact hx _ _ c2
  have hb := block_lt c0
  refine ⟨b, off, e, a', c', ca, cc, ?_, ?_, ?_, iC.past hx t, iD.past hx t⟩
  · simp only [World.cell?] at c0 ⊢; rw [t.block b hb hne]; exact c0
  · simp only [World.cell?] at c1 ⊢; rw [t.block b hb hne]; exact c1
  · simp only [World.cell?] at c2 ⊢; rw [t.block b hb hne]; exact c2

set_option maxHeartbeats 3200000 in
theorem iguard_any (X : Frm) (fs : List Frm) (ga : Option Addr) (ng gc : Nat) (pa : Option Addr) (cp : Nat) (ta : Option Addr) (nt tc : Nat) (st : Bool) (fa : Option Addr) (fc : Nat) (fd : Option Addr) (fe : Nat) (w : World) (hl : fs.length = ng) (hn : ng ≤ 100) (hG : FormsAt w ga fs) (hX1 : Ints w fa 3 X.1) (hX2 : Ints w fd 2 X.2.1) :
    Calls Tryz.prog 183 #[wayV ga ng gc pa cp ta nt tc st, formV fa 3 fc fd 2 fe X.2.2] w fun e w' => ∃ G cG, e = .returned (wayV (some ⟨G, 0, none⟩) (ng + 1) cG pa cp ta nt tc st) ∧ Below w.heap.size w w' ∧ FormsAt w' (some ⟨G, 0, none⟩) (fs ++ [X]) := by
  have HL : Hid (fs.length = ng) := hl
  clear hl
  have B3 : Below w.heap.size w (((w.alloc (.cells #[.slice ga ng gc, .slice pa 3 cp, .slice ta nt tc, .bool st] 223)).alloc (.cells #[.slice fa 3 fc, .slice fd 2 fe, .int .i64 X.2.2] 95)).alloc (.cells #[.slice none 0 0, .slice none 0 0, .slice none 0 0, .bool false] 223)) := (((Below.refl _ _).alloc (Nat.le_refl _) _).alloc (by simp) _).alloc (by simp; omega) _
  have B5 : Below w.heap.size w (((((w.alloc (.cells #[.slice ga ng gc, .slice pa 3 cp, .slice ta nt tc, .bool st] 223)).alloc (.cells #[.slice fa 3 fc, .slice fd 2 fe, .int .i64 X.2.2] 95)).alloc (.cells #[.slice none 0 0, .slice none 0 0, .slice none 0 0, .bool false] 223)).alloc (.cells #[.slice fa 3 fc, .slice fd 2 fe, .int .i64 X.2.2] 95)).alloc (.cells #[.slice ga ng gc, .slice (some ⟨w.heap.size + 1 + 1 + 1, 0, none⟩) 1 1] 176)) := (B3.alloc B3.size _).alloc (B3.alloc B3.size _).size _
  have q0 := ((((Cel.new w [.slice ga ng gc, .slice pa 3 cp, .slice ta nt tc, .bool st] 223).alloc (.cells #[.slice fa 3 fc, .slice fd 2 fe, .int .i64 X.2.2] 95)).alloc (.cells #[.slice none 0 0, .slice none 0 0, .slice none 0 0, .bool false] 223)).alloc (.cells #[.slice fa 3 fc, .slice fd 2 fe, .int .i64 X.2.2] 95)).alloc (.cells #[.slice ga ng gc, .slice (some ⟨w.heap.size + 1 + 1 + 1, 0, none⟩) 1 1] 176)
  have r0 := ((Cel.new (((w.alloc (.cells #[.slice ga ng gc, .slice pa 3 cp, .slice ta nt tc, .bool st] 223)).alloc (.cells #[.slice fa 3 fc, .slice fd 2 fe, .int .i64 X.2.2] 95))) [.slice none 0 0, .slice none 0 0, .slice none 0 0, .bool false] 223).alloc (.cells #[.slice fa 3 fc, .slice fd 2 fe, .int .i64 X.2.2] 95)).alloc (.cells #[.slice ga ng gc, .slice (some ⟨w.heap.size + 1 + 1 + 1, 0, none⟩) 1 1] 176)
  have f0 := (Cel.new ((((w.alloc (.cells #[.slice ga ng gc, .slice pa 3 cp, .slice ta nt tc, .bool st] 223)).alloc (.cells #[.slice fa 3 fc, .slice fd 2 fe, .int .i64 X.2.2] 95)).alloc (.cells #[.slice none 0 0, .slice none 0 0, .slice none 0 0, .bool false] 223))) [.slice fa 3 fc, .slice fd 2 fe, .int .i64 X.2.2] 95).alloc (.cells #[.slice ga ng gc, .slice (some ⟨w.heap.size + 1 + 1 + 1, 0, none⟩) 1 1] 176)
  have s0 := Cel.new (((((w.alloc (.cells #[.slice ga ng gc, .slice pa 3 cp, .slice ta nt tc, .bool st] 223)).alloc (.cells #[.slice fa 3 fc, .slice fd 2 fe, .int .i64 X.2.2] 95)).alloc (.cells #[.slice none 0 0, .slice none 0 0, .slice none 0 0, .bool false] 223)).alloc (.cells #[.slice fa 3 fc, .slice fd 2 fe, .int .i64 X.2.2] 95))) [.slice ga ng gc, .slice (some ⟨w.heap.size + 1 + 1 + 1, 0, none⟩) 1 1] 176
  simp only [World.size_alloc] at r0 f0 s0
  have hF : FormsAt ((((((w.alloc (.cells #[.slice ga ng gc, .slice pa 3 cp, .slice ta nt tc, .bool st] 223)).alloc (.cells #[.slice fa 3 fc, .slice fd 2 fe, .int .i64 X.2.2] 95)).alloc (.cells #[.slice none 0 0, .slice none 0 0, .slice none 0 0, .bool false] 223)).alloc (.cells #[.slice fa 3 fc, .slice fd 2 fe, .int .i64 X.2.2] 95)).alloc (.cells #[.slice ga ng gc, .slice (some ⟨w.heap.size + 1 + 1 + 1, 0, none⟩) 1 1] 176))) (some ⟨w.heap.size + 1 + 1 + 1, 0, none⟩) [X] := fun i hi => by
    simp only [List.length_cons, List.length_nil] at hi
    obtain rfl : i = 0 := by omega
    exact ⟨_, 0, rfl, fa, fd, fc, fe, f0.cell 0, f0.cell 1, f0.cell 2, hX1.below B5, hX2.below B5⟩
  have hG5 := hG.keep B5
  go_enter Tryz.func183, Tryz.ntmps183
  go_wp2_with fail
  refine (iconcat_any _ _ _ _ fs _ _ X _ s0 HL.out hn hG5 hF).mono ?_
  rintro e w1 ⟨G, cG, rfl, b1, F1⟩
  have B1 := B5.trans (b1.mono B5.size)
  have q1 := q0.below b1
  have r1 := r0.below b1
  have lq := q1.lt
  have lr := r1.lt
  clear q0 r0 f0 s0 hF hG5 b1
  obtain ⟨c0, c1, c2, c3⟩ := q1.four
  have y0 := q1.free 0
  have T1 : Touch (fun k => k = w.heap.size) w1 (w1.setCell ⟨w.heap.size, 0, none⟩ (.slice (some ⟨G, 0, none⟩) (ng + 1) cG)) := Touch.setCell (S := fun k => k = w.heap.size) (Touch.refl _ _) rfl _
  have q2 := q1.set 0 (.slice (some ⟨G, 0, none⟩) (ng + 1) cG)
  simp only [List.set_cons_zero] at q2
  have r2 := r1.touch T1 (fun h => by have := h; omega)
  have F2 := F1.past2 (boxNo q1) T1
  have B2 := B1.trans (T1.below B1.size (fun k hk => by omega))
  go_upto_region 2 with fail
  clear q1 r1 F1 T1 B1 c0 c1 c2 c3 y0
  generalize (w1.setCell ⟨w.heap.size, 0, none⟩ (.slice (some ⟨G, 0, none⟩) (ng + 1) cG)) = w2 at *
  obtain ⟨c0, c1, c2, c3⟩ := q2.four
  obtain ⟨l0, l1, l2, l3⟩ := r2.four
  have fy0 := r2.free 0
  have fy1 := r2.free 1
  have fy2 := r2.free 2
  have fy3 := r2.free 3
  obtain ⟨x', T'⟩ := put4 r2 rfl (.slice (some ⟨G, 0, none⟩) (ng + 1) cG) (.slice pa 3 cp) (.slice ta nt tc) (.bool st)
  have F3 := F2.past2 (boxNo r2) T'
  have BB := B2.trans (T'.below B2.size (fun k hk => by omega))
  obtain ⟨e0, e1, e2, e3⟩ := x'.four
  have lr2 := r2.lt
  clear F2 r2 T' x' q2
  go_wp2
  refine bodyPost_ret (v := wayV (some ⟨G, 0, none⟩) (ng + 1) cG pa cp ta nt tc st) (by simp [results, Tryz.results183, go_sem, e0, e1, e2, e3]) rfl ?_
  exact ⟨G, cG, rfl, BB, F3⟩

set_option maxHeartbeats 3200000 in
theorem itell_any (X : Frm) (fs : List Frm) (ga : Option Addr) (ng gc : Nat) (pa : Option Addr) (cp : Nat) (ta : Option Addr) (nt tc : Nat) (st : Bool) (fa : Option Addr) (fc : Nat) (fd : Option Addr) (fe : Nat) (w : World) (hl : fs.length = nt) (hn : nt ≤ 100) (hG : FormsAt w ta fs) (hX1 : Ints w fa 3 X.1) (hX2 : Ints w fd 2 X.2.1) :
    Calls Tryz.prog 186 #[wayV ga ng gc pa cp ta nt tc st, formV fa 3 fc fd 2 fe X.2.2] w fun e w' => ∃ G cG, e = .returned (wayV ga ng gc pa cp (some ⟨G, 0, none⟩) (nt + 1) cG st) ∧ Below w.heap.size w w' ∧ FormsAt w' (some ⟨G, 0, none⟩) (fs ++ [X]) := by
  have HL : Hid (fs.length = nt) := hl
  clear hl
  have B3 : Below w.heap.size w (((w.alloc (.cells #[.slice ga ng gc, .slice pa 3 cp, .slice ta nt tc, .bool st] 223)).alloc (.cells #[.slice fa 3 fc, .slice fd 2 fe, .int .i64 X.2.2] 95)).alloc (.cells #[.slice none 0 0, .slice none 0 0, .slice none 0 0, .bool false] 223)) := (((Below.refl _ _).alloc (Nat.le_refl _) _).alloc (by simp) _).alloc (by simp; omega) _
  have B5 : Below w.heap.size w (((((w.alloc (.cells #[.slice ga ng gc, .slice pa 3 cp, .slice ta nt tc, .bool st] 223)).alloc (.cells #[.slice fa 3 fc, .slice fd 2 fe, .int .i64 X.2.2] 95)).alloc (.cells #[.slice none 0 0, .slice none 0 0, .slice none 0 0, .bool false] 223)).alloc (.cells #[.slice fa 3 fc, .slice fd 2 fe, .int .i64 X.2.2] 95)).alloc (.cells #[.slice ta nt tc, .slice (some ⟨w.heap.size + 1 + 1 + 1, 0, none⟩) 1 1] 176)) := (B3.alloc B3.size _).alloc (B3.alloc B3.size _).size _
  have q0 := ((((Cel.new w [.slice ga ng gc, .slice pa 3 cp, .slice ta nt tc, .bool st] 223).alloc (.cells #[.slice fa 3 fc, .slice fd 2 fe, .int .i64 X.2.2] 95)).alloc (.cells #[.slice none 0 0, .slice none 0 0, .slice none 0 0, .bool false] 223)).alloc (.cells #[.slice fa 3 fc, .slice fd 2 fe, .int .i64 X.2.2] 95)).alloc (.cells #[.slice ta nt tc, .slice (some ⟨w.heap.size + 1 + 1 + 1, 0, none⟩) 1 1] 176)
  have r0 := ((Cel.new (((w.alloc (.cells #[.slice ga ng gc, .slice pa 3 cp, .slice ta nt tc, .bool st] 223)).alloc (.cells #[.slice fa 3 fc, .slice fd 2 fe, .int .i64 X.2.2] 95))) [.slice none 0 0, .slice none 0 0, .slice none 0 0, .bool false] 223).alloc (.cells #[.slice fa 3 fc, .slice fd 2 fe, .int .i64 X.2.2] 95)).alloc (.cells #[.slice ta nt tc, .slice (some ⟨w.heap.size + 1 + 1 + 1, 0, none⟩) 1 1] 176)
  have f0 := (Cel.new ((((w.alloc (.cells #[.slice ga ng gc, .slice pa 3 cp, .slice ta nt tc, .bool st] 223)).alloc (.cells #[.slice fa 3 fc, .slice fd 2 fe, .int .i64 X.2.2] 95)).alloc (.cells #[.slice none 0 0, .slice none 0 0, .slice none 0 0, .bool false] 223))) [.slice fa 3 fc, .slice fd 2 fe, .int .i64 X.2.2] 95).alloc (.cells #[.slice ta nt tc, .slice (some ⟨w.heap.size + 1 + 1 + 1, 0, none⟩) 1 1] 176)
  have s0 := Cel.new (((((w.alloc (.cells #[.slice ga ng gc, .slice pa 3 cp, .slice ta nt tc, .bool st] 223)).alloc (.cells #[.slice fa 3 fc, .slice fd 2 fe, .int .i64 X.2.2] 95)).alloc (.cells #[.slice none 0 0, .slice none 0 0, .slice none 0 0, .bool false] 223)).alloc (.cells #[.slice fa 3 fc, .slice fd 2 fe, .int .i64 X.2.2] 95))) [.slice ta nt tc, .slice (some ⟨w.heap.size + 1 + 1 + 1, 0, none⟩) 1 1] 176
  simp only [World.size_alloc] at r0 f0 s0
  have hF : FormsAt ((((((w.alloc (.cells #[.slice ga ng gc, .slice pa 3 cp, .slice ta nt tc, .bool st] 223)).alloc (.cells #[.slice fa 3 fc, .slice fd 2 fe, .int .i64 X.2.2] 95)).alloc (.cells #[.slice none 0 0, .slice none 0 0, .slice none 0 0, .bool false] 223)).alloc (.cells #[.slice fa 3 fc, .slice fd 2 fe, .int .i64 X.2.2] 95)).alloc (.cells #[.slice ta nt tc, .slice (some ⟨w.heap.size + 1 + 1 + 1, 0, none⟩) 1 1] 176))) (some ⟨w.heap.size + 1 + 1 + 1, 0, none⟩) [X] := fun i hi => by
    simp only [List.length_cons, List.length_nil] at hi
    obtain rfl : i = 0 := by omega
    exact ⟨_, 0, rfl, fa, fd, fc, fe, f0.cell 0, f0.cell 1, f0.cell 2, hX1.below B5, hX2.below B5⟩
  have hG5 := hG.keep B5
  go_enter Tryz.func186, Tryz.ntmps186
  go_wp2_with fail
  refine (iconcat_any _ _ _ _ fs _ _ X _ s0 HL.out hn hG5 hF).mono ?_
  rintro e w1 ⟨G, cG, rfl, b1, F1⟩
  have B1 := B5.trans (b1.mono B5.size)
  have q1 := q0.below b1
  have r1 := r0.below b1
  have lq := q1.lt
  have lr := r1.lt
  clear q0 r0 f0 s0 hF hG5 b1
  obtain ⟨c0, c1, c2, c3⟩ := q1.four
  have y0 := q1.free 2
  have T1 : Touch (fun k => k = w.heap.size) w1 (w1.setCell ⟨w.heap.size, 2, none⟩ (.slice (some ⟨G, 0, none⟩) (nt + 1) cG)) := Touch.setCell (S := fun k => k = w.heap.size) (Touch.refl _ _) rfl _
  have q2 := q1.set 2 (.slice (some ⟨G, 0, none⟩) (nt + 1) cG)
  simp only [List.set_cons_zero, List.set_cons_succ] at q2
  have r2 := r1.touch T1 (fun h => by have := h; omega)
  have F2 := F1.past2 (boxNo q1) T1
  have B2 := B1.trans (T1.below B1.size (fun k hk => by omega))
  go_upto_region 2 with fail
  clear q1 r1 F1 T1 B1 c0 c1 c2 c3 y0
  generalize (w1.setCell ⟨w.heap.size, 2, none⟩ (.slice (some ⟨G, 0, none⟩) (nt + 1) cG)) = w2 at *
  obtain ⟨c0, c1, c2, c3⟩ := q2.four
  obtain ⟨l0, l1, l2, l3⟩ := r2.four
  have fy0 := r2.free 0
  have fy1 := r2.free 1
  have fy2 := r2.free 2
  have fy3 := r2.free 3
  obtain ⟨x', T'⟩ := put4 r2 rfl (.slice ga ng gc) (.slice pa 3 cp) (.slice (some ⟨G, 0, none⟩) (nt + 1) cG) (.bool st)
  have F3 := F2.past2 (boxNo r2) T'
  have BB := B2.trans (T'.below B2.size (fun k hk => by omega))
  obtain ⟨e0, e1, e2, e3⟩ := x'.four
  have lr2 := r2.lt
  clear F2 r2 T' x' q2
  go_wp2
  refine bodyPost_ret (v := wayV ga ng gc pa cp (some ⟨G, 0, none⟩) (nt + 1) cG st) (by simp [results, Tryz.results186, go_sem, e0, e1, e2, e3]) rfl ?_
  exact ⟨G, cG, rfl, BB, F3⟩

end Go.Proofs.YtpmihhbgjimpmaaGreatDoor
namespace Go.Proofs.YtpmihhbgjimpmaaGreatDoor
open Go.RowKit Go.Deep
set_option linter.unusedVariables false
set_option maxRecDepth 100000

/-- A block of just three bools. -/
def OwnBB (W : World) (G : Nat) (f : Nat → Bool) : Prop := Cel W G [.bool (f 0), .bool (f 1), .bool (f 2)] 4
theorem OwnBB.at {W : World} {G : Nat} {f : Nat → Bool} (h : OwnBB W G f) {v : Nat} (hv : v < 3) : W.cell? ⟨G, v, none⟩ = some (.bool (f v)) ∧ W.frozen? ⟨G, v, none⟩ = false := by
  refine ⟨(Cel.cell h v).trans ?_, Cel.free h v⟩
  match v, hv with
  | 0, _ => rfl
  | 1, _ => rfl
  | 2, _ => rfl
theorem OwnBB.no {W : World} {G : Nat} {f : Nat → Bool} (h : OwnBB W G f) : ∀ o q, W.cell? ⟨G, o, none⟩ ≠ some (.int .i64 q) := fun o q e => by
  have := Cel.cell h o
  rw [e] at this
  match o with
  | 0 => simp at this
  | 1 => simp at this
  | 2 => simp at this
  | o + 3 => simp at this
theorem OwnBB.set {W : World} {G : Nat} {f : Nat → Bool} (h : OwnBB W G f) {u : Nat} (hu : u < 3) (x : Bool) : OwnBB (W.setCell ⟨G, u, none⟩ (.bool x)) G (fun v => if v = u then x else f v) := by
  have := Cel.set h u (.bool x)
  unfold OwnBB
  match u, hu with
  | 0, _ => simpa using this
  | 1, _ => simpa using this
  | 2, _ => simpa using this
theorem OwnBB.ext {W : World} {G : Nat} {f g : Nat → Bool} (h : OwnBB W G f) (e : ∀ v, v < 3 → f v = g v) : OwnBB W G g := by
  unfold OwnBB at *
  rw [← e 0 (by omega), ← e 1 (by omega), ← e 2 (by omega)]; exact h
theorem OwnBB.below {W W' : World} {G : Nat} {f : Nat → Bool} (h : OwnBB W G f) (b : Below W.heap.size W W') : OwnBB W' G f := Cel.below h b

set_option maxHeartbeats 3200000 in
theorem imarkpots_any (G cG : Nat) (r : Nat → Bool) (ad : Option Addr) (N cap : Nat) (fs : List Frm) (w : World) (hO : OwnBB w G r) (hN : fs.length = N) (hF : FormsAt w ad fs) (hfit : ∀ k, k < N → fitX 10000000 (fs[k]?.getD ([], [], 0))) (hN1 : N ≤ 1048576) :
    Calls Tryz.prog 160 #[.slice (some ⟨G, 0, none⟩) 3 cG, .slice ad N cap] w fun e w' => (∃ v, e = .returned v) ∧ Touch (fun k => k = G) w w' ∧ OwnBB w' G (readsF r fs) := by
  have HN : Hid (fs.length = N) := hN
  have HF : Hid (FormsAt w ad fs) := hF
  have HFT : Hid _ := hfit
  have HO : Hid (OwnBB w G r) := hO
  have lG0 := Cel.lt hO
  clear hN hF hfit hO
  go_enter Tryz.func160, Tryz.ntmps160
  go_wp2_with fail
  go_loopw [5, 6, 7, 10] (fun _ _ _ i wr => ∃ k : Nat, k ≤ N ∧ i = .int .i64 k ∧ Touch (fun k => k = G) w wr ∧ OwnBB wr G (readsF r (fs.take k))) (fun _ _ _ i _ => N - (intOf i).toNat)
  case atStart => exact ⟨0, Nat.zero_le _, rfl, Touch.refl _ _, HO.out.ext (fun v _ => by simp [readsF])⟩
  case round =>
    obtain ⟨k, hk, rfl, ht, o⟩ := hrel
    by_cases hlt : k < N
    · have hlt' : (k : Int) < N := by omega
      have hkl : k < fs.length := by rw [HN.out]; exact hlt
      have HS : Hid (∀ v, readsF r (fs.take (k + 1)) v = (readsF r (fs.take k) v || hasP (fs[k]?.getD ([], [], 0)) v)) := fun v => readsF_snoc r fs k hkl v
      have hfit := HFT.out k hlt
      obtain ⟨b, off, rfl, a', c', ca, cc, c0, c1, c2, iC, iD⟩ := (HF.out.past2 HO.out.no ht) k hkl
      generalize fs[k]?.getD ([], [], 0) = q at *
      obtain ⟨qC, qD, qK⟩ := q
      simp only at c2 iC iD
      have A : Below wr.heap.size wr (wr.alloc (.cells #[.slice a' 3 ca, .slice c' 2 cc, .int .i64 qK] 95)) := (Below.refl _ _).alloc (Nat.le_refl _) _
      have HIC : Hid (Ints (wr.alloc (.cells #[.slice a' 3 ca, .slice c' 2 cc, .int .i64 qK] 95)) a' 3 qC) := iC.below A
      have oA := o.below A
      have HNO : Hid _ := oA.no
      have o' : OwnBB (wr.alloc (.cells #[.slice a' 3 ca, .slice c' 2 cc, .int .i64 qK] 95)) G (fun v => if v < 0 then readsF r (fs.take (k + 1)) v else readsF r (fs.take k) v) := oA.ext (fun v hv => by simp)
      have tA : Touch (fun k => k = G) w (wr.alloc (.cells #[.slice a' 3 ca, .slice c' 2 cc, .int .i64 qK] 95)) := ht.trans (Touch.of A)
      have HTA : Hid _ := tA
      clear o iC iD oA tA A ht
      go_wp2_with fail
      obtain ⟨W1, hW1⟩ : ∃ W1, W1 = wr.alloc (.cells #[.slice a' 3 ca, .slice c' 2 cc, .int .i64 qK] 95) := ⟨_, rfl⟩
      rw [← hW1] at HIC HNO o' HTA ⊢
      clear hW1 c0 c1 c2
      go_loopw [6, 7, 17] (fun _ _ v w2 => ∃ u : Nat, u ≤ 3 ∧ v = .int .i64 u ∧ Touch (fun k => k = G) W1 w2 ∧ OwnBB w2 G (fun v => if v < u then readsF r (fs.take (k + 1)) v else readsF r (fs.take k) v)) (fun _ _ v _ => 3 - (intOf v).toNat)
      case atStart => exact ⟨0, by omega, rfl, Touch.refl _ _, o'⟩
      case round =>
        clear o'
        obtain ⟨u, hu, rfl, t, o⟩ := hrel
        by_cases hu3 : u < 3
        · have hu' : (u : Int) < 3 := by omega
          obtain ⟨cb, co, rfl, cv⟩ := (HIC.out.past HNO.out t).2 u hu3
          have hval : qC.getD u 0 = qC[u]?.getD 0 := by rw [List.getD_eq_getElem?_getD]
          rw [hval] at cv
          have HH : Hid (hasP (qC, qD, qK) u = (qC[u]?.getD 0 != 0)) := rfl
          generalize qC[u]?.getD 0 = z at *
          obtain ⟨g0, fz⟩ := o.at hu3
          rw [if_neg (Nat.lt_irrefl u)] at g0
          obtain ⟨bo, hbo⟩ : ∃ bo, bo = readsF r (fs.take k) u := ⟨_, rfl⟩
          have HBO : Hid _ := hbo
          rw [← hbo] at g0
          have o2 := o.set hu3 (bo || (z != 0))
          have O2 : Hid (OwnBB (wr.setCell ⟨G, u, none⟩ (.bool (bo || (z != 0)))) G (fun v => if v < u + 1 then readsF r (fs.take (k + 1)) v else readsF r (fs.take k) v)) := o2.ext (fun v hv => by
            by_cases e : v = u
            · subst e; simp only [if_true, Nat.lt_succ_self]; rw [HS.out, HH.out, HBO.out]
            · simp only [e, if_false]
              by_cases e2 : v < u
              · rw [if_pos e2, if_pos (by omega)]
              · rw [if_neg e2, if_neg (by omega)])
          have T2 : Touch (fun k => k = G) W1 (wr.setCell ⟨G, u, none⟩ (.bool (bo || (z != 0)))) := t.setCell (B := G) rfl _
          clear o2 o hbo t
          cases bo with
          | true =>
            simp only [Bool.true_or] at O2 T2
            go_wp2
            go_roundw
            case rel => exact ⟨u + 1, by omega, by go_num, T2, O2.out⟩
            case measure => simp [intOf]; omega
          | false =>
            simp only [Bool.false_or] at O2 T2
            by_cases hz : z = 0
            · have hz' : (z != 0) = false := by simp [hz]
              rw [hz'] at O2 T2
              go_wp2
              go_roundw
              case rel => exact ⟨u + 1, by omega, by go_num, T2, O2.out⟩
              case measure => simp [intOf]; omega
            · have hz' : (z != 0) = true := by simp [hz]
              rw [hz'] at O2 T2
              go_wp2
              go_roundw
              case rel => exact ⟨u + 1, by omega, by go_num, T2, O2.out⟩
              case measure => simp [intOf]; omega
        · obtain rfl : u = 3 := by omega
          have O3 : Hid (OwnBB wr G (readsF r (fs.take (k + 1)))) := o.ext (fun v hv => by simp only [hv, if_true])
          have T3 := HTA.out.trans t
          clear o t
          go_wp2
          go_roundw
          case rel => exact ⟨k + 1, by omega, by go_num, T3, O3.out⟩
          case measure => simp [intOf]; omega
    · obtain rfl : k = N := by omega
      have O3 : OwnBB wr G (readsF r fs) := by
        have : fs.take k = fs := List.take_of_length_le (by rw [HN.out]; exact Nat.le_refl _)
        rw [this] at o; exact o
      go_wp2
      go_end0
      exact ⟨⟨_, rfl⟩, ht, O3⟩

end Go.Proofs.YtpmihhbgjimpmaaGreatDoor
namespace Go.Proofs.YtpmihhbgjimpmaaGreatDoor
open Go.RowKit Go.Deep
set_option linter.unusedVariables false
set_option maxRecDepth 100000

end Go.Proofs.YtpmihhbgjimpmaaGreatDoor
namespace Go.Proofs.YtpmihhbgjimpmaaGreatDoor
open Go.RowKit Go.Deep Go.Shelf
set_option linter.unusedVariables false
set_option maxRecDepth 100000
attribute [local go_sem] Oper.semAt_some

abbrev walkV (l : Nat) (sa : Option Addr) (N sc : Nat) : Value := .agg #[.slice sa N sc, .func (.yield l) #[] #[]]
/-- What came of going on: true: all of gs were handed; false: a first part of them, and nobody wants more. -/
def Went (J D : List RowM → World → Prop) (pre gs : List RowM) (b : Bool) (Y : World) : Prop := (b = true ∧ J (pre ++ gs) Y) ∨ (b = false ∧ ∃ ms rest, gs = ms ++ rest ∧ D (pre ++ ms) Y)
theorem Went.fst {J D : List RowM → World → Prop} {pre g1 g2 : List RowM} {Y : World} (h : Went J D pre g1 false Y) : Went J D pre (g1 ++ g2) false Y := by
  rcases h with ⟨h, _⟩ | ⟨_, ms, rest, rfl, d⟩
  · cases h
  · exact Or.inr ⟨rfl, ms, rest ++ g2, by rw [List.append_assoc], d⟩
theorem Went.snd {J D : List RowM → World → Prop} {pre g1 g2 : List RowM} {b : Bool} {Y : World} (h : Went J D (pre ++ g1) g2 b Y) : Went J D pre (g1 ++ g2) b Y := by
  rcases h with ⟨rfl, j⟩ | ⟨rfl, ms, rest, rfl, d⟩
  · exact Or.inl ⟨rfl, by rw [← List.append_assoc]; exact j⟩
  · exact Or.inr ⟨rfl, g1 ++ ms, rest, by rw [List.append_assoc], by rw [← List.append_assoc]; exact d⟩
theorem Went.on {J D : List RowM → World → Prop} {pre gs : List RowM} {Y : World} (h : Went J D pre gs true Y) : J (pre ++ gs) Y := by
  rcases h with ⟨_, j⟩ | ⟨h, _⟩
  · exact j
  · cases h

end Go.Proofs.YtpmihhbgjimpmaaGreatDoor
namespace Go.Proofs.YtpmihhbgjimpmaaGreatDoor
open Go.RowKit Go.Deep Go.Shelf
set_option linter.unusedVariables false
set_option maxRecDepth 100000
attribute [local go_sem] Oper.semAt_some

abbrev goV (l : Nat) (sa : Option Addr) (N sc : Nat) : Value := .func (.func 159) #[walkV l sa N sc] #[]

theorem is_test_test (v : Value) (w : World) : (Instr.typeAssert (.iface 198 v) 156 198 true).run Tryz.prog w = .ok (.tuple #[v, .bool true]) w := by kernel_rfl
theorem is_test_add (v : Value) (w : World) : (Instr.typeAssert (.iface 198 v) 156 200 true).run Tryz.prog w = .ok (.tuple #[.agg #[.int .i64 0, .slice none 0 0, .slice none 0 0, .int .i64 0], .bool false]) w := by kernel_rfl
theorem is_test_print (v : Value) (w : World) : (Instr.typeAssert (.iface 198 v) 156 202 true).run Tryz.prog w = .ok (.tuple #[.agg #[.slice none 0 0, .slice none 0 0, .int .i64 0], .bool false]) w := by kernel_rfl
theorem is_add_test (v : Value) (w : World) : (Instr.typeAssert (.iface 200 v) 156 198 true).run Tryz.prog w = .ok (.tuple #[.agg #[.int .i64 0, .slice none 0 0, .slice none 0 0, .int .i64 0], .bool false]) w := by kernel_rfl
theorem is_add_add (v : Value) (w : World) : (Instr.typeAssert (.iface 200 v) 156 200 true).run Tryz.prog w = .ok (.tuple #[v, .bool true]) w := by kernel_rfl
theorem is_add_print (v : Value) (w : World) : (Instr.typeAssert (.iface 200 v) 156 202 true).run Tryz.prog w = .ok (.tuple #[.agg #[.slice none 0 0, .slice none 0 0, .int .i64 0], .bool false]) w := by kernel_rfl
theorem is_print_test (v : Value) (w : World) : (Instr.typeAssert (.iface 202 v) 156 198 true).run Tryz.prog w = .ok (.tuple #[.agg #[.int .i64 0, .slice none 0 0, .slice none 0 0, .int .i64 0], .bool false]) w := by kernel_rfl
theorem is_print_add (v : Value) (w : World) : (Instr.typeAssert (.iface 202 v) 156 200 true).run Tryz.prog w = .ok (.tuple #[.agg #[.int .i64 0, .slice none 0 0, .slice none 0 0, .int .i64 0], .bool false]) w := by kernel_rfl
theorem is_print_print (v : Value) (w : World) : (Instr.typeAssert (.iface 202 v) 156 202 true).run Tryz.prog w = .ok (.tuple #[v, .bool true]) w := by kernel_rfl
theorem is_stop_test (v : Value) (w : World) : (Instr.typeAssert (.iface 203 v) 156 198 true).run Tryz.prog w = .ok (.tuple #[.agg #[.int .i64 0, .slice none 0 0, .slice none 0 0, .int .i64 0], .bool false]) w := by kernel_rfl
theorem is_stop_add (v : Value) (w : World) : (Instr.typeAssert (.iface 203 v) 156 200 true).run Tryz.prog w = .ok (.tuple #[.agg #[.int .i64 0, .slice none 0 0, .slice none 0 0, .int .i64 0], .bool false]) w := by kernel_rfl
theorem is_stop_print (v : Value) (w : World) : (Instr.typeAssert (.iface 203 v) 156 202 true).run Tryz.prog w = .ok (.tuple #[.agg #[.slice none 0 0, .slice none 0 0, .int .i64 0], .bool false]) w := by kernel_rfl

end Go.Proofs.YtpmihhbgjimpmaaGreatDoor
namespace Go.Proofs.YtpmihhbgjimpmaaGreatDoor
open Go.RowKit Go.Deep Go.Shelf
set_option linter.unusedVariables false
set_option maxRecDepth 100000
attribute [local go_sem] Oper.semAt_some

theorem not_true_ofQ {b : Bool} (h : b = false) : ¬ b = true := by rw [h]; decide

end Go.Proofs.YtpmihhbgjimpmaaGreatDoor
namespace Go.Proofs.YtpmihhbgjimpmaaGreatDoor
open Go.RowKit Go.Deep Go.Shelf
set_option linter.unusedVariables false
set_option maxRecDepth 100000
attribute [local go_sem] Oper.semAt_some

end Go.Proofs.YtpmihhbgjimpmaaGreatDoor
namespace Go.Proofs.YtpmihhbgjimpmaaGreatDoor
open Go.RowKit Go.Deep Go.Shelf
set_option linter.unusedVariables false
set_option maxRecDepth 100000

/-- Steps in memory; their forms can be read. -/
def Stp (W : World) (SG N : Nat) (ls : List LV) : Prop := ∃ cur, Cel W SG cur 156 ∧ ∀ j, j < N → cur[j]? = some (stepV (ls[j]?.getD noLV))
def LinesIn (W : World) (ls : List LV) : Prop := ∀ j, j < ls.length → (ls[j]?.getD noLV).f.At W

end Go.Proofs.YtpmihhbgjimpmaaGreatDoor
namespace Go.Proofs.YtpmihhbgjimpmaaGreatDoor
open Go.RowKit Go.Deep Go.Shelf
set_option linter.unusedVariables false
set_option maxRecDepth 100000
attribute [local go_sem] Oper.semAt_some

theorem LinesG.lin {W : World} {ad : Option Addr} {ls : List LV} (h : LinesG W ad ls) : LinesIn W ls := fun j hj => by
  obtain ⟨b, off, _, _, ha⟩ := h j hj
  exact ha
theorem JS.stp {w W : World} {v : Value} {ls : List LV} (j : JS w v (ls.map stepV) W) : ∃ sa sc, v = .slice sa ls.length sc ∧ (ls.length = 0 ∨ ∃ SG, sa = some ⟨SG, 0, none⟩ ∧ Stp W SG ls.length ls) := by
  rcases j.o.2 with ⟨e, h0⟩ | ⟨g, cap, cur, hv, hg, hh, hl, hc, hs, ht⟩
  · rw [List.length_map] at h0
    exact ⟨none, 0, by rw [h0]; exact e, Or.inl h0⟩
  · rw [List.length_map] at hv ht
    refine ⟨_, cap, hv, Or.inr ⟨g, rfl, cur.toList, hh, fun i hi => ?_⟩⟩
    rw [Nat.mul_one] at ht
    have : (cur.toList.take ls.length)[i]? = cur.toList[i]? := List.getElem?_take_of_lt hi
    rw [← this, ht, List.getElem?_map, List.getElem?_eq_getElem hi]
    rfl

theorem rs_func {P : Program} {w : World} {a : Addr} {m : Mode} (fn : Fn) (first captured : Array Value) : (store a (.func fn first captured) m).run P w = stored P w a (.func fn first captured) m := run_store P w a _ m rfl
attribute [local go_sem] rs_func

end Go.Proofs.YtpmihhbgjimpmaaGreatDoor
namespace Go.Proofs.YtpmihhbgjimpmaaGreatDoor
open Go.RowKit Go.Deep Go.Shelf
set_option linter.unusedVariables false
set_option maxRecDepth 100000
attribute [local go_sem] Oper.semAt_some

set_option maxHeartbeats 1600000 in
theorem ithrough_any (ad : Option Addr) (N cap : Nat) (w : World) :
    Calls Tryz.prog 134 #[.slice ad N cap] w fun e w' => ∃ B, e = .returned (.func (.func 158) #[] #[.pointer (some ⟨B, 0, none⟩)]) ∧ Below w.heap.size w w' ∧ Cel w' B [.slice ad N cap] 57 := by
  have b := (Below.refl w.heap.size w).alloc (Nat.le_refl _) (.cells #[.slice ad N cap] 57)
  have c := Cel.new w [.slice ad N cap] 57
  go_enter Tryz.func134, Tryz.ntmps134
  go_wp2
  go_ret
  exact ⟨_, rfl, b, c⟩

theorem Cel.loop {X : World} {B l : Nat} {vs : List Value} {t : TypeId} {r r' : Loop} (h : Cel X B vs t) (hl : X.heap[l]? = some (.loop r)) : Cel (X.putObj l (.loop r')) B vs t := by
  have hne : B ≠ l := fun e => by
    subst e
    unfold Cel at h
    rw [hl] at h
    cases h
  unfold Cel at *
  rw [World.putObj_heap_other hne]; exact h
theorem below_loop {w X : World} {n l : Nat} {r' : Loop} (h : Below n w X) (hl : n ≤ l) : Below n w (X.putObj l (.loop r')) :=
  ⟨h.os, h.tape, h.output, by simpa [World.putObj] using h.size, fun k hk => (World.putObj_heap_other (by omega)).trans (h.block k hk)⟩

theorem Cel.defer {X : World} {B l : Nat} {vs : List Value} {t : TypeId} {r : Option (List Deferred)} {o : Obj} (h : Cel X B vs t) (hl : X.heap[l]? = some (.deferred r)) : Cel (X.putObj l o) B vs t := by
  have hne : B ≠ l := fun e => by
    subst e
    unfold Cel at h
    rw [hl] at h
    cases h
  unfold Cel at *
  rw [World.putObj_heap_other hne]; exact h
theorem below_put {w X : World} {n l : Nat} {o : Obj} (h : Below n w X) (hl : n ≤ l) : Below n w (X.putObj l o) :=
  ⟨h.os, h.tape, h.output, by simpa [World.putObj] using h.size, fun k hk => (World.putObj_heap_other (by omega)).trans (h.block k hk)⟩
theorem cel_past {S : Nat → Prop} {X Y : World} {B : Nat} {vs : List Value} {t : TypeId} (h : Cel X B vs t) (k : Touch S X Y) (hn : ¬ S B) : Cel Y B vs t := by
  have hl := h.lt
  unfold Cel at *
  rw [k.block B hl hn]; exact h
theorem below_touch {w X Y : World} {G : Nat} (h : Below w.heap.size w X) (t : Touch (fun k => k = G) X Y) (hG : w.heap.size ≤ G) : Below w.heap.size w Y :=
  ⟨t.os.trans h.os, t.tape.trans h.tape, t.output.trans h.output, Nat.le_trans h.size t.size, fun k hk => (t.block k (Nat.lt_of_lt_of_le hk h.size) (by omega)).trans (h.block k hk)⟩
theorem keeps_below {B : Nat} {X Y : World} (h : Below X.heap.size X Y) : KeepsFrom B X Y := ⟨h.size, fun k o _ hk _ => (h.block k (lt_of_block hk)).trans hk⟩
theorem keeps_touch {B G : Nat} {X Y : World} (t : Touch (fun k => k = G) X Y) (hG : G < B) : KeepsFrom B X Y := ⟨t.size, fun k o hB hk _ => (t.block k (lt_of_block hk) (by omega)).trans hk⟩

end Go.Proofs.YtpmihhbgjimpmaaGreatDoor
