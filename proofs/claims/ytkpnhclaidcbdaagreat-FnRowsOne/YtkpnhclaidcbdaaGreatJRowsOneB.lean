/-
  Lemmas that the claim's last text rests on: Do, Sum5, RowDoI, RowDoS, MarkS2, ResL, RunL, RunS, Leave, Leave2, Stops, RunI, FvL, RunC, RunW, IntSS, Has, Zero, CatWS, KeyR, CatWI, CatVw, RowsR, DrF, Tk, DrS, DrFm, DrL.
-/
import Derived.Test.YtkpnhclaidcbdaaGreatJRowsOneA
import Derived.Test.YtkpnhclaidcbdaaGreatOwn
import Derived.Test.YtkpnhclaidcbdaaGreatKeyed
import Derived.Deep.AppendLies
import Derived.Test.YtkpnhclaidcbdaaGreatMade
import Derived.Test.YtkpnhclaidcbdaaGreatAct
import Derived.Deep.DeepCutAuto
import Derived.Deep.RegionHeld3
import Derived.Laws.Pointers
import Derived.Defers
import Derived.Recover
import Derived.Test.YtkpnhclaidcbdaaGreatWays
import Derived.Test.YtkpnhclaidcbdaaGreatMarks
import Derived.Test.YtkpnhclaidcbdaaGreatOpenS
import Derived.Test.YtkpnhclaidcbdaaGreatCatRS
import Derived.RangeFuncCalls
import Derived.Test.YtkpnhclaidcbdaaGreatPots
import Derived.Test.YtkpnhclaidcbdaaGreatLin
namespace Go.Proofs.YtkpnhclaidcbdaaGreat
open Go.RowKit
set_option linter.unusedVariables false
set_option maxRecDepth 100000

/-- What a form is. -/
def atF (V U : List Int) (f : FV) : Int := atV f.C f.D f.K V U
theorem atF_bnd {V U : List Int} {f : FV} (h : f.ok = true) (bV : bnd 10000 V) (bU : bnd 9 U) : -1000000000000 ≤ atF V U f ∧ atF V U f ≤ 1000000000000 := by
  obtain ⟨_, _, bC, bD, k1, k2⟩ := formB_elim (show formB f.n f.m f.C f.D f.K = true from h)
  have h1 := dot_bnd (bndP_of bC bV (by omega) (by omega)) 3
  have h2 := dot_bnd (bndP_of bD bU (by omega) (by omega)) 2
  unfold atF atV
  omega
theorem ats_bnd {V U : List Int} {fs : List FV} (h : fs.all FV.ok = true) (bV : bnd 10000 V) (bU : bnd 9 U) : bnd 1000000000000 (fs.map (atF V U)) := fun i => by
  by_cases hi : i < fs.length
  · have := atF_bnd (List.all_eq_true.1 h _ (List.getElem_mem hi)) bV bU
    rw [List.getElem?_map, List.getElem?_eq_getElem hi]
    simpa using this
  · rw [List.getElem?_eq_none (by simp; omega)]
    simp

set_option maxHeartbeats 1600000 in
theorem formsAt_any (ad : Option Addr) (N cap : Nat) (fs : List FV) (v : Option Addr) (cv : Nat) (u : Option Addr) (cu : Nat) (V U : List Int) (w : World) (hN : fs.length = N) (hF : FormsG w ad fs) (hN1 : N ≤ 1048576) (hok : fs.all FV.ok = true) (hV : Ints w v 3 V) (hU : Ints w u 2 U) (bV : bnd 10000 V) (bU : bnd 9 U) :
    Calls Tryz.prog 52 #[.slice ad N cap, .slice v 3 cv, .slice u 2 cu] w fun e w' => ∃ r, e = .returned r ∧ JA w r (fs.map (atF V U)) w' := by
  have HN : Hid (fs.length = N) := hN
  have HO : Hid (fs.all FV.ok = true) := hok
  clear hN hok
  obtain ⟨i0, hi, hz0, hz1, hz2⟩ := info_parts Tryz.infoInt
  go_enter Tryz.func52, Tryz.ntmps52
  go_wp2_with fail
  go_loopw [7, 9, 12] (fun r _ i wr => ∃ k : Nat, k ≤ N ∧ i = .int .i64 k ∧ ∃ xs : List Int, xs.length = k ∧ xs = (fs.take k).map (atF V U) ∧ JA w r xs wr) (fun _ _ i _ => N - (intOf i).toNat)
  case atStart => exact ⟨0, Nat.zero_le _, rfl, [], rfl, rfl, JA.nil w⟩
  case round =>
    obtain ⟨k, hk, rfl, xs, hxl, hxs, j⟩ := hrel
    have HL : Hid (xs.length = k) := hxl
    have HXS : Hid (xs = (fs.take k).map (atF V U)) := hxs
    clear hxl hxs
    by_cases hlt : k < N
    · obtain ⟨b, off, rfl, e0, e1, e2, e3⟩ := (hF.below j.b) k (by rw [HN.out]; exact hlt)
      have hok := all_at (k := k) HO.out (by rw [HN.out]; exact hlt)
      have HP : Hid ((fs.take (k + 1)).map (atF V U) = (fs.take k).map (atF V U) ++ [atF V U (fs[k]?.getD noFV)]) := by
        have hl : k < fs.length := by rw [HN.out]; exact hlt
        show _ = _
        rw [List.take_succ_eq_append_getElem hl, List.map_append, List.getElem?_eq_getElem hl]; rfl
      generalize HG : fs[k]?.getD noFV = f at *
      clear HG hF
      obtain ⟨fa, fn, fcap, fc, fm, fcap', fK, fC, fD⟩ := f
      obtain ⟨iC, iD, _, _⟩ := e3
      simp only at e0 e1 e2 iC iD
      obtain ⟨rfl, rfl, bC, bD, bK⟩ := formB_elim (show formB fn fm fC fD fK = true from hok)
      clear hok
      obtain ⟨x, hx⟩ : ∃ x, atV fC fD fK V U = x := ⟨_, rfl⟩
      have HX : Hid (atV fC fD fK V U = x) := hx
      have HP2 : Hid (xs ++ [x] = (fs.take (k + 1)).map (atF V U)) := by show _ = _; rw [HP.out, HXS.out, ← hx]; rfl
      clear hx
      have hjb := j.b
      go_wp2_with fail
      refine (iat_any _ _ _ _ _ fC fD _ _ _ _ V U _ (iC.alloc _) (iD.alloc _) ((hV.below hjb).alloc _) ((hU.below hjb).alloc _) bC bD bK bV bU).mono ?_
      rintro e w3 ⟨rfl, b3⟩
      rw [HX.out]
      have j3 := (j.alloc _).below b3
      have jo := j3.o
      rw [HL.out] at jo
      have hj3 := j3.b.size
      clear b3 iC iD e0 e1 e2 j hjb
      go_wp2_with (at_builtin; go_must (refine wpList_append_lies _ rfl (.tmp 16) (.tmp 21) 24 rfl w.heap.size 3 i0 (.int .i64 0) 1 8 Tryz.underlying24 hi hz0 hz1 hz2 rfl (by decide) _ _ _ rfl (jo.alloc _) ⟨w3.heap.size, 0, none⟩ 1 1 [.int .i64 x] rfl rfl (news1 _ _ _) (one1 _ _) (by omega) (by unfold maxLen; omega) (by omega) (by rw [World.size_alloc]; omega) _ rfl ?_); intro g cp w4 hown hgrow hat hlt1)
      have j4 := j3.app HL.out hown hgrow
      clear hown hgrow jo j3 hat
      go_wp2
      go_roundw
      case rel => exact ⟨k + 1, by omega, by go_num, _, by rw [List.length_append, HL.out]; rfl, HP2.out, j4⟩
      case measure => simp [intOf]; omega
    · have HT : Hid (xs = fs.map (atF V U)) := by show xs = _; rw [HXS.out, List.take_of_length_le (by rw [HN.out]; omega)]
      go_wp2
      go_ret
      exact ⟨_, rfl, by rw [← HT.out]; exact j⟩

/-- What an act came to, as a value. -/
abbrev resV (code : Int) (a : Option Addr) (n cap : Nat) : Value := .agg #[.int .i64 code, .slice a n cap]
/-- What a call has made: a code, what is told, what the pots have then; in new memory. -/
def ResD (w w' : World) (e : Ending) (code : Int) (tl pl : List Int) : Prop :=
  ∃ a n cap B1 b m cap' B2, e = .returned (.tuple #[resV code a n cap, .slice b m cap']) ∧ tl.length = n ∧ pl.length = m ∧ Below w.heap.size w w' ∧ OwnX w' a B1 n tl ∧ OwnX w' b B2 m pl ∧ (0 < n → w.heap.size ≤ B1) ∧ (0 < m → w.heap.size ≤ B2) ∧ (0 < n → 0 < m → B1 ≠ B2)
def endCode (P : List Int) : Int := if okN 3 10000 3 P then 1 else 3
def endTells (P T : List Int) : List Int := if okN 3 10000 3 P then T else []
def endPots (V P : List Int) : List Int := if okN 3 10000 3 P then P else V

set_option maxHeartbeats 1600000 in
theorem done_any (v : Option Addr) (cv : Nat) (p : Option Addr) (cp B2 : Nat) (t : Option Addr) (n ct B1 : Nat) (V P T : List Int) (w : World) (hV : Ints w v 3 V) (hP : OwnX w p B2 3 P) (hT : OwnX w t B1 n T) (hne : 0 < n → B1 ≠ B2) (lo : Nat) (h1 : 0 < n → lo ≤ B1) (h2 : lo ≤ B2) (hlo : lo ≤ w.heap.size) :
    Calls Tryz.prog 53 #[.slice v 3 cv, .slice p 3 cp, .slice t n ct] w fun e w' => ∃ a n' cap B1' b m cap' B2', e = .returned (.tuple #[resV (endCode P) a n' cap, .slice b m cap']) ∧ (endTells P T).length = n' ∧ (endPots V P).length = m ∧ Below w.heap.size w w' ∧ OwnX w' a B1' n' (endTells P T) ∧ OwnX w' b B2' m (endPots V P) ∧ (0 < n' → lo ≤ B1') ∧ (0 < m → lo ≤ B2') ∧ (0 < n' → 0 < m → B1' ≠ B2') := by
  have l1 : 0 < n → B1 < w.heap.size := fun h => hT.lt h
  have l2 : B2 < w.heap.size := hP.lt (by omega)
  obtain ⟨i0, hi, hz0, hz1, hz2⟩ := info_parts Tryz.infoInt
  have al : Below w.heap.size w (w.alloc (.cells #[.int .i64 0, .slice none 0 0] 38)) := (Below.refl _ _).alloc (Nat.le_refl _) _
  cases hok : okN 3 10000 3 P
  · have e1 : endCode P = 3 := by rw [endCode, hok]; rfl
    have e2 : endTells P T = [] := by rw [endTells, hok]; rfl
    have e3 : endPots V P = V := by rw [endPots, hok]; rfl
    rw [e1, e2, e3]
    clear e1 e2 e3
    go_enter Tryz.func53, Tryz.ntmps53
    go_wp2_with fail
    refine (ival_any _ _ _ P _ (hP.alloc _).ints (by omega)).mono ?_
    rintro e w1 ⟨rfl, hw1⟩
    rw [hok, hw1]
    clear hw1
    go_wp2_with fail
    refine (clone_any _ _ _ V _ (hV.alloc _) (by omega) (by omega)).mono ?_
    rintro e w2 ⟨r, rfl, j⟩
    have rc := (Cel.new w [.int .i64 0, .slice none 0 0] 38).below j.b
    obtain ⟨a, cap, B, rfl, hX, hB⟩ := j.ownx hV.1
    rw [World.size_alloc] at hB
    have bb := al.trans (j.b.mono al.size)
    have r0 := rc.cell 0
    have r1 := rc.cell 1
    have f0 := rc.free 0
    have f1 := rc.free 1
    simp only [List.getElem?_cons_zero, List.getElem?_cons_succ] at r0 r1
    have hlt := rc.lt
    clear rc j
    go_wp2
    refine bodyPost_ret (v := .tuple #[resV 3 none 0 0, .slice a 3 cap]) (by simp [results, Tryz.results53, go_sem, r0, r1]) rfl ⟨none, 0, 0, 0, a, 3, cap, B, rfl, rfl, hV.1, ?_, OwnX.nil _ _ _, ?_, fun h => by omega, fun h => by have := hB h; omega, fun h => by omega⟩
    · exact (bb.setCell (Nat.le_refl _) _).setCell (Nat.le_refl _) _
    · exact (hX.setOther (fun h => by have := hB h; omega) _ _).setOther (fun h => by have := hB h; omega) _ _
  · have e1 : endCode P = 1 := by rw [endCode, hok]; rfl
    have e2 : endTells P T = T := by rw [endTells, hok]; rfl
    have e3 : endPots V P = P := by rw [endPots, hok]; rfl
    rw [e1, e2, e3]
    clear e1 e2 e3
    go_enter Tryz.func53, Tryz.ntmps53
    go_wp2_with fail
    refine (ival_any _ _ _ P _ (hP.alloc _).ints (by omega)).mono ?_
    rintro e w1 ⟨rfl, hw1⟩
    rw [hok, hw1]
    clear hw1
    go_wp2
    refine bodyPost_ret (v := .tuple #[resV 1 t n ct, .slice p 3 cp]) (by simp [results, Tryz.results53, go_sem]) rfl ⟨t, n, ct, B1, p, 3, cp, B2, rfl, hT.1, hP.1, ?_, ?_, ?_, h1, fun _ => h2, fun h _ => hne h⟩
    · first | exact (Below.refl _ _).alloc (Nat.le_refl _) _ | exact (((Below.refl _ _).alloc (Nat.le_refl _) _).setCell (Nat.le_refl _) _).setCell (Nat.le_refl _) _
    · first | exact hT.alloc _ | exact ((hT.alloc _).setOther (fun h => by have := l1 h; omega) _ _).setOther (fun h => by have := l1 h; omega) _ _
    · first | exact hP.alloc _ | exact ((hP.alloc _).setOther (fun h => by omega) _ _).setOther (fun h => by omega) _ _

end Go.Proofs.YtkpnhclaidcbdaaGreat
namespace Go.Proofs.YtkpnhclaidcbdaaGreat
open Go.RowKit
set_option linter.unusedVariables false

theorem zip_take {xs ys : List Int} {k : Nat} (hx : k < xs.length) (hy : k < ys.length) : (List.zipWith (· + ·) xs ys).take (k + 1) = (List.zipWith (· + ·) xs ys).take k ++ [xs[k]?.getD 0 + ys[k]?.getD 0] := by
  have hl : k < (List.zipWith (· + ·) xs ys).length := by rw [List.length_zipWith]; omega
  rw [List.take_succ_eq_append_getElem hl, List.getElem_zipWith, List.getElem?_eq_getElem hx, List.getElem?_eq_getElem hy]
  rfl

set_option maxHeartbeats 1600000 in
theorem sum5_any (a c : Option Addr) (cap cap' : Nat) (xs ys : List Int) (w : World) (h : Ints w a 3 xs) (h' : Ints w c 3 ys) (hM : bnd 1000000000 xs) (hM' : bnd 1000000000 ys) :
    Calls Tryz.prog 133 #[.slice a 3 cap, .slice c 3 cap'] w fun e w' => ∃ v, e = .returned v ∧ JA w v (List.zipWith (· + ·) xs ys) w' := by
  have HX : Hid (xs.length = 3) := h.1
  have HY : Hid (ys.length = 3) := h'.1
  obtain ⟨i0, hi, hz0, hz1, hz2⟩ := info_parts Tryz.infoInt
  go_enter Tryz.func133, Tryz.ntmps133
  go_wp2_with fail
  go_loopw [5, 6] (fun v i wr => ∃ k : Nat, k ≤ 3 ∧ i = .int .i64 k ∧ ∃ zs : List Int, zs.length = k ∧ zs = (List.zipWith (· + ·) xs ys).take k ∧ JA w v zs wr) (fun _ i _ => 3 - (intOf i).toNat)
  case atStart => exact ⟨0, by omega, rfl, [], rfl, rfl, JA.lit w⟩
  case round =>
    obtain ⟨k, hk, rfl, zs, hzl, hzs, j⟩ := hrel
    have HL : Hid (zs.length = k) := hzl
    have HZS : Hid (zs = (List.zipWith (· + ·) xs ys).take k) := hzs
    clear hzl hzs
    by_cases hlt : k < 3
    · obtain ⟨b, off, rfl, hcell⟩ := h.pos (by omega)
      obtain ⟨b', off', rfl, hcell'⟩ := h'.pos (by omega)
      have c0 : w.cell? ⟨b, off + k, none⟩ = some (.int .i64 (xs[k]?.getD 0)) := by rw [hcell k hlt]; simp
      have c1 : w.cell? ⟨b', off' + k, none⟩ = some (.int .i64 (ys[k]?.getD 0)) := by rw [hcell' k hlt]; simp
      have HP : Hid _ := zip_take (xs := xs) (ys := ys) (k := k) (by rw [HX.out]; exact hlt) (by rw [HY.out]; exact hlt)
      obtain ⟨m1, m2⟩ := hM k
      obtain ⟨m3, m4⟩ := hM' k
      generalize HG : xs[k]?.getD 0 = x at *
      generalize HG' : ys[k]?.getD 0 = y at *
      clear HG HG' hcell hcell' hM hM' h h'
      have KP : Hid (∀ W : World, Below w.heap.size w W → W.cell? ⟨b, off + k, none⟩ = some (.int .i64 x) ∧ W.cell? ⟨b', off' + k, none⟩ = some (.int .i64 y)) := fun W hW =>
        ⟨by rw [hW.cell (p := ⟨b, off + k, none⟩) (block_lt c0)]; exact c0, by rw [hW.cell (p := ⟨b', off' + k, none⟩) (block_lt c1)]; exact c1⟩
      have hSS := And.intro (KP.out _ j.b.drew) (True.intro)
      clear c0 c1
      have hlt' : (k : Int) < 3 := by omega
      have hwr : IntKind.i64.wrap (x + y) = x + y := wrap_id (by omega) (by omega)
      go_upto_region 5 with fail
      refine wp_region_ends (fun w' => w'.cell? ⟨b, off + k, none⟩ = some (.int .i64 x) ∧ w'.cell? ⟨b', off' + k, none⟩ = some (.int .i64 y)) (fun _ => True) 12 (by kernel_rfl) ?_
      refine wpAnyE_take0 (i := 0) (v := ?v0) rfl (by kernel_rfl) (by kernel_rfl) (by kernel_rfl) (by decide) (fun _ _ _ h => h) (Or.inl ⟨by rfl, ?hy0⟩) hSS ?_
      case hy0 => (intro wz hSw; (try dsimp only at hSw); go_simp; try (with_reducible rfl))
      refine wpAnyE_take0 (i := 1) (v := ?v1) rfl (by kernel_rfl) (by kernel_rfl) (by kernel_rfl) (by decide) (fun _ _ _ h => h) (Or.inl ⟨by rfl, ?hy1⟩) hSS ?_
      case hy1 => (intro wz hSw; (try dsimp only at hSw); go_simp; try (with_reducible rfl))
      refine wpAnyE_take0 (i := 2) (v := ?v2) rfl (by kernel_rfl) (by kernel_rfl) (by kernel_rfl) (by decide) (fun _ _ _ h => h) (Or.inl ⟨by rfl, ?hy2⟩) hSS ?_
      case hy2 => (intro wz hSw; (try dsimp only at hSw); go_simp; try (with_reducible rfl))
      refine wpAnyE_take0 (i := 3) (v := ?v3) rfl (by kernel_rfl) (by kernel_rfl) (by kernel_rfl) (by decide) (fun _ _ _ h => h) (Or.inl ⟨by rfl, ?hy3⟩) hSS ?_
      case hy3 => (intro wz hSw; (try dsimp only at hSw); go_simp; try (with_reducible rfl))
      refine wpAnyE_take0 (i := 4) (v := ?v4) rfl (by kernel_rfl) (by kernel_rfl) (by kernel_rfl) (by decide) (fun _ _ _ h => h) (Or.inl ⟨by rfl, ?hy4⟩) hSS ?_
      case hy4 => (intro wz hSw; (try dsimp only at hSw); go_simp; try (with_reducible rfl))
      refine wpAnyE_take0 (i := 5) (v := ?v5) rfl (by kernel_rfl) (by kernel_rfl) (by kernel_rfl) (by decide) (fun _ _ _ h => h) (Or.inl ⟨by rfl, ?hy5⟩) hSS ?_
      case hy5 => (intro wz hSw; (try dsimp only at hSw); go_simp; try (with_reducible rfl))
      refine wpAnyE_take0 (i := 6) (v := ?v6) rfl (by kernel_rfl) (by kernel_rfl) (by kernel_rfl) (by decide) (fun _ _ _ h => h) (Or.inl ⟨by rfl, ?hy6⟩) hSS ?_
      case hy6 => (intro wz hSw; (try dsimp only at hSw); go_simp; try (with_reducible rfl))
      refine wpAnyE_take0 (i := 7) (v := ?v7) rfl (by kernel_rfl) (by kernel_rfl) (by kernel_rfl) (by decide) (fun _ _ _ h => h) (Or.inl ⟨by rfl, ?hy7⟩) hSS ?_
      case hy7 => (intro wz hSw; (try dsimp only at hSw); go_simp; try (with_reducible rfl))
      refine wpAnyE_take0 (i := 8) (v := ?v8) rfl (by kernel_rfl) (by kernel_rfl) (by kernel_rfl) (by decide) (fun _ _ _ h => h) (Or.inl ⟨by rfl, ?hy8⟩) hSS ?_
      case hy8 => (intro wz hSw; (try dsimp only at hSw); go_simp; try (with_reducible rfl))
      refine wpAnyE_take0 (i := 9) (v := ?v9) rfl (by kernel_rfl) (by kernel_rfl) (by kernel_rfl) (by decide) (fun _ _ _ h => h) (Or.inl ⟨by rfl, ?hy9⟩) hSS ?_
      case hy9 => (intro wz hSw; (try dsimp only at hSw); go_simp; try (with_reducible rfl))
      refine wpAnyE_one (i := 10) (by kernel_rfl) rfl (fun K hK => ?_)
      go_simp
      have j1 := j.below (W' := wr.drew) ((Below.refl _ _).drew)
      have jo := j1.o
      rw [HL.out] at jo
      have j2 := j1.alloc (.cells #[.int .i64 (x + y)] 3)
      have hjb := j1.b.size
      refine hK.out _ _ ⟨KP.out _ j2.b, fun _ => trivial⟩ ?_
      clear hK K hSS
      refine wpAnyE_one (i := 11) (by kernel_rfl) rfl (fun K hK => ?_)
      rw [if_pos (by rfl)]
      refine wp_append_lies _ (.tmp 12) (.tmp 22) 24 rfl w.heap.size 3 i0 (.int .i64 0) 1 8 Tryz.underlying24 hi hz0 hz1 hz2 rfl (by decide) _ k _ (by rfl) (jo.alloc _) ⟨wr.heap.size, 0, none⟩ 1 1 [.int .i64 (x + y)] (by rfl) (by rfl) (news1 wr.drew _ _) (one1 _ _) (by omega) (by unfold maxLen; omega) (by omega) j2.b.size _ rfl ?_
      intro g cp2 w6 hown hgrow hat hlt6
      have j6 := j1.app HL.out hown hgrow
      refine hK.out _ _ ⟨KP.out _ j6.b, fun _ => trivial⟩ ?_
      clear hK K hown hgrow hat j1 j2 jo j
      refine wpAnyE_one (i := 12) (by kernel_rfl) rfl (fun K hK => ?_)
      go_simp
      refine hK.out _ _ ⟨KP.out _ j6.b, fun _ => trivial⟩ ?_
      clear hK K
      refine wpAnyE_done (by kernel_rfl) ?_ _
      go_wp2
      go_roundw
      case rel => exact ⟨k + 1, by omega, by go_num, _, by rw [List.length_append, HL.out]; rfl, by rw [HP.out, HZS.out], j6⟩
      case measure => simp [intOf]; omega
    · obtain rfl : k = 3 := by omega
      have e : zs = List.zipWith (· + ·) xs ys := by rw [HZS.out, List.take_of_length_le (by rw [List.length_zipWith, HX.out, HY.out]; omega)]
      subst e
      go_wp2
      go_ret
      exact ⟨_, rfl, j⟩

set_option maxHeartbeats 1600000 in
theorem sums_any (a c : Option Addr) (cap cap' : Nat) (xs ys : List Int) (M M' : Int) (w : World) (h : Ints w a 3 xs) (h' : Ints w c 3 ys) (hM : bnd M xs) (hM' : bnd M' ys) (hb : M ≤ 2000000000000000000) (hb' : M' ≤ 2000000000000000000) :
    Calls Tryz.prog 51 #[.slice a 3 cap, .slice c 3 cap'] w fun e w' => ∃ a' cap2 B, e = .returned (.slice a' 3 cap2) ∧ Below w.heap.size w w' ∧ OwnX w' a' B 3 (List.zipWith (· + ·) xs ys) ∧ w.heap.size ≤ B := by
  have HX : Hid (xs.length = 3) := h.1
  go_enter Tryz.func51, Tryz.ntmps51
  go_wp2_with fail
  refine (clone_any _ _ _ xs _ h (by omega) (by omega)).mono ?_
  rintro e w1 ⟨v, rfl, j⟩
  have hc1 := h'.below j.b
  have B1 := j.b
  obtain ⟨x, cx, B, rfl, hO, hB0⟩ := j.ownx HX.out
  have hB := hB0 (by omega)
  clear j hB0
  go_wp2_with fail
  refine (addX_any _ _ B _ _ _ xs ys M M' _ hO hc1 (fun b o e => by
    obtain ⟨b1, o1, e1, hcell⟩ := h'.pos (by omega)
    rw [e1] at e
    simp only [Option.some.injEq, Addr.mk.injEq, and_true] at e
    have := block_lt (hcell 0 (by omega))
    omega) (by omega) hM hM' hb hb').mono ?_
  rintro e w2 ⟨rfl, t2, hO2⟩
  have B2 : Below w.heap.size w w2 := B1.trans (t2.below B1.size (fun k hk => by rw [hk.1]; exact hB))
  go_wp2
  go_ret
  exact ⟨_, _, B, rfl, B2, hO2, hB⟩

end Go.Proofs.YtkpnhclaidcbdaaGreat
namespace Go.Proofs.YtkpnhclaidcbdaaGreat
open Go.RowKit
set_option linter.unusedVariables false
set_option maxRecDepth 100000

theorem BX.touch {S : Nat → Prop} {w W W' : World} {B : Nat} {la : List Value} {ty : TypeId} (h : BX w B la ty W) (t : Touch S W W') (hs : ∀ k, S k → w.heap.size ≤ k) (hn : ¬ S B) : BX w B la ty W' :=
  ⟨h.p.touch t hn, h.b.trans (t.below h.b.size hs)⟩

/-- All that is asked for is ok. -/
def doB (gs ls ts : List FV) (A T : Nat) (st : Bool) (p q : Nat) (V U : List Int) : Bool := rowB gs ls ts A T st && okN 3 10000 p V && okN 2 9 q U
/-- What the pots would have. -/
def doX (ls : List FV) (V U : List Int) : List Int := List.zipWith (· + ·) V (ls.map (atF V U))
def doCode (gs ls ts : List FV) (A T : Nat) (st : Bool) (p q : Nat) (V U : List Int) : Int := if doB gs ls ts A T st p q V U then (if st then 2 else endCode (doX ls V U)) else 0
def doTells (gs ls ts : List FV) (A T : Nat) (st : Bool) (p q : Nat) (V U : List Int) : List Int := if doB gs ls ts A T st p q V U then (if st then [] else endTells (doX ls V U) (ts.map (atF V U))) else []
def doPots (gs ls ts : List FV) (A T : Nat) (st : Bool) (p q : Nat) (V U : List Int) : List Int := if doB gs ls ts A T st p q V U then (if st then V else endPots V (doX ls V U)) else []
theorem do_no {gs ls ts : List FV} {A T : Nat} {st : Bool} {p q : Nat} {V U : List Int} (h : doB gs ls ts A T st p q V U = false) : doCode gs ls ts A T st p q V U = 0 ∧ doTells gs ls ts A T st p q V U = [] ∧ doPots gs ls ts A T st p q V U = [] := by
  simp [doCode, doTells, doPots, h]
theorem do_stop {gs ls ts : List FV} {A T : Nat} {p q : Nat} {V U : List Int} (h : doB gs ls ts A T true p q V U = true) : doCode gs ls ts A T true p q V U = 2 ∧ doTells gs ls ts A T true p q V U = [] ∧ doPots gs ls ts A T true p q V U = V := by
  simp [doCode, doTells, doPots, h]
theorem do_go {gs ls ts : List FV} {A T : Nat} {p q : Nat} {V U : List Int} (h : doB gs ls ts A T false p q V U = true) : doCode gs ls ts A T false p q V U = endCode (doX ls V U) ∧ doTells gs ls ts A T false p q V U = endTells (doX ls V U) (ts.map (atF V U)) ∧ doPots gs ls ts A T false p q V U = endPots V (doX ls V U) := by
  simp [doCode, doTells, doPots, h]
theorem rowB_three {gs ls ts : List FV} {A T : Nat} (h : rowB gs ls ts A T false = true) : A = 3 := by
  simp only [rowB, Bool.and_eq_true] at h
  have := h.2
  simp at this
  omega
theorem Cel.pair {w : World} {B : Nat} {x y : Value} {t : TypeId} (h : Cel w B [x, y] t) : w.cell? ⟨B, 0, none⟩ = some x ∧ w.cell? ⟨B, 1, none⟩ = some y ∧ w.frozen? ⟨B, 0, none⟩ = false ∧ w.frozen? ⟨B, 1, none⟩ = false := ⟨h.cell 0, h.cell 1, h.free 0, h.free 1⟩

set_option maxHeartbeats 6400000 in
theorem idoing_any (g : Option Addr) (G cg : Nat) (gs : List FV) (a : Option Addr) (A ca : Nat) (ls : List FV) (t : Option Addr) (T ct : Nat) (ts : List FV) (st : Bool) (v : Option Addr) (p cv : Nat) (V : List Int) (u : Option Addr) (q cu : Nat) (U : List Int) (w : World) (h : RowAt w g G gs a A ls t T ts) (hV : Ints w v p V) (hU : Ints w u q U) (hp : p ≤ 1048576) (hq : q ≤ 1048576) :
    Calls Tryz.prog 18 #[rowV g G cg a A ca t T ct st, .slice v p cv, .slice u q cu] w fun e w' => ResD w w' e (doCode gs ls ts A T st p q V U) (doTells gs ls ts A T st p q V U) (doPots gs ls ts A T st p q V U) := by
  have n0 := (BX.new w [.slice g G cg, .slice a A ca, .slice t T ct, .bool st] 36).alloc (.cells #[.int .i64 0, .slice none 0 0] 38)
  have rc0 := Cel.new (w.alloc (.cells #[.slice g G cg, .slice a A ca, .slice t T ct, .bool st] 36)) [.int .i64 0, .slice none 0 0] 38
  rw [World.size_alloc] at rc0
  have zt := h.zt
  obtain ⟨i0, hi, hz0, hz1, hz2⟩ := info_parts Tryz.infoInt
  obtain ⟨rb, hrb⟩ : ∃ rb, rb = rowB gs ls ts A T st := ⟨_, rfl⟩
  obtain ⟨vb, hvb⟩ : ∃ vb, vb = okN 3 10000 p V := ⟨_, rfl⟩
  obtain ⟨ub, hub⟩ : ∃ ub, ub = okN 2 9 q U := ⟨_, rfl⟩
  have HR : Hid (rb = rowB gs ls ts A T st) := hrb
  have HV : Hid (vb = okN 3 10000 p V) := hvb
  have HU : Hid (ub = okN 2 9 q U) := hub
  clear hrb hvb hub
  go_enter Tryz.func18, Tryz.ntmps18
  go_wp2_with fail
  refine (irow_any _ _ _ gs _ _ _ ls _ _ _ ts _ _ ((h.alloc _).alloc _)).mono ?_
  rintro e w1 ⟨rfl, b1⟩
  have n1 := n0.below b1
  have rc1 := rc0.below b1
  have hlt1 := rc1.lt
  rw [← HR.out]
  clear n0 b1 rc0
  obtain ⟨c0, c1, c2, c3⟩ := n1.p.quad
  obtain ⟨d0, d1, f0, f1⟩ := rc1.pair
  cases rb
  · have E : Hid _ := do_no (p := p) (q := q) (V := V) (U := U) (show doB gs ls ts A T st p q V U = false by rw [doB, ← HR.out]; rfl)
    go_wp2
    refine bodyPost_ret (v := .tuple #[resV 0 none 0 0, .slice none 0 0]) (by simp [results, Tryz.results18, go_sem, d0, d1]) rfl ?_
    obtain ⟨e1, e2, e3⟩ := E.out
    rw [e1, e2, e3]
    exact ⟨none, 0, 0, 0, _, 0, 0, 0, rfl, rfl, rfl, (n1.b.setCell (by simp only []; omega) _).setCell (by simp only []; omega) _, OwnX.nil _ _ _, OwnX.nil _ _ _, fun h => by omega, fun h => by omega, fun h => by omega⟩
  go_wp2_with fail
  refine (ival_any _ _ _ V _ (hV.below n1.b) hp).mono ?_
  rintro e w2 ⟨rfl, hw2⟩
  rw [← HV.out, hw2]
  clear hw2
  cases vb
  · have E : Hid _ := do_no (p := p) (q := q) (V := V) (U := U) (show doB gs ls ts A T st p q V U = false by rw [doB, ← HR.out, ← HV.out]; rfl)
    go_wp2
    refine bodyPost_ret (v := .tuple #[resV 0 none 0 0, .slice none 0 0]) (by simp [results, Tryz.results18, go_sem, d0, d1]) rfl ?_
    obtain ⟨e1, e2, e3⟩ := E.out
    rw [e1, e2, e3]
    exact ⟨none, 0, 0, 0, _, 0, 0, 0, rfl, rfl, rfl, (n1.b.setCell (by simp only []; omega) _).setCell (by simp only []; omega) _, OwnX.nil _ _ _, OwnX.nil _ _ _, fun h => by omega, fun h => by omega, fun h => by omega⟩
  go_wp2_with fail
  refine (iarg_any _ _ _ U _ (hU.below n1.b) hq).mono ?_
  rintro e w2 ⟨rfl, hw2⟩
  rw [← HU.out, hw2]
  clear hw2
  cases ub
  · have E : Hid _ := do_no (p := p) (q := q) (V := V) (U := U) (show doB gs ls ts A T st p q V U = false by rw [doB, ← HR.out, ← HV.out, ← HU.out]; rfl)
    go_wp2
    refine bodyPost_ret (v := .tuple #[resV 0 none 0 0, .slice none 0 0]) (by simp [results, Tryz.results18, go_sem, d0, d1]) rfl ?_
    obtain ⟨e1, e2, e3⟩ := E.out
    rw [e1, e2, e3]
    exact ⟨none, 0, 0, 0, _, 0, 0, 0, rfl, rfl, rfl, (n1.b.setCell (by simp only []; omega) _).setCell (by simp only []; omega) _, OwnX.nil _ _ _, OwnX.nil _ _ _, fun h => by omega, fun h => by omega, fun h => by omega⟩
  have HB : Hid (doB gs ls ts A T st p q V U = true) := by show _ = _; rw [doB, ← HR.out, ← HV.out, ← HU.out]; rfl
  obtain ⟨og, ol, ot⟩ := rowB_g HR.out.symm
  obtain ⟨rfl, bV⟩ := okN_nat (c := 3) (by omega) HV.out.symm
  obtain ⟨rfl, bU⟩ := okN_nat (c := 2) (by omega) HU.out.symm
  have HVL : Hid (V.length = 3) := hV.1
  cases st
  case true =>
    have E : Hid _ := do_stop HB.out
    go_wp2_with fail
    refine (clone_any _ _ _ V _ (hV.below n1.b) (by omega) (by omega)).mono ?_
    rintro e w2 ⟨r, rfl, j⟩
    have rc2 := rc1.below j.b
    obtain ⟨x, cx, B, rfl, hX, hB⟩ := j.ownx HVL.out
    have bb := n1.b.trans (j.b.mono n1.b.size)
    clear c0 c1 c2 c3 d0 d1 f0 f1
    obtain ⟨d0, d1, f0, f1⟩ := rc2.pair
    have hlt2 := rc2.lt
    clear rc2 j rc1
    go_wp2
    refine bodyPost_ret (v := .tuple #[resV 2 none 0 0, .slice x 3 cx]) (by simp [results, Tryz.results18, go_sem, d0, d1]) rfl ?_
    obtain ⟨e1, e2, e3⟩ := E.out
    rw [e1, e2, e3]
    refine ⟨none, 0, 0, 0, x, 3, cx, B, rfl, rfl, HVL.out, ?_, OwnX.nil _ _ _, ?_, fun h => by omega, fun h => by have := hB h; have := n1.b.size; omega, fun h => by omega⟩
    · exact (bb.setCell (by simp only []; omega) _).setCell (by simp only []; omega) _
    · exact (hX.setOther (fun h => by have := hB h; omega) _ _).setOther (fun h => by have := hB h; omega) _ _
  case false =>
    have E : Hid _ := do_go HB.out
    obtain rfl := rowB_three HR.out.symm
    have OT : Hid (ts.all FV.ok = true) := ot
    have OL : Hid (ls.all FV.ok = true) := ol
    have bY := ats_bnd ol bV bU
    clear og ol ot
    go_wp2_with fail
    refine (formsAt_any _ _ _ ls _ _ _ _ V U _ h.ha (h.below n1.b).a (by omega) OL.out (hV.below n1.b) (hU.below n1.b) bV bU).mono ?_
    rintro e w3 ⟨r, rfl, j⟩
    have rc3 := rc1.below j.b
    have n3 := n1.below j.b
    obtain ⟨ya, cy, BY, rfl, hY, hBY⟩ := j.ownx (n := 3) (by rw [List.length_map, h.ha])
    clear c0 c1 c2 c3 rc1 n1 j hBY d0 d1 f0 f1
    go_wp2_with fail
    refine (sums_any _ _ _ _ V _ 10000 1000000000000 _ (hV.below n3.b) hY.ints bV bY (by omega) (by omega)).mono ?_
    rintro e w4 ⟨x, cx, B, rfl, b4, hX4, hB⟩
    have rc4 := rc3.below b4
    have n4 := n3.below b4
    have z3 := n3.b.size
    have hr3 := rc3.lt
    have hB' : w.heap.size + 1 + 1 ≤ B := by omega
    have hq3 := n3.p.lt
    clear rc3 n3 hY b4 bY
    obtain ⟨c0, c1, c2, c3⟩ := n4.p.quad
    go_wp2_with fail
    refine (formsAt_any _ _ _ ts _ _ _ _ V U _ h.ht (h.below n4.b).t zt OT.out (hV.below n4.b) (hU.below n4.b) bV bU).mono ?_
    rintro e w5 ⟨r, rfl, j⟩
    have rc5 := rc4.below j.b
    have n5 := n4.below j.b
    have hX5 := hX4.below j.b
    have lB4 := hX4.lt (by omega)
    obtain ⟨ta, ctt, BT, rfl, hT, hBT⟩ := j.ownx (n := T) (by rw [List.length_map, h.ht])
    have z5 := j.b.size
    clear c0 c1 c2 c3 rc4 n4 j hX4
    go_wp2_with fail
    refine (done_any _ _ _ _ B _ _ _ BT V _ _ _ (hV.below n5.b) hX5 hT (fun h => by have := hBT h; omega) (w.heap.size + 1 + 1) (fun h => by have := hBT h; omega) (by omega) (by omega)).mono ?_
    rintro e w6 ⟨ra, rn, rcap, RB1, pb, pm, pcap, RB2, rfl, L1, L2, b6, O1, O2, g1, g2, g3⟩
    have rc6 := rc5.below b6
    have n6 := n5.below b6
    have hlt6 := rc6.lt
    clear rc5 n5 hX5 hT hBT
    obtain ⟨d0, d1, f0, f1⟩ := rc6.pair
    clear rc6
    go_wp2
    refine bodyPost_ret (v := .tuple #[resV (endCode (List.zipWith (· + ·) V (ls.map (atF V U)))) ra rn rcap, .slice pb pm pcap]) (by simp [results, Tryz.results18, go_sem, d0, d1]) rfl ?_
    obtain ⟨e1, e2, e3⟩ := E.out
    rw [e1, e2, e3]
    refine ⟨ra, rn, rcap, RB1, pb, pm, pcap, RB2, rfl, L1, L2, ?_, ?_, ?_, fun h => by have := g1 h; omega, fun h => by have := g2 h; omega, g3⟩
    · exact (n6.b.setCell (by simp only []; omega) _).setCell (by simp only []; omega) _
    · exact (O1.setOther (fun h => by have := g1 h; omega) _ _).setOther (fun h => by have := g1 h; omega) _ _
    · exact (O2.setOther (fun h => by have := g2 h; omega) _ _).setOther (fun h => by have := g2 h; omega) _ _

end Go.Proofs.YtkpnhclaidcbdaaGreat
namespace Go.Proofs.YtkpnhclaidcbdaaGreat
open Go.RowKit
set_option linter.unusedVariables false
set_option maxRecDepth 100000

end Go.Proofs.YtkpnhclaidcbdaaGreat
namespace Go.Proofs.YtkpnhclaidcbdaaGreat
open Go.RowKit
set_option linter.unusedVariables false

/-- While they are marked: the block's slices stand; the lists from k on are as they were made. -/
structure MK2 (W : World) (B N s k : Nat) (gs : List FV) (p q : Nat → Nat) (wr : World) : Prop where
  c : ∃ cur : Array Value, wr.heap[B]? = some (.cells cur 72 (0, 0)) ∧ cur.size = N * 3 ∧ ∀ i, i < N → cur[i * 3]? = some (.slice (gs[i]?.getD noFV).a (gs[i]?.getD noFV).n (gs[i]?.getD noFV).cap) ∧ cur[i * 3 + 1]? = some (.slice (gs[i]?.getD noFV).c (gs[i]?.getD noFV).m (gs[i]?.getD noFV).cap')
  o : ∀ i, k ≤ i → i < N → Blk wr (p i) (gs[i]?.getD noFV).C ∧ Blk wr (q i) (gs[i]?.getD noFV).D
  t : Touch (fun x => B ≤ x ∧ x < s) W wr

end Go.Proofs.YtkpnhclaidcbdaaGreat
namespace Go.Proofs.YtkpnhclaidcbdaaGreat
open Go.RowKit
set_option linter.unusedVariables false
set_option maxRecDepth 100000

end Go.Proofs.YtkpnhclaidcbdaaGreat
namespace Go.Proofs.YtkpnhclaidcbdaaGreat
open Go.RowKit
set_option linter.unusedVariables false
set_option maxRecDepth 100000

set_option maxHeartbeats 800000 in
theorem iatG_any (a : Option Addr) (cap : Nat) (c : Option Addr) (cap' : Nat) (K : Int) (C D : List Int) (v : Option Addr) (cv : Nat) (u : Option Addr) (cu : Nat) (V A : List Int) (w : World)
    (hC : Ints w a 3 C) (hD : Ints w c 2 D) (hV : Ints w v 3 V) (hA : Ints w u 2 A) (P Q : Int) (p1 : bndP P C V) (p2 : bndP Q D A) (zP : 0 ≤ P) (zQ : 0 ≤ Q) (tP : P ≤ 100000000000) (tQ : Q ≤ 100000000000) (bK : -10000000 ≤ K ∧ K ≤ 10000000) :
    Calls Tryz.prog 49 #[formV a 3 cap c 2 cap' K, .slice v 3 cv, .slice u 2 cu] w fun e w' => e = .returned (.int .i64 (atV C D K V A)) ∧ Below w.heap.size w w' := by
  have d1 := dot_bnd p1 3
  have d2 := dot_bnd p2 2
  obtain ⟨K1, K2⟩ := bK
  have q1 : ∀ w' : World, Below w.heap.size w w' → Calls Tryz.prog 96 #[.slice a 3 cap, .slice v 3 cv] w' fun e w'' => e = .returned (.int .i64 (dot C V 3)) ∧ w'' = w' := fun w' hb => psum_any _ _ _ _ _ C V _ _ (hC.below hb) (hV.below hb) (by omega) p1 (by omega) (by omega)
  have q2 : ∀ w' : World, Below w.heap.size w w' → Calls Tryz.prog 96 #[.slice c 2 cap', .slice u 2 cu] w' fun e w'' => e = .returned (.int .i64 (dot D A 2)) ∧ w'' = w' := fun w' hb => psum_any _ _ _ _ _ D A _ _ (hD.below hb) (hA.below hb) (by omega) p2 (by omega) (by omega)
  have Q1 : Hid _ := q1
  have Q2 : Hid _ := q2
  obtain ⟨X, hX⟩ : ∃ X, X = dot C V 3 := ⟨_, rfl⟩
  obtain ⟨Y, hY⟩ : ∃ Y, Y = dot D A 2 := ⟨_, rfl⟩
  have e1 : -1000000000000 ≤ dot C V 3 := by omega
  have e2 : dot C V 3 ≤ 1000000000000 := by omega
  have e3 : -1000000000000 ≤ dot D A 2 := by omega
  have e4 : dot D A 2 ≤ 1000000000000 := by omega
  clear d1 d2 q1 q2 hX hY X Y p1 p2 zP zQ tP tQ hC hD hV hA
  go_enter Tryz.func49, Tryz.ntmps49
  go_wp2_with fail
  go_quiet (first | (go_at_call_of 96 (Value.slice a 3 cap); exact Calls.quiet_of_same (Q1.out _ (by repeat (first | exact (Below.refl _ _).alloc (Nat.le_refl _) _ | refine below_drewN ?_ _ | refine Below.drew ?_)))) | (go_at_call_of 96 (Value.slice c 2 cap'); exact Calls.quiet_of_same (Q2.out _ (by repeat (first | exact (Below.refl _ _).alloc (Nat.le_refl _) _ | refine below_drewN ?_ _ | refine Below.drew ?_)))))
  go_wp2
  go_ret
  exact ⟨rfl, below_drewN ((Below.refl _ _).alloc (Nat.le_refl _) _) _⟩

set_option maxHeartbeats 1600000 in
theorem satG_any (a : Option Addr) (cap : Nat) (c : Option Addr) (cap' : Nat) (K : Int) (C D : List Int) (v : Option Addr) (cv : Nat) (u : Option Addr) (cu : Nat) (V A : List Int) (w : World)
    (hC : Ints w a 3 C) (hD : Ints w c 2 D) (hV : Ints w v 3 V) (hA : Ints w u 2 A) (P Q : Int) (p1 : bndP P C V) (p2 : bndP Q D A) (zP : 0 ≤ P) (zQ : 0 ≤ Q) (tP : P ≤ 100000000000) (tQ : Q ≤ 100000000000) (bK : -10000000 ≤ K ∧ K ≤ 10000000) :
    Calls Tryz.prog 135 #[formV a 3 cap c 2 cap' K, .slice v 3 cv, .slice u 2 cu] w fun e w' => e = .returned (.int .i64 (atV C D K V A)) ∧ Below w.heap.size w w' := by
  obtain ⟨K1, K2⟩ := bK
  have P1 : Hid (bndP P C V) := p1
  have P2 : Hid (bndP Q D A) := p2
  clear p1 p2
  go_enter Tryz.func135, Tryz.ntmps135
  go_wp2_with fail
  go_loopw [7, 8] (fun s i wr => ∃ k : Nat, k ≤ 3 ∧ i = .int .i64 k ∧ s = .int .i64 (K + dot C V k) ∧ Below w.heap.size w wr ∧ Cel wr w.heap.size [.slice a 3 cap, .slice c 2 cap', .int .i64 K] 72) (fun _ i _ => 3 - (intOf i).toNat)
  case atStart => exact ⟨0, by omega, rfl, by simp [dot], (Below.refl _ _).alloc (Nat.le_refl _) _, Cel.new w _ _⟩
  case round =>
    obtain ⟨k, hk, rfl, rfl, hb, hS⟩ := hrel
    by_cases hlt : k < 3
    · obtain ⟨b, off, rfl, hcell⟩ := (hC.below hb).pos (by omega)
      obtain ⟨b', off', rfl, hcell'⟩ := (hV.below hb).pos (by omega)
      have hck := hcell k hlt
      have hck' := hcell' k hlt
      have hlt' : (k : Int) < 3 := by omega
      have s0 := hS.cell 0
      simp only [List.getElem?_cons_zero] at s0
      obtain ⟨d3, d4⟩ := P1.out k
      have d := dot_bnd P1.out k
      have kP : (k : Int) * P ≤ 3 * P := Int.mul_le_mul_of_nonneg_right (by omega) (by omega)
      have d1 : -1000000000000000 ≤ dot C V k := by omega
      have d2 : dot C V k ≤ 1000000000000000 := by omega
      have d7 : -100000000000 ≤ C[k]?.getD 0 * V[k]?.getD 0 := by omega
      have d8 : C[k]?.getD 0 * V[k]?.getD 0 ≤ 100000000000 := by omega
      clear hcell hcell' hC hD hV hA d kP d3 d4
      go_wp2_with fail
      go_quiet (fail)
      go_wp2
      go_roundw
      case rel => exact ⟨k + 1, by omega, by go_num, congrArg (Value.int IntKind.i64) (by simp only [dot]; omega), below_drewN hb _, hS⟩
      case measure => simp [intOf]; omega
    · obtain rfl : k = 3 := by omega
      have d := dot_bnd P1.out 3
      have d1 : -1000000000000000 ≤ dot C V 3 := by omega
      have d2 : dot C V 3 ≤ 1000000000000000 := by omega
      clear d hC hV
      go_wp2_with fail
      go_loopw [7, 9] (fun s i wx => ∃ k : Nat, k ≤ 2 ∧ i = .int .i64 k ∧ s = .int .i64 (K + dot C V 3 + dot D A k) ∧ Below w.heap.size w wx ∧ Cel wx w.heap.size [.slice a 3 cap, .slice c 2 cap', .int .i64 K] 72) (fun _ i _ => 2 - (intOf i).toNat)
      case atStart => exact ⟨0, by omega, rfl, by simp [dot], hb, hS⟩
      case round =>
        clear hb hS
        obtain ⟨j, hj, rfl, rfl, hb, hS⟩ := hrel
        by_cases hlt : j < 2
        · obtain ⟨b, off, rfl, hcell⟩ := (hD.below hb).pos (by omega)
          obtain ⟨b', off', rfl, hcell'⟩ := (hA.below hb).pos (by omega)
          have hck := hcell j hlt
          have hck' := hcell' j hlt
          have hlt' : (j : Int) < 2 := by omega
          have s0 := hS.cell 1
          simp only [List.getElem?_cons_zero, List.getElem?_cons_succ] at s0
          obtain ⟨d5, d6⟩ := P2.out j
          have d := dot_bnd P2.out j
          have kP : (j : Int) * Q ≤ 2 * Q := Int.mul_le_mul_of_nonneg_right (by omega) (by omega)
          have d3 : -1000000000000000 ≤ dot D A j := by omega
          have d4 : dot D A j ≤ 1000000000000000 := by omega
          have d7 : -100000000000 ≤ D[j]?.getD 0 * A[j]?.getD 0 := by omega
          have d8 : D[j]?.getD 0 * A[j]?.getD 0 ≤ 100000000000 := by omega
          clear hcell hcell' hD hA d kP d5 d6
          go_wp2_with fail
          go_quiet (fail)
          go_wp2
          go_roundw
          case rel => exact ⟨j + 1, by omega, by go_num, congrArg (Value.int IntKind.i64) (by simp only [dot]; omega), below_drewN hb _, hS⟩
          case measure => simp [intOf]; omega
        · obtain rfl : j = 2 := by omega
          go_wp2
          go_ret
          exact ⟨ret_int (by unfold atV; omega), hb⟩

/-- How great a pot may be behind so many lines. -/
def bd : Nat → Int
  | 0 => 10000
  | n + 1 => 7 * bd n + 56
theorem bd_pos : ∀ n, 10000 ≤ bd n
  | 0 => by simp [bd]
  | n + 1 => by have := bd_pos n; simp only [bd]; omega
theorem bd_succ (n : Nat) : bd n ≤ bd (n + 1) := by have := bd_pos n; simp only [bd]; omega
theorem bd_mono {n m : Nat} (h : n ≤ m) : bd n ≤ bd m := by
  induction h with
  | refl => exact Int.le_refl _
  | step _ ih => exact Int.le_trans ih (bd_succ _)
theorem bd_six {n : Nat} (h : n ≤ 6) : bd n ≤ 2000000000 := Int.le_trans (bd_mono h) (by simp [bd])
theorem bnd_mono {M M' : Int} {zs : List Int} (h : bnd M zs) (hM : M ≤ M') : bnd M' zs := fun i => by have := h i; omega
theorem small_elim {n m : Nat} {C D : List Int} {K : Int} (h : smallB n m C D K = true) : n = 3 ∧ m = 2 ∧ bnd 2 C ∧ bnd 2 D ∧ -20 ≤ K ∧ K ≤ 20 := by
  simp only [smallB, Bool.and_eq_true] at h
  obtain ⟨⟨h1, h2⟩, h3⟩ := h
  obtain ⟨e1, b1⟩ := okN_elim (by omega) h1
  obtain ⟨e2, b2⟩ := okN_elim (by omega) h2
  have := inB_iff.1 h3
  exact ⟨by omega, by omega, b1, b2, this.1, this.2⟩
/-- A small form is not much greater than the pots are. -/
theorem small_at {C D V U : List Int} {K M : Int} (bC : bnd 2 C) (bD : bnd 2 D) (k1 : -20 ≤ K) (k2 : K ≤ 20) (bV : bnd M V) (bU : bnd 9 U) (hM : 0 ≤ M) : bndP (2 * M) C V ∧ bndP 18 D U ∧ -(6 * M + 56) ≤ atV C D K V U ∧ atV C D K V U ≤ 6 * M + 56 := by
  have p1 := bndP_of bC bV (by omega) hM
  have p2 := bndP_of bD bU (by omega) (by omega)
  have d1 := dot_bnd p1 3
  have d2 := dot_bnd p2 2
  refine ⟨p1, p2, ?_, ?_⟩ <;> unfold atV <;> omega
theorem bnd_set {M : Int} {x : List Int} {k : Nat} {v : Int} (h : bnd M x) (h1 : -M ≤ v) (h2 : v ≤ M) : bnd M (x.set k v) := fun i => by
  by_cases e : i = k
  · subst e
    by_cases hi : i < x.length
    · rw [List.getElem?_set_self hi]; simp; omega
    · rw [List.getElem?_eq_none (by simp; omega)]
      have := h i
      simp
      omega
  · rw [List.getElem?_set_ne (by omega)]; exact h i

/-- The run of an act: whether it stopped, the pots, what was told; i: the line, f: how many steps at most. -/
def goL (U : List Int) (ls : List LV) : Nat → Nat → List Int → List Int → Bool × List Int × List Int
  | 0, _, x, tl => (false, x, tl)
  | f + 1, i, x, tl =>
    if i < ls.length then
      if (ls[i]?.getD noLV).kind = 1 then goL U ls f (if atF x U (ls[i]?.getD noLV).f < 0 then i + 1 + (ls[i]?.getD noLV).skip.toNat else i + 1) x tl
      else if (ls[i]?.getD noLV).kind = 2 then goL U ls f (i + 1) (x.set (ls[i]?.getD noLV).pot.toNat (x[(ls[i]?.getD noLV).pot.toNat]?.getD 0 + atF x U (ls[i]?.getD noLV).f)) tl
      else if (ls[i]?.getD noLV).kind = 3 then goL U ls f (i + 1) x (tl ++ [atF x U (ls[i]?.getD noLV).f])
      else (true, x, tl)
    else (false, x, tl)
theorem goL_end {U : List Int} {ls : List LV} {f i : Nat} {x tl : List Int} (h : ls.length ≤ i) : goL U ls f i x tl = (false, x, tl) := by
  cases f with
  | zero => rfl
  | succ f => rw [goL, if_neg (by omega)]
theorem goL_one {U : List Int} {ls : List LV} {f i : Nat} {x tl : List Int} {g : LV} (h : i < ls.length) (hf : 0 < f) (hg : ls[i]?.getD noLV = g) : goL U ls f i x tl = (if g.kind = 1 then goL U ls (f - 1) (if atF x U g.f < 0 then i + 1 + g.skip.toNat else i + 1) x tl else if g.kind = 2 then goL U ls (f - 1) (i + 1) (x.set g.pot.toNat (x[g.pot.toNat]?.getD 0 + atF x U g.f)) tl else if g.kind = 3 then goL U ls (f - 1) (i + 1) x (tl ++ [atF x U g.f]) else (true, x, tl)) := by
  obtain ⟨n, rfl⟩ : ∃ n, f = n + 1 := ⟨f - 1, by omega⟩
  rw [goL, if_pos h, hg]; rfl
/-- The whole run. -/
def runL (U : List Int) (ls : List LV) (V : List Int) : Bool × List Int × List Int := goL U ls 7 0 V []
/-- Where a run stands. -/
structure At (U : List Int) (ls : List LV) (V : List Int) (i : Nat) (x tl : List Int) : Prop where
  r : ∃ f, 7 ≤ i + f ∧ runL U ls V = goL U ls f i x tl
  b : i ≤ 6 → bnd (bd i) x
  l : x.length = 3
  t : tl.length ≤ i
theorem At.start {U : List Int} {ls : List LV} {V : List Int} (h : bnd 10000 V) (hl : V.length = 3) : At U ls V 0 V [] := ⟨⟨7, by omega, rfl⟩, fun _ => h, hl, Nat.le_refl _⟩
theorem At.done {U : List Int} {ls : List LV} {V : List Int} {i : Nat} {x tl : List Int} (h : At U ls V i x tl) (hi : ls.length ≤ i) : runL U ls V = (false, x, tl) := by
  obtain ⟨f, _, e⟩ := h.r
  rw [e, goL_end hi]
theorem At.one {U : List Int} {ls : List LV} {V : List Int} {i : Nat} {x tl : List Int} {g : LV} (h : At U ls V i x tl) (hi : i < ls.length) (h6 : ls.length ≤ 6) (hg : ls[i]?.getD noLV = g) : ∃ f, 7 ≤ (i + 1) + f ∧ runL U ls V = (if g.kind = 1 then goL U ls f (if atF x U g.f < 0 then i + 1 + g.skip.toNat else i + 1) x tl else if g.kind = 2 then goL U ls f (i + 1) (x.set g.pot.toNat (x[g.pot.toNat]?.getD 0 + atF x U g.f)) tl else if g.kind = 3 then goL U ls f (i + 1) x (tl ++ [atF x U g.f]) else (true, x, tl)) := by
  obtain ⟨f, h1, e⟩ := h.r
  exact ⟨f - 1, by omega, by rw [e, goL_one hi (by omega) hg]⟩
theorem At.skip {U : List Int} {ls : List LV} {V : List Int} {i j : Nat} {x tl : List Int} {g : LV} (h : At U ls V i x tl) (hi : i < ls.length) (h6 : ls.length ≤ 6) (hg : ls[i]?.getD noLV = g) (hk : g.kind = 1) (hj : j = if atF x U g.f < 0 then i + 1 + g.skip.toNat else i + 1) : At U ls V j x tl := by
  obtain ⟨f, h1, e⟩ := h.one hi h6 hg
  rw [if_pos hk, ← hj] at e
  have hij : i + 1 ≤ j := by rw [hj]; split <;> omega
  have ht := h.t
  exact ⟨⟨f, by omega, e⟩, fun h => bnd_mono (‹At U ls V i x tl›.b (by omega)) (bd_mono (by omega)), h.l, by omega⟩
theorem At.add {U : List Int} {ls : List LV} {V : List Int} {i : Nat} {x tl : List Int} {g : LV} (h : At U ls V i x tl) (hi : i < ls.length) (h6 : ls.length ≤ 6) (hg : ls[i]?.getD noLV = g) (hk : g.kind = 2) (h1 : -(6 * bd i + 56) ≤ atF x U g.f) (h2 : atF x U g.f ≤ 6 * bd i + 56) : At U ls V (i + 1) (x.set g.pot.toNat (x[g.pot.toNat]?.getD 0 + atF x U g.f)) tl := by
  obtain ⟨f, h3, e⟩ := h.one hi h6 hg
  rw [if_neg (by omega), if_pos hk] at e
  have ht := h.t
  refine ⟨⟨f, by omega, e⟩, fun _ => ?_, by rw [List.length_set]; exact h.l, by omega⟩
  have hb := h.b (by omega)
  have := hb g.pot.toNat
  have hp := bd_pos i
  exact bnd_set (bnd_mono hb (bd_succ i)) (by simp only [bd]; omega) (by simp only [bd]; omega)
theorem At.tell {U : List Int} {ls : List LV} {V : List Int} {i : Nat} {x tl : List Int} {g : LV} (h : At U ls V i x tl) (hi : i < ls.length) (h6 : ls.length ≤ 6) (hg : ls[i]?.getD noLV = g) (hk : g.kind = 3) : At U ls V (i + 1) x (tl ++ [atF x U g.f]) := by
  obtain ⟨f, h3, e⟩ := h.one hi h6 hg
  rw [if_neg (by omega), if_neg (by omega), if_pos hk] at e
  have ht := h.t
  exact ⟨⟨f, by omega, e⟩, fun _ => bnd_mono (h.b (by omega)) (bd_succ i), h.l, by rw [List.length_append]; simp; omega⟩
theorem At.stop {U : List Int} {ls : List LV} {V : List Int} {i : Nat} {x tl : List Int} {g : LV} (h : At U ls V i x tl) (hi : i < ls.length) (h6 : ls.length ≤ 6) (hg : ls[i]?.getD noLV = g) (h1 : ¬ g.kind = 1) (h2 : ¬ g.kind = 2) (h3 : ¬ g.kind = 3) : (runL U ls V).1 = true := by
  obtain ⟨f, _, e⟩ := h.one hi h6 hg
  rw [if_neg h1, if_neg h2, if_neg h3] at e
  rw [e]

end Go.Proofs.YtkpnhclaidcbdaaGreat
namespace Go.Proofs.YtkpnhclaidcbdaaGreat
open Go.RowKit
set_option linter.unusedVariables false
set_option maxRecDepth 100000

/-- All that is asked for is ok. -/
def runB (N : Nat) (ls : List LV) (p : Nat) (V : List Int) (q : Nat) (U : List Int) : Bool := actB N ls && okN 3 10000 p V && okN 2 9 q U
def runCode (N : Nat) (ls : List LV) (p : Nat) (V : List Int) (q : Nat) (U : List Int) : Int := if runB N ls p V q U then (if (runL U ls V).1 then 2 else endCode (runL U ls V).2.1) else 0
def runTells (N : Nat) (ls : List LV) (p : Nat) (V : List Int) (q : Nat) (U : List Int) : List Int := if runB N ls p V q U then (if (runL U ls V).1 then [] else endTells (runL U ls V).2.1 (runL U ls V).2.2) else []
def runPots (N : Nat) (ls : List LV) (p : Nat) (V : List Int) (q : Nat) (U : List Int) : List Int := if runB N ls p V q U then (if (runL U ls V).1 then V else endPots V (runL U ls V).2.1) else []
theorem run_no {N : Nat} {ls : List LV} {p : Nat} {V : List Int} {q : Nat} {U : List Int} (h : runB N ls p V q U = false) : runCode N ls p V q U = 0 ∧ runTells N ls p V q U = [] ∧ runPots N ls p V q U = [] := by
  simp [runCode, runTells, runPots, h]
theorem run_stop {N : Nat} {ls : List LV} {p : Nat} {V : List Int} {q : Nat} {U : List Int} (h : runB N ls p V q U = true) (hs : (runL U ls V).1 = true) : runCode N ls p V q U = 2 ∧ runTells N ls p V q U = [] ∧ runPots N ls p V q U = V := by
  simp [runCode, runTells, runPots, h, hs]
theorem run_go {N : Nat} {ls : List LV} {p : Nat} {V : List Int} {q : Nat} {U : List Int} {x tl : List Int} (h : runB N ls p V q U = true) (hs : runL U ls V = (false, x, tl)) : runCode N ls p V q U = endCode x ∧ runTells N ls p V q U = endTells x tl ∧ runPots N ls p V q U = endPots V x := by
  simp [runCode, runTells, runPots, h, hs]
theorem actB_six {N : Nat} {ls : List LV} (h : actB N ls = true) : N ≤ 6 ∧ ls.all LV.ok = true := by
  simp only [actB, Bool.and_eq_true, decide_eq_true_eq] at h
  exact ⟨by omega, h.1.2⟩
theorem allL_at {ls : List LV} {k : Nat} (h : ls.all LV.ok = true) (hk : k < ls.length) : (ls[k]?.getD noLV).ok = true := by
  rw [List.getElem?_eq_getElem hk]
  exact List.all_eq_true.1 h _ (List.getElem_mem hk)
theorem line_one {pot skip : Int} {n m : Nat} {C D : List Int} {K : Int} (h : lineB 1 pot skip n m C D K = true) : 1 ≤ skip ∧ skip ≤ 6 ∧ smallB n m C D K = true := by
  simp [lineB] at h
  have := inB_iff.1 h.1.2
  exact ⟨this.1, this.2, h.2⟩
theorem line_two {pot skip : Int} {n m : Nat} {C D : List Int} {K : Int} (h : lineB 2 pot skip n m C D K = true) : 0 ≤ pot ∧ pot < 3 ∧ smallB n m C D K = true := by
  simp [lineB] at h
  have := inB_iff.1 h.1.1
  exact ⟨this.1, by omega, h.2⟩
theorem line_three {pot skip : Int} {n m : Nat} {C D : List Int} {K : Int} (h : lineB 3 pot skip n m C D K = true) : smallB n m C D K = true := by
  simp [lineB] at h
  exact h.2
theorem JA.rebase {w w1 W : World} {v : Value} {xs : List Int} (j : JA w1 v xs W) (b : Below w.heap.size w w1) : JA w v xs W := by
  refine ⟨b.trans (j.b.mono b.size), j.o.1, ?_⟩
  have := b.size
  rcases j.o.2 with h2 | ⟨g, cap, cur, hv, hg, r⟩
  · exact Or.inl h2
  · exact Or.inr ⟨g, cap, cur, hv, by omega, r⟩
theorem JA.set {w W : World} {v : Value} {xs : List Int} (j : JA w v xs W) {B : Nat} (hB : w.heap.size ≤ B) (ne : v.ownBlock ≠ some B) (i : Nat) (y : Value) : JA w v xs (W.setCell ⟨B, i, none⟩ y) := by
  refine ⟨j.b.setCell hB _, j.o.1, ?_⟩
  rcases j.o.2 with h2 | ⟨g, cap, cur, hv, hg, hh, r⟩
  · exact Or.inl h2
  · refine Or.inr ⟨g, cap, cur, hv, hg, ?_, r⟩
    have hne : g ≠ B := fun e => ne (by rw [hv, e]; rfl)
    rw [Below.heap_setCell _ _ _ _ hne]; exact hh
/-- x lies apart from a list that has been appended to. -/
theorem OwnX.grown {W W' : World} {a : Option Addr} {B n : Nat} {zs : List Int} {row : Option Nat} {o : Obj} (h : OwnX W a B n zs) (hg : (W.alloc o).grownBy W' row) (hne : row ≠ some B) : OwnX W' a B n zs := by
  refine ⟨h.1, ?_⟩
  rcases h.2 with h0 | ⟨e, cur, hc, hv⟩
  · exact .inl h0
  · refine .inr ⟨e, cur, ?_, hv⟩
    have hl := hc.lt
    have h1 : Cel (W.alloc o) B cur 3 := hc.alloc o
    unfold Cel at *
    rw [hg.block B (by rw [World.size_alloc]; omega) (fun e => hne e.symm)]; exact h1
theorem Cel.grown {W W' : World} {B : Nat} {vs : List Value} {t : TypeId} {row : Option Nat} {o : Obj} (h : Cel W B vs t) (hg : (W.alloc o).grownBy W' row) (hne : row ≠ some B) : Cel W' B vs t := by
  have hl := h.lt
  have h1 : Cel (W.alloc o) B vs t := h.alloc o
  unfold Cel at *
  rw [hg.block B (by rw [World.size_alloc]; omega) (fun e => hne e.symm)]; exact h1

end Go.Proofs.YtkpnhclaidcbdaaGreat
namespace Go.Proofs.YtkpnhclaidcbdaaGreat
open Go.RowKit
set_option linter.unusedVariables false
set_option maxRecDepth 100000

theorem as_testStep_testStep (v : Value) (w : World) : (Instr.typeAssert (.iface 167 v) 134 167 true).run Tryz.prog w = .ok (.tuple #[v, .bool true]) w := by kernel_rfl
theorem as_testStep_addStep (v : Value) (w : World) : (Instr.typeAssert (.iface 167 v) 134 169 true).run Tryz.prog w = .ok (.tuple #[.agg #[.int .i64 0, .slice none 0 0, .slice none 0 0, .int .i64 0], .bool false]) w := by kernel_rfl
theorem as_testStep_printStep (v : Value) (w : World) : (Instr.typeAssert (.iface 167 v) 134 171 true).run Tryz.prog w = .ok (.tuple #[.agg #[.slice none 0 0, .slice none 0 0, .int .i64 0], .bool false]) w := by kernel_rfl
theorem as_testStep_stopStep (v : Value) (w : World) : (Instr.typeAssert (.iface 167 v) 134 172 true).run Tryz.prog w = .ok (.tuple #[.agg #[], .bool false]) w := by kernel_rfl
theorem as_addStep_testStep (v : Value) (w : World) : (Instr.typeAssert (.iface 169 v) 134 167 true).run Tryz.prog w = .ok (.tuple #[.agg #[.int .i64 0, .slice none 0 0, .slice none 0 0, .int .i64 0], .bool false]) w := by kernel_rfl
theorem as_addStep_addStep (v : Value) (w : World) : (Instr.typeAssert (.iface 169 v) 134 169 true).run Tryz.prog w = .ok (.tuple #[v, .bool true]) w := by kernel_rfl
theorem as_addStep_printStep (v : Value) (w : World) : (Instr.typeAssert (.iface 169 v) 134 171 true).run Tryz.prog w = .ok (.tuple #[.agg #[.slice none 0 0, .slice none 0 0, .int .i64 0], .bool false]) w := by kernel_rfl
theorem as_addStep_stopStep (v : Value) (w : World) : (Instr.typeAssert (.iface 169 v) 134 172 true).run Tryz.prog w = .ok (.tuple #[.agg #[], .bool false]) w := by kernel_rfl
theorem as_printStep_testStep (v : Value) (w : World) : (Instr.typeAssert (.iface 171 v) 134 167 true).run Tryz.prog w = .ok (.tuple #[.agg #[.int .i64 0, .slice none 0 0, .slice none 0 0, .int .i64 0], .bool false]) w := by kernel_rfl
theorem as_printStep_addStep (v : Value) (w : World) : (Instr.typeAssert (.iface 171 v) 134 169 true).run Tryz.prog w = .ok (.tuple #[.agg #[.int .i64 0, .slice none 0 0, .slice none 0 0, .int .i64 0], .bool false]) w := by kernel_rfl
theorem as_printStep_printStep (v : Value) (w : World) : (Instr.typeAssert (.iface 171 v) 134 171 true).run Tryz.prog w = .ok (.tuple #[v, .bool true]) w := by kernel_rfl
theorem as_printStep_stopStep (v : Value) (w : World) : (Instr.typeAssert (.iface 171 v) 134 172 true).run Tryz.prog w = .ok (.tuple #[.agg #[], .bool false]) w := by kernel_rfl
theorem as_stopStep_testStep (v : Value) (w : World) : (Instr.typeAssert (.iface 172 v) 134 167 true).run Tryz.prog w = .ok (.tuple #[.agg #[.int .i64 0, .slice none 0 0, .slice none 0 0, .int .i64 0], .bool false]) w := by kernel_rfl
theorem as_stopStep_addStep (v : Value) (w : World) : (Instr.typeAssert (.iface 172 v) 134 169 true).run Tryz.prog w = .ok (.tuple #[.agg #[.int .i64 0, .slice none 0 0, .slice none 0 0, .int .i64 0], .bool false]) w := by kernel_rfl
theorem as_stopStep_printStep (v : Value) (w : World) : (Instr.typeAssert (.iface 172 v) 134 171 true).run Tryz.prog w = .ok (.tuple #[.agg #[.slice none 0 0, .slice none 0 0, .int .i64 0], .bool false]) w := by kernel_rfl
theorem as_stopStep_stopStep (v : Value) (w : World) : (Instr.typeAssert (.iface 172 v) 134 172 true).run Tryz.prog w = .ok (.tuple #[v, .bool true]) w := by kernel_rfl

set_option maxHeartbeats 800000 in
theorem leave_stop (Dd : Nat) (w : World) :
    Calls Tryz.prog 99 #[.pointer (some ⟨Dd, 0, none⟩), .iface 172 (.agg #[])] w fun e w' => e = .panicked [{ v := .iface 142 (.agg #[]), recovered := false }] ∧ Below w.heap.size w w' := by
  have h1 := as_stopStep_testStep
  have h2 := as_stopStep_addStep
  have h3 := as_stopStep_printStep
  have h4 := as_stopStep_stopStep
  go_enter Tryz.func99, Tryz.ntmps99
  go_wp2
  exact ⟨rfl, rfl, (Below.refl _ _).alloc (Nat.le_refl _) _⟩

/-- While the program runs an act: old memory, what it does it with, the pots, what was told. -/
structure DR (w1 : World) (Dd B cp : Nat) (ua : Option Addr) (cu : Nat) (v : Value) (x tl : List Int) (W : World) : Prop where
  b : Below w1.heap.size w1 W
  d : Cel W Dd [.slice (some ⟨B, 0, none⟩) 3 cp, .slice ua 2 cu, v] 90
  ox : OwnX W (some ⟨B, 0, none⟩) B 3 x
  j : JA w1 v tl W
  ne : v.ownBlock ≠ some B
  nd : v.ownBlock ≠ some Dd

section
variable {w1 W W' : World} {Dd B cp : Nat} {ua : Option Addr} {cu : Nat} {v : Value} {x tl : List Int}
theorem DR.below (s : DR w1 Dd B cp ua cu v x tl W) (h : Below W.heap.size W W') : DR w1 Dd B cp ua cu v x tl W' := ⟨s.b.trans (h.mono s.b.size), s.d.below h, s.ox.below h, s.j.below h, s.ne, s.nd⟩
theorem DR.alloc (s : DR w1 Dd B cp ua cu v x tl W) (o : Obj) : DR w1 Dd B cp ua cu v x tl (W.alloc o) := s.below ((Below.refl _ _).alloc (Nat.le_refl _) _)
theorem DR.set (s : DR w1 Dd B cp ua cu v x tl W) (hB : w1.heap.size ≤ B) (hDB : Dd ≠ B) {i : Nat} (hi : i < 3) (y : Int) : DR w1 Dd B cp ua cu v (x.set i y) tl (W.setCell ⟨B, i, none⟩ (.int .i64 y)) :=
  ⟨s.b.setCell hB _, s.d.setOther hDB _ _, s.ox.set hi y, s.j.set hB s.ne _ _, s.ne, s.nd⟩
theorem DR.app {y : Int} {g cap k H : Nat} {o : Obj} (s : DR w1 Dd B cp ua cu v x tl W) (hD : w1.heap.size ≤ Dd) (hDB : Dd ≠ B) (hk : tl.length = k) (hown : W'.ownsRow w1.heap.size 3 1 (.slice (some ⟨g, 0, none⟩) (k + 1) cap) (k + 1) (tl.map (Value.int .i64) ++ [.int .i64 y])) (hg : (W.alloc o).grownBy W' v.ownBlock) (hat : v.ownBlock = some g ∨ g = H) (hH : B < H) (hH2 : Dd < H) :
    DR w1 Dd B cp ua cu (.slice (some ⟨g, 0, none⟩) (k + 1) cap) x (tl ++ [y]) (W'.setCell ⟨Dd, 2, none⟩ (.slice (some ⟨g, 0, none⟩) (k + 1) cap)) := by
  have j' := s.j.app hk hown hg
  have nb : g ≠ B := fun e => by
    rcases hat with h | h
    · exact s.ne (by rw [h, e])
    · omega
  have nd : g ≠ Dd := fun e => by
    rcases hat with h | h
    · exact s.nd (by rw [h, e])
    · omega
  have nb' : Value.ownBlock (.slice (some ⟨g, 0, none⟩) (k + 1) cap) ≠ some B := by show some g ≠ some B; intro e; simp only [Option.some.injEq] at e; exact nb e
  have nd' : Value.ownBlock (.slice (some ⟨g, 0, none⟩) (k + 1) cap) ≠ some Dd := by show some g ≠ some Dd; intro e; simp only [Option.some.injEq] at e; exact nd e
  exact ⟨j'.b.setCell hD _, (s.d.grown hg s.nd).set 2 _, (s.ox.grown hg s.ne).setOther (fun _ => hDB) _ _, j'.set hD nd' _ _, nb', nd'⟩
end

set_option maxHeartbeats 1600000 in
theorem leave_test (w1 : World) (Dd B cp : Nat) (ua : Option Addr) (cu : Nat) (v : Value) (x tl : List Int) (skip : Int) (ga : Option Addr) (gcap : Nat) (gc : Option Addr) (gcap' : Nat) (K : Int) (C D U : List Int) (y P R : Int) (W : World) (s : DR w1 Dd B cp ua cu v x tl W) (iC : Ints W ga 3 C) (iD : Ints W gc 2 D) (iU : Ints W ua 2 U) (hy : atV C D K x U = y)
    (p1 : bndP P C x) (p2 : bndP R D U) (zP : 0 ≤ P) (zQ : 0 ≤ R) (tP : P ≤ 100000000000) (tQ : R ≤ 100000000000) (bK : -10000000 ≤ K ∧ K ≤ 10000000) :
    Calls Tryz.prog 99 #[.pointer (some ⟨Dd, 0, none⟩), .iface 167 (.agg #[.int .i64 skip, .slice ga 3 gcap, .slice gc 2 gcap', .int .i64 K])] W fun e w' => e = .returned (.int .i64 (if y < 0 then skip else 0)) ∧ Below W.heap.size W w' := by
  have h1 := as_testStep_testStep
  have HY : Hid (atV C D K x U = y) := hy
  clear hy
  have al : Below W.heap.size W (W.alloc (.cells #[.int .i64 skip, .slice ga 3 gcap, .slice gc 2 gcap', .int .i64 K] 167)) := (Below.refl _ _).alloc (Nat.le_refl _) _
  have bxa := Cel.new W [.int .i64 skip, .slice ga 3 gcap, .slice gc 2 gcap', .int .i64 K] 167
  have sa := s.below al
  have ia := iC.below al
  have ib := iD.below al
  have iu := iU.below al
  go_enter Tryz.func99, Tryz.ntmps99
  go_upto_region 4 with fail
  obtain ⟨Wa, hWa⟩ : ∃ Wa, Wa = W.alloc (.cells #[.int .i64 skip, .slice ga 3 gcap, .slice gc 2 gcap', .int .i64 K] 167) := ⟨_, rfl⟩
  rw [← hWa] at sa bxa ia ib iu al ⊢
  clear hWa s iC iD iU
  have hn : Wa.cell? ⟨Dd, 0, none⟩ = some (.slice (some ⟨B, 0, none⟩) 3 cp) ∧ Wa.cell? ⟨Dd, 1, none⟩ = some (.slice ua 2 cu) ∧ Wa.cell? ⟨W.heap.size, 1, none⟩ = some (.slice ga 3 gcap) ∧ Wa.cell? ⟨W.heap.size, 2, none⟩ = some (.slice gc 2 gcap') ∧ Wa.cell? ⟨W.heap.size, 3, none⟩ = some (.int .i64 K) := ⟨sa.d.cell 0, sa.d.cell 1, bxa.cell 1, bxa.cell 2, bxa.cell 3⟩
  go_region_held3 (fun w' => w'.cell? ⟨Dd, 0, none⟩ = some (.slice (some ⟨B, 0, none⟩) 3 cp) ∧ w'.cell? ⟨Dd, 1, none⟩ = some (.slice ua 2 cu) ∧ w'.cell? ⟨W.heap.size, 1, none⟩ = some (.slice ga 3 gcap) ∧ w'.cell? ⟨W.heap.size, 2, none⟩ = some (.slice gc 2 gcap') ∧ w'.cell? ⟨W.heap.size, 3, none⟩ = some (.int .i64 K)) (first | with_reducible assumption | exact hn)
    (first
      | (go_at_call 49
         refine (iatG_any _ _ _ _ _ C D _ _ _ _ x U _ (by exact ia.below (Below.refl _ _).drew) (by exact ib.below (Below.refl _ _).drew) (by exact sa.ox.ints.below (Below.refl _ _).drew) (by exact iu.below (Below.refl _ _).drew) P R p1 p2 zP zQ tP tQ bK).mono ?_
         rintro ee w3 ⟨rfl, b3⟩
         rw [HY.out]
         have b3' := below_of_drew b3
         have sd3 := sa.d.below b3'
         have bx3 := bxa.below b3'
         have hn3 : w3.cell? ⟨Dd, 0, none⟩ = some (.slice (some ⟨B, 0, none⟩) 3 cp) ∧ w3.cell? ⟨Dd, 1, none⟩ = some (.slice ua 2 cu) ∧ w3.cell? ⟨W.heap.size, 1, none⟩ = some (.slice ga 3 gcap) ∧ w3.cell? ⟨W.heap.size, 2, none⟩ = some (.slice gc 2 gcap') ∧ w3.cell? ⟨W.heap.size, 3, none⟩ = some (.int .i64 K) := ⟨sd3.cell 0, sd3.cell 1, bx3.cell 1, bx3.cell 2, bx3.cell 3⟩))
  have bb := al.trans (b3'.mono al.size)
  have k0 := bx3.cell 0
  simp only [List.getElem?_cons_zero] at k0
  by_cases hneg : y < 0
  · go_wp2
    go_ret
    exact ⟨rfl, bb⟩
  · go_wp2
    go_ret
    exact ⟨rfl, bb⟩

end Go.Proofs.YtkpnhclaidcbdaaGreat
namespace Go.Proofs.YtkpnhclaidcbdaaGreat
open Go.RowKit
set_option linter.unusedVariables false
set_option maxRecDepth 100000

theorem touch_grown {S : Nat → Prop} {w W W' : World} {row : Option Nat} (h : Touch S w W) (g : W.grownBy W' row) (hr : ∀ k, row = some k → S k) : Touch S w W' :=
  ⟨g.os.trans h.os, g.tape.trans h.tape, g.output.trans h.output, Nat.le_trans h.size g.size, fun k hk hs => (g.block k (Nat.lt_of_lt_of_le hk h.size) (fun e => hs (hr k e.symm))).trans (h.block k hk hs)⟩

set_option maxHeartbeats 3200000 in
theorem leave_add (w1 : World) (Dd B cp : Nat) (ua : Option Addr) (cu : Nat) (v : Value) (x tl : List Int) (pn : Nat) (xp : Int) (ga : Option Addr) (gcap : Nat) (gc : Option Addr) (gcap' : Nat) (K : Int) (C D U : List Int) (y P R : Int) (W : World) (s : DR w1 Dd B cp ua cu v x tl W) (iC : Ints W ga 3 C) (iD : Ints W gc 2 D) (iU : Ints W ua 2 U) (hy : atV C D K x U = y)
    (p1 : bndP P C x) (p2 : bndP R D U) (zP : 0 ≤ P) (zQ : 0 ≤ R) (tP : P ≤ 100000000000) (tQ : R ≤ 100000000000) (bK : -10000000 ≤ K ∧ K ≤ 10000000) (hpn : pn < 3) (hxp : x[pn]?.getD 0 = xp) (r1 : -10000000000 ≤ xp) (r2 : xp ≤ 10000000000) (r3 : -1000000000000 ≤ y) (r4 : y ≤ 1000000000000) (hB : w1.heap.size ≤ B) (hDB : Dd ≠ B) :
    Calls Tryz.prog 99 #[.pointer (some ⟨Dd, 0, none⟩), .iface 169 (.agg #[.int .i64 (pn : Int), .slice ga 3 gcap, .slice gc 2 gcap', .int .i64 K])] W fun e w' => e = .returned (.int .i64 0) ∧ DR w1 Dd B cp ua cu v (x.set pn (xp + y)) tl w' ∧ Touch (fun z => z = B) W w' := by
  have h1 := as_addStep_testStep
  have h2 := as_addStep_addStep
  have HY : Hid (atV C D K x U = y) := hy
  have HXP : Hid (x[pn]?.getD 0 = xp) := hxp
  clear hy hxp
  have hwr : IntKind.i64.wrap (xp + y) = xp + y := wrap_id (by omega) (by omega)
  have hpn' : (pn : Int) < 3 := by omega
  have al : Below W.heap.size W (W.alloc (.cells #[.int .i64 (pn : Int), .slice ga 3 gcap, .slice gc 2 gcap', .int .i64 K] 169)) := (Below.refl _ _).alloc (Nat.le_refl _) _
  have bxa := Cel.new W [.int .i64 (pn : Int), .slice ga 3 gcap, .slice gc 2 gcap', .int .i64 K] 169
  have sa := s.below al
  have ia := iC.below al
  have ib := iD.below al
  have iu := iU.below al
  have lB := s.ox.lt (by omega)
  have lD := s.d.lt
  have cellp : ∀ Z, OwnX Z (some ⟨B, 0, none⟩) B 3 x → Z.cell? ⟨B, pn, none⟩ = some (.int .i64 xp) ∧ Z.frozen? ⟨B, pn, none⟩ = false := fun Z hZ => by
    obtain ⟨_, h1, h2⟩ := hZ.pos (by omega)
    exact ⟨by rw [h1 pn hpn, HXP.out], h2 pn⟩
  have CP : Hid _ := cellp
  clear cellp
  go_enter Tryz.func99, Tryz.ntmps99
  go_upto_region 8 with fail
  obtain ⟨Wa, hWa⟩ : ∃ Wa, Wa = W.alloc (.cells #[.int .i64 (pn : Int), .slice ga 3 gcap, .slice gc 2 gcap', .int .i64 K] 169) := ⟨_, rfl⟩
  rw [← hWa] at sa bxa ia ib iu al ⊢
  clear hWa s iC iD iU
  have zal := al.size
  obtain ⟨ck, fk⟩ := CP.out Wa sa.ox
  have hSS : (Wa.drew.cell? ⟨Dd, 0, none⟩ = some (.slice (some ⟨B, 0, none⟩) 3 cp) ∧ Wa.drew.cell? ⟨Dd, 1, none⟩ = some (.slice ua 2 cu) ∧ Wa.drew.cell? ⟨W.heap.size, 0, none⟩ = some (.int .i64 (pn : Int)) ∧ Wa.drew.cell? ⟨W.heap.size, 1, none⟩ = some (.slice ga 3 gcap) ∧ Wa.drew.cell? ⟨W.heap.size, 2, none⟩ = some (.slice gc 2 gcap') ∧ Wa.drew.cell? ⟨W.heap.size, 3, none⟩ = some (.int .i64 K)) ∧ Wa.drew.cell? ⟨B, pn, none⟩ = some (.int .i64 xp) := ⟨⟨sa.d.cell 0, sa.d.cell 1, bxa.cell 0, bxa.cell 1, bxa.cell 2, bxa.cell 3⟩, ck⟩
  refine wp_region_ends (fun w' => w'.cell? ⟨Dd, 0, none⟩ = some (.slice (some ⟨B, 0, none⟩) 3 cp) ∧ w'.cell? ⟨Dd, 1, none⟩ = some (.slice ua 2 cu) ∧ w'.cell? ⟨W.heap.size, 0, none⟩ = some (.int .i64 (pn : Int)) ∧ w'.cell? ⟨W.heap.size, 1, none⟩ = some (.slice ga 3 gcap) ∧ w'.cell? ⟨W.heap.size, 2, none⟩ = some (.slice gc 2 gcap') ∧ w'.cell? ⟨W.heap.size, 3, none⟩ = some (.int .i64 K)) (fun w' => w'.cell? ⟨B, pn, none⟩ = some (.int .i64 xp)) 20 (by kernel_rfl) ?_
  refine wpAnyE_take0 (i := 0) (v := ?v0) rfl (by kernel_rfl) (by kernel_rfl) (by kernel_rfl) (by decide) (fun _ _ _ h => h) (Or.inl ⟨by rfl, ?hy0⟩) hSS ?_
  case hy0 => (intro wz hSw; (try dsimp only at hSw); go_simp; try (with_reducible rfl))
  refine wpAnyE_take0 (i := 1) (v := ?v1) rfl (by kernel_rfl) (by kernel_rfl) (by kernel_rfl) (by decide) (fun _ _ _ h => h) (Or.inl ⟨by rfl, ?hy1⟩) hSS ?_
  case hy1 => (intro wz hSw; (try dsimp only at hSw); go_simp; try (with_reducible rfl))
  refine wpAnyE_take0 (i := 2) (v := ?v2) rfl (by kernel_rfl) (by kernel_rfl) (by kernel_rfl) (by decide) (fun _ _ _ h => h) (Or.inl ⟨by rfl, ?hy2⟩) hSS ?_
  case hy2 => (intro wz hSw; (try dsimp only at hSw); go_simp; try (with_reducible rfl))
  refine wpAnyE_take0 (i := 3) (v := ?v3) rfl (by kernel_rfl) (by kernel_rfl) (by kernel_rfl) (by decide) (fun _ _ _ h => h) (Or.inl ⟨by rfl, ?hy3⟩) hSS ?_
  case hy3 => (intro wz hSw; (try dsimp only at hSw); go_simp; try (with_reducible rfl))
  refine wpAnyE_take0 (i := 4) (v := ?v4) rfl (by kernel_rfl) (by kernel_rfl) (by kernel_rfl) (by decide) (fun _ _ _ h => h) (Or.inl ⟨by rfl, ?hy4⟩) hSS ?_
  case hy4 => (intro wz hSw; (try dsimp only at hSw); go_simp; try (with_reducible rfl))
  refine wpAnyE_take0 (i := 5) (v := ?v5) rfl (by kernel_rfl) (by kernel_rfl) (by kernel_rfl) (by decide) (fun _ _ _ h => h) (Or.inl ⟨by rfl, ?hy5⟩) hSS ?_
  case hy5 => (intro wz hSw; (try dsimp only at hSw); go_simp; try (with_reducible rfl))
  refine wpAnyE_take0 (i := 6) (v := ?v6) rfl (by kernel_rfl) (by kernel_rfl) (by kernel_rfl) (by decide) (fun _ _ _ h => h) (Or.inl ⟨by rfl, ?hy6⟩) hSS ?_
  case hy6 => (intro wz hSw; (try dsimp only at hSw); go_simp; try (with_reducible rfl))
  refine wpAnyE_take1 (i := 7) (v := ?v7) rfl rfl (by kernel_rfl) (by kernel_rfl) (by kernel_rfl) (by decide) (by rfl) (by simp [Region.binds]) (fun _ _ _ h => h) (Or.inl ⟨by rfl, ?hy7⟩) hSS ?_
  case hy7 => (intro wz hSw; (try dsimp only at hSw); go_simp; try (with_reducible rfl))
  refine wpAnyE_take0 (i := 8) (v := ?v8) rfl (by kernel_rfl) (by kernel_rfl) (by kernel_rfl) (by decide) (fun _ _ _ h => h) (Or.inl ⟨by rfl, ?hy8⟩) hSS ?_
  case hy8 => (intro wz hSw; (try dsimp only at hSw); go_simp; try (with_reducible rfl))
  refine wpAnyE_take0 (i := 9) (v := ?v9) rfl (by kernel_rfl) (by kernel_rfl) (by kernel_rfl) (by decide) (fun _ _ _ h => h) (Or.inl ⟨by rfl, ?hy9⟩) hSS ?_
  case hy9 => (intro wz hSw; (try dsimp only at hSw); go_simp; try (with_reducible rfl))
  refine wpAnyE_take0 (i := 10) (v := ?v10) rfl (by kernel_rfl) (by kernel_rfl) (by kernel_rfl) (by decide) (fun _ _ _ h => h) (Or.inl ⟨by rfl, ?hy10⟩) hSS ?_
  case hy10 => (intro wz hSw; (try dsimp only at hSw); go_simp; try (with_reducible rfl))
  refine wpAnyE_take0 (i := 11) (v := ?v11) rfl (by kernel_rfl) (by kernel_rfl) (by kernel_rfl) (by decide) (fun _ _ _ h => h) (Or.inl ⟨by rfl, ?hy11⟩) hSS ?_
  case hy11 => (intro wz hSw; (try dsimp only at hSw); go_simp; try (with_reducible rfl))
  refine wpAnyE_take0 (i := 12) (v := ?v12) rfl (by kernel_rfl) (by kernel_rfl) (by kernel_rfl) (by decide) (fun _ _ _ h => h) (Or.inl ⟨by rfl, ?hy12⟩) hSS ?_
  case hy12 => (intro wz hSw; (try dsimp only at hSw); go_simp; try (with_reducible rfl))
  refine wpAnyE_take0 (i := 13) (v := ?v13) rfl (by kernel_rfl) (by kernel_rfl) (by kernel_rfl) (by decide) (fun _ _ _ h => h) (Or.inl ⟨by rfl, ?hy13⟩) hSS ?_
  case hy13 => (intro wz hSw; (try dsimp only at hSw); go_simp; try (with_reducible rfl))
  refine wpAnyE_take0 (i := 14) (v := ?v14) rfl (by kernel_rfl) (by kernel_rfl) (by kernel_rfl) (by decide) (fun _ _ _ h => h) (Or.inl ⟨by rfl, ?hy14⟩) hSS ?_
  case hy14 => (intro wz hSw; (try dsimp only at hSw); go_simp; try (with_reducible rfl))
  refine wpAnyE_take0 (i := 15) (v := ?v15) rfl (by kernel_rfl) (by kernel_rfl) (by kernel_rfl) (by decide) (fun _ _ _ h => h) (Or.inl ⟨by rfl, ?hy15⟩) hSS ?_
  case hy15 => (intro wz hSw; (try dsimp only at hSw); go_simp; try (with_reducible rfl))
  refine wpAnyE_take0 (i := 16) (v := ?v16) rfl (by kernel_rfl) (by kernel_rfl) (by kernel_rfl) (by decide) (fun _ _ _ h => h) (Or.inl ⟨by rfl, ?hy16⟩) hSS ?_
  case hy16 => (intro wz hSw; (try dsimp only at hSw); go_simp; try (with_reducible rfl))
  refine wpAnyE_take0 (i := 17) (v := ?v17) rfl (by kernel_rfl) (by kernel_rfl) (by kernel_rfl) (by decide) (fun _ _ _ h => h) (Or.inl ⟨by rfl, ?hy17⟩) hSS ?_
  case hy17 => (intro wz hSw; (try dsimp only at hSw); go_simp; try (with_reducible rfl))
  refine wpAnyE_one (i := 18) (by kernel_rfl) rfl (fun Kn hK => ?_)
  go_simp
  refine (iatG_any _ _ _ _ _ C D _ _ _ _ x U _ (ia.below (Below.refl _ _).drew) (ib.below (Below.refl _ _).drew) (sa.ox.ints.below (Below.refl _ _).drew) (iu.below (Below.refl _ _).drew) P R p1 p2 zP zQ tP tQ bK).mono ?_
  rintro ee w3 ⟨rfl, b3⟩
  rw [HY.out]
  have b3' := below_of_drew b3
  have z3 := b3'.size
  have s3 := sa.below b3'
  have bx3 := bxa.below b3'
  obtain ⟨ck3, fk3⟩ := CP.out w3 s3.ox
  have hSS3 : (w3.cell? ⟨Dd, 0, none⟩ = some (.slice (some ⟨B, 0, none⟩) 3 cp) ∧ w3.cell? ⟨Dd, 1, none⟩ = some (.slice ua 2 cu) ∧ w3.cell? ⟨W.heap.size, 0, none⟩ = some (.int .i64 (pn : Int)) ∧ w3.cell? ⟨W.heap.size, 1, none⟩ = some (.slice ga 3 gcap) ∧ w3.cell? ⟨W.heap.size, 2, none⟩ = some (.slice gc 2 gcap') ∧ w3.cell? ⟨W.heap.size, 3, none⟩ = some (.int .i64 K)) ∧ w3.cell? ⟨B, pn, none⟩ = some (.int .i64 xp) := ⟨⟨s3.d.cell 0, s3.d.cell 1, bx3.cell 0, bx3.cell 1, bx3.cell 2, bx3.cell 3⟩, ck3⟩
  have s4 := s3.set hB hDB hpn (xp + y)
  have bx4 := bx3.setOther (show W.heap.size ≠ B by omega) pn (.int .i64 (xp + y))
  have hSS4 : (w3.setCell ⟨B, pn, none⟩ (.int .i64 (xp + y))).cell? ⟨Dd, 0, none⟩ = some (.slice (some ⟨B, 0, none⟩) 3 cp) ∧ (w3.setCell ⟨B, pn, none⟩ (.int .i64 (xp + y))).cell? ⟨Dd, 1, none⟩ = some (.slice ua 2 cu) ∧ (w3.setCell ⟨B, pn, none⟩ (.int .i64 (xp + y))).cell? ⟨W.heap.size, 0, none⟩ = some (.int .i64 (pn : Int)) ∧ (w3.setCell ⟨B, pn, none⟩ (.int .i64 (xp + y))).cell? ⟨W.heap.size, 1, none⟩ = some (.slice ga 3 gcap) ∧ (w3.setCell ⟨B, pn, none⟩ (.int .i64 (xp + y))).cell? ⟨W.heap.size, 2, none⟩ = some (.slice gc 2 gcap') ∧ (w3.setCell ⟨B, pn, none⟩ (.int .i64 (xp + y))).cell? ⟨W.heap.size, 3, none⟩ = some (.int .i64 K) := ⟨s4.d.cell 0, s4.d.cell 1, bx4.cell 0, bx4.cell 1, bx4.cell 2, bx4.cell 3⟩
  dsimp only
  refine hK.out _ _ ⟨hSS3.1, fun _ => hSS3.2⟩ ?_
  clear hK hSS
  refine wpAnyE_take0 (i := 19) (v := ?v19) rfl (by kernel_rfl) (by kernel_rfl) (by kernel_rfl) (by decide) (fun _ _ _ h => h) (Or.inl ⟨by rfl, ?hy19⟩) hSS3 ?_
  case hy19 => (intro wz hSw; (try dsimp only at hSw); go_simp; try (with_reducible rfl))
  refine wpAnyE_one (i := 20) (by kernel_rfl) rfl (fun Kn hK => ?_)
  go_simp
  refine hK.out _ _ ⟨hSS3.1, fun _ => hSS3.2⟩ ?_
  clear hK
  refine wpAnyE_one (i := 21) (by kernel_rfl) rfl (fun Kn hK => ?_)
  go_simp
  refine hK.out _ _ ⟨hSS4, fun h => absurd (show true = false from h) (by decide)⟩ ?_
  clear hK
  refine wpAnyE_done (by kernel_rfl) ?_ _
  have zz : Touch (fun z => z = B) W (w3.setCell ⟨B, pn, none⟩ (.int .i64 (xp + y))) := Touch.setCell (S := fun z => z = B) ((Touch.of al).trans (Touch.of b3')) rfl _
  clear b3 b3' sa bxa ia ib iu bx3 bx4 hSS3 hSS4 ck fk ck3 fk3 s3 al
  go_wp2
  go_ret
  exact ⟨rfl, s4, zz⟩

set_option maxHeartbeats 3200000 in
theorem leave_tell (w1 : World) (Dd B cp : Nat) (ua : Option Addr) (cu : Nat) (v : Value) (x tl : List Int) (tn : Nat) (ga : Option Addr) (gcap : Nat) (gc : Option Addr) (gcap' : Nat) (K : Int) (C D U : List Int) (y P R : Int) (W : World) (s : DR w1 Dd B cp ua cu v x tl W) (iC : Ints W ga 3 C) (iD : Ints W gc 2 D) (iU : Ints W ua 2 U) (hy : atV C D K x U = y)
    (p1 : bndP P C x) (p2 : bndP R D U) (zP : 0 ≤ P) (zQ : 0 ≤ R) (tP : P ≤ 100000000000) (tQ : R ≤ 100000000000) (bK : -10000000 ≤ K ∧ K ≤ 10000000) (htn : tl.length = tn) (ht6 : tn ≤ 100) (hB : w1.heap.size ≤ B) (hD : w1.heap.size ≤ Dd) (hDB : Dd ≠ B) :
    Calls Tryz.prog 99 #[.pointer (some ⟨Dd, 0, none⟩), .iface 171 (.agg #[.slice ga 3 gcap, .slice gc 2 gcap', .int .i64 K])] W fun e w' => e = .returned (.int .i64 0) ∧ (∃ v', DR w1 Dd B cp ua cu v' x (tl ++ [y]) w' ∧ ∀ F, F < W.heap.size → v.ownBlock ≠ some F → v'.ownBlock ≠ some F) ∧ Touch (fun z => z = Dd ∨ v.ownBlock = some z) W w' := by
  have h1 := as_printStep_testStep
  have h2 := as_printStep_addStep
  have h3 := as_printStep_printStep
  obtain ⟨i0, hi, hz0, hz1, hz2⟩ := info_parts Tryz.infoInt
  have HY : Hid (atV C D K x U = y) := hy
  have HTN : Hid (tl.length = tn) := htn
  clear hy htn
  have al : Below W.heap.size W (W.alloc (.cells #[.slice ga 3 gcap, .slice gc 2 gcap', .int .i64 K] 171)) := (Below.refl _ _).alloc (Nat.le_refl _) _
  have bxa := Cel.new W [.slice ga 3 gcap, .slice gc 2 gcap', .int .i64 K] 171
  have sa := s.below al
  have ia := iC.below al
  have ib := iD.below al
  have iu := iU.below al
  have lB := s.ox.lt (by omega)
  have lD := s.d.lt
  have lv : ∀ z, v.ownBlock = some z → z < W.heap.size := fun z hz => (s.j.o.lt z hz).2
  have HLV : Hid _ := lv
  clear lv
  go_enter Tryz.func99, Tryz.ntmps99
  go_upto_region 11 with fail
  obtain ⟨Wa, hWa⟩ : ∃ Wa, Wa = W.alloc (.cells #[.slice ga 3 gcap, .slice gc 2 gcap', .int .i64 K] 171) := ⟨_, rfl⟩
  rw [← hWa] at sa bxa ia ib iu al ⊢
  clear hWa s iC iD iU
  have zal := al.size
  have hSS : (Wa.drew.cell? ⟨Dd, 0, none⟩ = some (.slice (some ⟨B, 0, none⟩) 3 cp) ∧ Wa.drew.cell? ⟨Dd, 1, none⟩ = some (.slice ua 2 cu) ∧ Wa.drew.cell? ⟨W.heap.size, 0, none⟩ = some (.slice ga 3 gcap) ∧ Wa.drew.cell? ⟨W.heap.size, 1, none⟩ = some (.slice gc 2 gcap') ∧ Wa.drew.cell? ⟨W.heap.size, 2, none⟩ = some (.int .i64 K)) ∧ Wa.drew.cell? ⟨Dd, 2, none⟩ = some v := ⟨⟨sa.d.cell 0, sa.d.cell 1, bxa.cell 0, bxa.cell 1, bxa.cell 2⟩, sa.d.cell 2⟩
  refine wp_region_ends (fun w' => w'.cell? ⟨Dd, 0, none⟩ = some (.slice (some ⟨B, 0, none⟩) 3 cp) ∧ w'.cell? ⟨Dd, 1, none⟩ = some (.slice ua 2 cu) ∧ w'.cell? ⟨W.heap.size, 0, none⟩ = some (.slice ga 3 gcap) ∧ w'.cell? ⟨W.heap.size, 1, none⟩ = some (.slice gc 2 gcap') ∧ w'.cell? ⟨W.heap.size, 2, none⟩ = some (.int .i64 K)) (fun w' => w'.cell? ⟨Dd, 2, none⟩ = some v) 18 (by kernel_rfl) ?_
  refine wpAnyE_take0 (i := 0) (v := ?v0) rfl (by kernel_rfl) (by kernel_rfl) (by kernel_rfl) (by decide) (fun _ _ _ h => h) (Or.inl ⟨by rfl, ?hy0⟩) hSS ?_
  case hy0 => (intro wz hSw; (try dsimp only at hSw); go_simp; try (with_reducible rfl))
  refine wpAnyE_take0 (i := 1) (v := ?v1) rfl (by kernel_rfl) (by kernel_rfl) (by kernel_rfl) (by decide) (fun _ _ _ h => h) (Or.inl ⟨by rfl, ?hy1⟩) hSS ?_
  case hy1 => (intro wz hSw; (try dsimp only at hSw); go_simp; try (with_reducible rfl))
  refine wpAnyE_take0 (i := 2) (v := ?v2) rfl (by kernel_rfl) (by kernel_rfl) (by kernel_rfl) (by decide) (fun _ _ _ h => h) (Or.inl ⟨by rfl, ?hy2⟩) hSS ?_
  case hy2 => (intro wz hSw; (try dsimp only at hSw); go_simp; try (with_reducible rfl))
  refine wpAnyE_take0 (i := 3) (v := ?v3) rfl (by kernel_rfl) (by kernel_rfl) (by kernel_rfl) (by decide) (fun _ _ _ h => h) (Or.inl ⟨by rfl, ?hy3⟩) hSS ?_
  case hy3 => (intro wz hSw; (try dsimp only at hSw); go_simp; try (with_reducible rfl))
  refine wpAnyE_take1 (i := 4) (v := ?v4) rfl rfl (by kernel_rfl) (by kernel_rfl) (by kernel_rfl) (by decide) (by rfl) (by simp [Region.binds]) (fun _ _ _ h => h) (Or.inl ⟨by rfl, ?hy4⟩) hSS ?_
  case hy4 => (intro wz hSw; (try dsimp only at hSw); go_simp; try (with_reducible rfl))
  refine wpAnyE_take0 (i := 5) (v := ?v5) rfl (by kernel_rfl) (by kernel_rfl) (by kernel_rfl) (by decide) (fun _ _ _ h => h) (Or.inl ⟨by rfl, ?hy5⟩) hSS ?_
  case hy5 => (intro wz hSw; (try dsimp only at hSw); go_simp; try (with_reducible rfl))
  refine wpAnyE_take0 (i := 6) (v := ?v6) rfl (by kernel_rfl) (by kernel_rfl) (by kernel_rfl) (by decide) (fun _ _ _ h => h) (Or.inl ⟨by rfl, ?hy6⟩) hSS ?_
  case hy6 => (intro wz hSw; (try dsimp only at hSw); go_simp; try (with_reducible rfl))
  refine wpAnyE_take0 (i := 7) (v := ?v7) rfl (by kernel_rfl) (by kernel_rfl) (by kernel_rfl) (by decide) (fun _ _ _ h => h) (Or.inl ⟨by rfl, ?hy7⟩) hSS ?_
  case hy7 => (intro wz hSw; (try dsimp only at hSw); go_simp; try (with_reducible rfl))
  refine wpAnyE_take0 (i := 8) (v := ?v8) rfl (by kernel_rfl) (by kernel_rfl) (by kernel_rfl) (by decide) (fun _ _ _ h => h) (Or.inl ⟨by rfl, ?hy8⟩) hSS ?_
  case hy8 => (intro wz hSw; (try dsimp only at hSw); go_simp; try (with_reducible rfl))
  refine wpAnyE_take0 (i := 9) (v := ?v9) rfl (by kernel_rfl) (by kernel_rfl) (by kernel_rfl) (by decide) (fun _ _ _ h => h) (Or.inl ⟨by rfl, ?hy9⟩) hSS ?_
  case hy9 => (intro wz hSw; (try dsimp only at hSw); go_simp; try (with_reducible rfl))
  refine wpAnyE_take0 (i := 10) (v := ?v10) rfl (by kernel_rfl) (by kernel_rfl) (by kernel_rfl) (by decide) (fun _ _ _ h => h) (Or.inl ⟨by rfl, ?hy10⟩) hSS ?_
  case hy10 => (intro wz hSw; (try dsimp only at hSw); go_simp; try (with_reducible rfl))
  refine wpAnyE_take0 (i := 11) (v := ?v11) rfl (by kernel_rfl) (by kernel_rfl) (by kernel_rfl) (by decide) (fun _ _ _ h => h) (Or.inl ⟨by rfl, ?hy11⟩) hSS ?_
  case hy11 => (intro wz hSw; (try dsimp only at hSw); go_simp; try (with_reducible rfl))
  refine wpAnyE_take0 (i := 12) (v := ?v12) rfl (by kernel_rfl) (by kernel_rfl) (by kernel_rfl) (by decide) (fun _ _ _ h => h) (Or.inl ⟨by rfl, ?hy12⟩) hSS ?_
  case hy12 => (intro wz hSw; (try dsimp only at hSw); go_simp; try (with_reducible rfl))
  refine wpAnyE_take0 (i := 13) (v := ?v13) rfl (by kernel_rfl) (by kernel_rfl) (by kernel_rfl) (by decide) (fun _ _ _ h => h) (Or.inl ⟨by rfl, ?hy13⟩) hSS ?_
  case hy13 => (intro wz hSw; (try dsimp only at hSw); go_simp; try (with_reducible rfl))
  refine wpAnyE_take0 (i := 14) (v := ?v14) rfl (by kernel_rfl) (by kernel_rfl) (by kernel_rfl) (by decide) (fun _ _ _ h => h) (Or.inl ⟨by rfl, ?hy14⟩) hSS ?_
  case hy14 => (intro wz hSw; (try dsimp only at hSw); go_simp; try (with_reducible rfl))
  refine wpAnyE_one (i := 15) (by kernel_rfl) rfl (fun Kn hK => ?_)
  go_simp
  refine (iatG_any _ _ _ _ _ C D _ _ _ _ x U _ (ia.below (Below.refl _ _).drew) (ib.below (Below.refl _ _).drew) (sa.ox.ints.below (Below.refl _ _).drew) (iu.below (Below.refl _ _).drew) P R p1 p2 zP zQ tP tQ bK).mono ?_
  rintro ee w3 ⟨rfl, b3⟩
  rw [HY.out]
  have b3' := below_of_drew b3
  have z3 := b3'.size
  have s3 := sa.below b3'
  have bx3 := bxa.below b3'
  have jo := s3.j.o
  rw [HTN.out] at jo
  have hjb := s3.j.b.size
  have s3a := s3.alloc (.cells #[.int .i64 y] 3)
  have bx3a := bx3.alloc (.cells #[.int .i64 y] 3)
  have hSS3 : (w3.cell? ⟨Dd, 0, none⟩ = some (.slice (some ⟨B, 0, none⟩) 3 cp) ∧ w3.cell? ⟨Dd, 1, none⟩ = some (.slice ua 2 cu) ∧ w3.cell? ⟨W.heap.size, 0, none⟩ = some (.slice ga 3 gcap) ∧ w3.cell? ⟨W.heap.size, 1, none⟩ = some (.slice gc 2 gcap') ∧ w3.cell? ⟨W.heap.size, 2, none⟩ = some (.int .i64 K)) ∧ w3.cell? ⟨Dd, 2, none⟩ = some v := ⟨⟨s3.d.cell 0, s3.d.cell 1, bx3.cell 0, bx3.cell 1, bx3.cell 2⟩, s3.d.cell 2⟩
  have hSS4 : ((w3.alloc (.cells #[.int .i64 y] 3)).cell? ⟨Dd, 0, none⟩ = some (.slice (some ⟨B, 0, none⟩) 3 cp) ∧ (w3.alloc (.cells #[.int .i64 y] 3)).cell? ⟨Dd, 1, none⟩ = some (.slice ua 2 cu) ∧ (w3.alloc (.cells #[.int .i64 y] 3)).cell? ⟨W.heap.size, 0, none⟩ = some (.slice ga 3 gcap) ∧ (w3.alloc (.cells #[.int .i64 y] 3)).cell? ⟨W.heap.size, 1, none⟩ = some (.slice gc 2 gcap') ∧ (w3.alloc (.cells #[.int .i64 y] 3)).cell? ⟨W.heap.size, 2, none⟩ = some (.int .i64 K)) ∧ (w3.alloc (.cells #[.int .i64 y] 3)).cell? ⟨Dd, 2, none⟩ = some v := ⟨⟨s3a.d.cell 0, s3a.d.cell 1, bx3a.cell 0, bx3a.cell 1, bx3a.cell 2⟩, s3a.d.cell 2⟩
  dsimp only
  refine hK.out _ _ ⟨hSS3.1, fun _ => hSS3.2⟩ ?_
  clear hK hSS
  refine wpAnyE_one (i := 16) (by kernel_rfl) rfl (fun Kn hK => ?_)
  go_simp
  refine hK.out _ _ ⟨hSS4.1, fun _ => hSS4.2⟩ ?_
  clear hK
  refine wpAnyE_one (i := 17) (by kernel_rfl) rfl (fun Kn hK => ?_)
  refine step_append_lies _ (by rfl) _ _ _ (by rfl) w1.heap.size 3 i0 (.int .i64 0) 1 8 Tryz.underlying24 hi hz0 hz1 hz2 rfl (by decide) v tn (tl.map (Value.int .i64)) (by rfl) (jo.alloc _) ⟨w3.heap.size, 0, none⟩ 1 1 [.int .i64 y] (by rfl) rfl (news1 _ _ _) (one1 _ _) (by omega) (by unfold maxLen; omega) (by omega) (by rw [World.size_alloc]; omega) _ rfl ?_
  intro g4 cp4 w4 hown hgrow hat hlt4
  have d4 := s3.d.grown hgrow s3.nd
  have bx4 := bx3.grown hgrow (fun e => by have := HLV.out _ e; omega)
  have fd4 := d4.free 2
  have cd4 := d4.cell 2
  simp only [List.getElem?_cons_zero, List.getElem?_cons_succ] at cd4
  have s5 := s3.app hD hDB HTN.out hown hgrow hat (by rw [World.size_alloc]; omega) (by rw [World.size_alloc]; omega)
  have bx5 := bx4.setOther (show W.heap.size ≠ Dd by omega) 2 (.slice (some ⟨g4, 0, none⟩) (tn + 1) cp4)
  have hSS5 : (w4.cell? ⟨Dd, 0, none⟩ = some (.slice (some ⟨B, 0, none⟩) 3 cp) ∧ w4.cell? ⟨Dd, 1, none⟩ = some (.slice ua 2 cu) ∧ w4.cell? ⟨W.heap.size, 0, none⟩ = some (.slice ga 3 gcap) ∧ w4.cell? ⟨W.heap.size, 1, none⟩ = some (.slice gc 2 gcap') ∧ w4.cell? ⟨W.heap.size, 2, none⟩ = some (.int .i64 K)) ∧ w4.cell? ⟨Dd, 2, none⟩ = some v := ⟨⟨d4.cell 0, d4.cell 1, bx4.cell 0, bx4.cell 1, bx4.cell 2⟩, cd4⟩
  have hSS6 : (w4.setCell ⟨Dd, 2, none⟩ (.slice (some ⟨g4, 0, none⟩) (tn + 1) cp4)).cell? ⟨Dd, 0, none⟩ = some (.slice (some ⟨B, 0, none⟩) 3 cp) ∧ (w4.setCell ⟨Dd, 2, none⟩ (.slice (some ⟨g4, 0, none⟩) (tn + 1) cp4)).cell? ⟨Dd, 1, none⟩ = some (.slice ua 2 cu) ∧ (w4.setCell ⟨Dd, 2, none⟩ (.slice (some ⟨g4, 0, none⟩) (tn + 1) cp4)).cell? ⟨W.heap.size, 0, none⟩ = some (.slice ga 3 gcap) ∧ (w4.setCell ⟨Dd, 2, none⟩ (.slice (some ⟨g4, 0, none⟩) (tn + 1) cp4)).cell? ⟨W.heap.size, 1, none⟩ = some (.slice gc 2 gcap') ∧ (w4.setCell ⟨Dd, 2, none⟩ (.slice (some ⟨g4, 0, none⟩) (tn + 1) cp4)).cell? ⟨W.heap.size, 2, none⟩ = some (.int .i64 K) := ⟨s5.d.cell 0, s5.d.cell 1, bx5.cell 0, bx5.cell 1, bx5.cell 2⟩
  have zz : Touch (fun z => z = Dd ∨ v.ownBlock = some z) W (w4.setCell ⟨Dd, 2, none⟩ (.slice (some ⟨g4, 0, none⟩) (tn + 1) cp4)) :=
    Touch.setCell (S := fun z => z = Dd ∨ v.ownBlock = some z) (touch_grown (((Touch.of al).trans (Touch.of b3')).trans (Touch.of ((Below.refl _ _).alloc (Nat.le_refl _) _))) hgrow (fun z hz => .inr hz)) (.inl rfl) _
  have nf : ∀ F, F < W.heap.size → v.ownBlock ≠ some F → Value.ownBlock (.slice (some ⟨g4, 0, none⟩) (tn + 1) cp4) ≠ some F := fun F hF hne e => by
    have e' : g4 = F := by
      have : some g4 = some F := e
      simpa using this
    rcases hat with h | h
    · exact hne (by rw [h, e'])
    · rw [World.size_alloc] at h; omega
  refine hK.out _ _ ⟨hSS5.1, fun _ => hSS5.2⟩ ?_
  clear hK
  refine wpAnyE_one (i := 18) (by kernel_rfl) rfl (fun Kn hK => ?_)
  go_simp
  refine hK.out _ _ ⟨hSS5.1, fun _ => hSS5.2⟩ ?_
  clear hK
  refine wpAnyE_one (i := 19) (by kernel_rfl) rfl (fun Kn hK => ?_)
  go_simp
  refine hK.out _ _ ⟨hSS5.1, fun _ => hSS5.2⟩ ?_
  clear hK
  refine wpAnyE_one (i := 20) (by kernel_rfl) rfl (fun Kn hK => ?_)
  go_simp
  refine hK.out _ _ ⟨hSS6, fun h => absurd (show true = false from h) (by decide)⟩ ?_
  clear hK
  refine wpAnyE_done (by kernel_rfl) ?_ _
  clear b3 b3' sa bxa ia ib iu bx3 bx4 bx5 hSS3 hSS4 hSS5 hSS6 s3 s3a bx3a al d4 fd4 cd4 hown hgrow jo
  go_wp2
  go_ret
  exact ⟨rfl, ⟨_, s5, nf⟩, zz⟩

end Go.Proofs.YtkpnhclaidcbdaaGreat
namespace Go.Proofs.YtkpnhclaidcbdaaGreat
open Go.RowKit
set_option linter.unusedVariables false
set_option maxRecDepth 100000

theorem as_nil_sign (w : World) : (Instr.typeAssert .nilIface 20 142 true).run Tryz.prog w = .ok (.tuple #[.agg #[], .bool false]) w := by kernel_rfl
theorem as_sign_sign (w : World) : (Instr.typeAssert (.iface 142 (.agg #[])) 20 142 true).run Tryz.prog w = .ok (.tuple #[.agg #[], .bool true]) w := by kernel_rfl
theorem ne_nil_nil (w : World) : (binOp .neq 20 .nilIface .nilIface).run Tryz.prog w = .ok (.bool false) w := by kernel_rfl
theorem ne_sign_nil (w : World) : (binOp .neq 20 (.iface 142 (.agg #[])) .nilIface).run Tryz.prog w = .ok (.bool true) w := by kernel_rfl

theorem catch_idle (F : Nat) (b : Bool) (w : World) (hc : w.cell? ⟨F, 0, none⟩ = some (.bool b)) (hz : w.frozen? ⟨F, 0, none⟩ = false) :
    CallsD Tryz.prog 98 #[.pointer (some ⟨F, 0, none⟩)] .returning w fun e u' w' => e = .returned (.tuple #[]) ∧ u' = .returning ∧ w' = w.setCell ⟨F, 0, none⟩ (.bool false) := by
  have h1 := as_nil_sign
  have h2 := ne_nil_nil
  refine callsD_of_wpS Tryz.func98 rfl fun c₀ cs hu => ?_
  apply wpS_seq
  apply wpS_region
  simp [wpOpsS, go_sem, recoverD, hu, Tryz.ntmps98, Exit.thenS]
  refine wpS_of_wp ?_
  go_wp2
  cases c₀
  simp_all [bodyPostS, results, Tryz.results98]

set_option maxHeartbeats 1600000 in
theorem catch_stop (F : Nat) (b : Bool) (older : List PanicEntry) (w : World) (hc : w.cell? ⟨F, 0, none⟩ = some (.bool b)) (hz : w.frozen? ⟨F, 0, none⟩ = false) :
    CallsD Tryz.prog 98 #[.pointer (some ⟨F, 0, none⟩)] (.panicking ({ v := .iface 142 (.agg #[]), recovered := false } :: older)) w fun e u' w' => e = .returned (.tuple #[]) ∧ u' = .panicking ({ v := .iface 142 (.agg #[]), recovered := true } :: older) ∧ w' = w.setCell ⟨F, 0, none⟩ (.bool true) := by
  have h1 := as_sign_sign
  have h2 := ne_sign_nil
  refine callsD_of_wpS Tryz.func98 rfl fun c₀ cs hu => ?_
  apply wpS_seq
  apply wpS_region
  simp [wpOpsS, go_sem, recoverD, hu, Tryz.ntmps98, Exit.thenS]
  refine wpS_of_wp ?_
  go_wp2
  simp [bodyPostS, results, Tryz.results98]

theorem DR.other {w1 W : World} {Dd B cp : Nat} {ua : Option Addr} {cu : Nat} {v : Value} {x tl : List Int} (s : DR w1 Dd B cp ua cu v x tl W) {F : Nat} (h1 : w1.heap.size ≤ F) (h2 : Dd ≠ F) (h3 : F ≠ B) (nF : v.ownBlock ≠ some F) (i : Nat) (y : Value) : DR w1 Dd B cp ua cu v x tl (W.setCell ⟨F, i, none⟩ y) :=
  ⟨s.b.setCell h1 _, s.d.setOther h2 _ _, s.ox.setOther (fun _ => h3) _ _, s.j.set h1 nF _ _, s.ne, s.nd⟩

set_option maxHeartbeats 6400000 in
theorem stops_any (w1 : World) (Dd B cp : Nat) (ua : Option Addr) (cu : Nat) (v : Value) (ad : Option Addr) (N : Nat) (ls : List LV) (V U : List Int) (sa : Option Addr) (scap G : Nat) (W : World)
    (hN : ls.length = N) (h6 : N ≤ 6) (hF : LinesG w1 ad ls) (hall : ls.all LV.ok = true) (hsa : 0 < N → sa = some ⟨G, 0, none⟩) (hst : ∀ i, i < N → w1.cell? ⟨G, i, none⟩ = some (stepV (ls[i]?.getD noLV))) (iU : Ints w1 ua 2 U) (bU : bnd 9 U) (bV : bnd 10000 V) (hVL : V.length = 3)
    (s0 : DR w1 Dd B cp ua cu v V [] W) (hB : w1.heap.size ≤ B) (hD : w1.heap.size ≤ Dd) (hDB : Dd ≠ B) :
    Calls Tryz.prog 54 #[.pointer (some ⟨Dd, 0, none⟩), .slice sa N scap] W fun e w' => e = .returned (.bool (runL U ls V).1) ∧ Below w1.heap.size w1 w' ∧ ((runL U ls V).1 = false → ∃ v' , DR w1 Dd B cp ua cu v' (runL U ls V).2.1 (runL U ls V).2.2 w' ∧ (runL U ls V).2.2.length ≤ 100) := by
  have HN : Hid (ls.length = N) := hN
  have HO : Hid (ls.all LV.ok = true) := hall
  have HST : Hid _ := hst
  have HSA : Hid _ := hsa
  clear hN hall hst hsa
  have hmf : ∀ (fn : Fn) (first cap : Array Value) (w : World), (Instr.makeFunc fn first cap).run Tryz.prog w = .ok (.func fn first cap) w := fun _ _ _ _ => rfl
  have sF := s0.alloc (.cells #[.bool false] 4)
  have cF := Cel.new W [.bool false] 4
  have nF : v.ownBlock ≠ some W.heap.size := fun e => by have := (s0.j.o.lt _ e).2; omega
  have lB := s0.ox.lt (by omega)
  have lD := s0.d.lt
  have HAT : Hid (At U ls V 0 V []) := At.start bV hVL
  clear s0
  go_enter_defers Tryz.func54, Tryz.ntmps54
  go_wp2_with fail
  go_loopw [5] (fun i wr => ∃ (k : Nat) (x tl : List Int) (v' : Value), k ≤ 12 ∧ i = .int .i64 k ∧ At U ls V k x tl ∧ DR w1 Dd B cp ua cu v' x tl wr ∧ Cel wr W.heap.size [.bool false] 4 ∧ v'.ownBlock ≠ some W.heap.size) (fun i _ => N - (intOf i).toNat)
  case atStart => exact ⟨0, V, [], v, by omega, rfl, HAT.out, sF, cF, nF⟩
  case round =>
    clear sF cF nF HAT
    obtain ⟨k, x, tl, v', hk12, rfl, hAt, s, cF, nF⟩ := hrel
    have HAT : Hid (At U ls V k x tl) := hAt
    clear hAt
    have c0 := cF.cell 0
    have f0 := cF.free 0
    simp only [List.getElem?_cons_zero] at c0
    have zw := s.b.size
    have z1 : w1.heap.size ≤ W.heap.size := by omega
    by_cases hlt : k < N
    · obtain ⟨b, off, rfl, hc, hAtL⟩ := (hF.below s.b) k (by rw [HN.out]; exact hlt)
      have hok := allL_at (k := k) HO.out (by rw [HN.out]; exact hlt)
      have hkl : Hid (k < ls.length) := by show k < ls.length; rw [HN.out]; exact hlt
      have h6l : Hid (ls.length ≤ 6) := by show ls.length ≤ 6; rw [HN.out]; exact h6
      have bX := HAT.out.b (by omega)
      have bd6 := bd_six (n := k) (by omega)
      have bdp := bd_pos k
      obtain rfl := HSA.out (by omega)
      have hstep : wr.cell? ⟨G, k, none⟩ = some (stepV (ls[k]?.getD noLV)) := by
        have h0 := HST.out k hlt
        rw [s.b.cell (p := ⟨G, k, none⟩) (block_lt h0)]; exact h0
      generalize HG : ls[k]?.getD noLV = g at *
      have HG' : Hid (ls[k]?.getD noLV = g) := HG
      clear HG hc
      obtain ⟨gk, gp, gz, ⟨ga, gn, gcap, gc, gm, gcap', gK, gC, gD⟩⟩ := g
      obtain ⟨iC, iD, hn, hm⟩ := hAtL
      simp only at iC iD hn hm
      have iUr := iU.below s.b
      have hok' : lineB gk gp gz gn gm gC gD gK = true := hok
      clear hok
      by_cases hk1 : gk = 1
      · subst hk1
        obtain ⟨z1', z2', hsm⟩ := line_one hok'
        obtain ⟨rfl, rfl, bC, bD, bK1, bK2⟩ := small_elim hsm
        obtain ⟨q1, q2, q3, q4⟩ := small_at bC bD bK1 bK2 bX bU (by omega)
        obtain ⟨y, hy⟩ : ∃ y, atV gC gD gK x U = y := ⟨_, rfl⟩
        have HY : Hid (atV gC gD gK x U = y) := hy
        have HS : Hid (∀ j, (j = if y < 0 then k + 1 + gz.toNat else k + 1) → At U ls V j x tl) := fun j hj => HAT.out.skip hkl.out h6l.out HG'.out rfl (by rw [hj, ← hy]; rfl)
        have hstep' : wr.cell? ⟨G, k, none⟩ = some (.iface 167 (.agg #[.int .i64 gz, .slice ga 3 gcap, .slice gc 2 gcap', .int .i64 gK])) := by rw [hstep]; rfl
        clear hy hok' hsm bX q3 q4 hstep
        by_cases hneg : y < 0
        · go_wp2_with fail
          refine (leave_test w1 Dd B cp ua cu v' x tl _ _ _ _ _ _ gC gD U y _ _ _ s iC iD iUr HY.out q1 q2 (by omega) (by omega) (by omega) (by omega) ⟨by omega, by omega⟩).mono ?_
          rintro e w3 ⟨rfl, b3⟩
          rw [if_pos hneg]
          have s3 := s.below b3
          have cF3 := cF.below b3
          clear b3 s iC iD iUr q1 q2 c0 f0 cF hstep'
          go_wp2
          go_roundw
          case rel => exact ⟨k + 1 + gz.toNat, x, tl, v', by omega, by go_num, HS.out _ (by rw [if_pos hneg]), s3, cF3, nF⟩
          case measure => simp [intOf]; omega
        · go_wp2_with fail
          refine (leave_test w1 Dd B cp ua cu v' x tl _ _ _ _ _ _ gC gD U y _ _ _ s iC iD iUr HY.out q1 q2 (by omega) (by omega) (by omega) (by omega) ⟨by omega, by omega⟩).mono ?_
          rintro e w3 ⟨rfl, b3⟩
          rw [if_neg (by omega)]
          have s3 := s.below b3
          have cF3 := cF.below b3
          clear b3 s iC iD iUr q1 q2 c0 f0 cF hstep'
          go_wp2
          go_roundw
          case rel => exact ⟨k + 1, x, tl, v', by omega, by go_num, HS.out _ (by rw [if_neg (by omega)]), s3, cF3, nF⟩
          case measure => simp [intOf]; omega
      by_cases hk2 : gk = 2
      · subst hk2
        obtain ⟨z1', z2', hsm⟩ := line_two hok'
        obtain ⟨rfl, rfl, bC, bD, bK1, bK2⟩ := small_elim hsm
        obtain ⟨q1, q2, q3, q4⟩ := small_at bC bD bK1 bK2 bX bU (by omega)
        obtain ⟨pn, rfl⟩ := Int.eq_ofNat_of_zero_le z1'
        have hpn : pn < 3 := by omega
        obtain ⟨xp, hxp⟩ : ∃ xp, x[pn]?.getD 0 = xp := ⟨_, rfl⟩
        have HXP : Hid (x[pn]?.getD 0 = xp) := hxp
        obtain ⟨r1, r2⟩ := bX pn
        rw [hxp] at r1 r2
        obtain ⟨y, hy⟩ : ∃ y, atV gC gD gK x U = y := ⟨_, rfl⟩
        have HY : Hid (atV gC gD gK x U = y) := hy
        rw [hy] at q3 q4
        have HS : Hid (At U ls V (k + 1) (x.set pn (xp + y)) tl) := by
          have := HAT.out.add hkl.out h6l.out HG'.out rfl (by show _ ≤ atV gC gD gK x U; rw [hy]; omega) (by show atV gC gD gK x U ≤ _; rw [hy]; omega)
          simp only [Int.toNat_natCast, hxp] at this
          rw [show atF x U ⟨ga, 3, gcap, gc, 2, gcap', gK, gC, gD⟩ = y from hy] at this
          exact this
        have hstep' : wr.cell? ⟨G, k, none⟩ = some (.iface 169 (.agg #[.int .i64 (pn : Int), .slice ga 3 gcap, .slice gc 2 gcap', .int .i64 gK])) := by rw [hstep]; rfl
        clear hy hxp hok' hsm bX hstep
        go_wp2_with fail
        refine (leave_add w1 Dd B cp ua cu v' x tl pn xp _ _ _ _ _ gC gD U y _ _ _ s iC iD iUr HY.out q1 q2 (by omega) (by omega) (by omega) (by omega) ⟨by omega, by omega⟩ hpn HXP.out (by omega) (by omega) (by omega) (by omega) hB hDB).mono ?_
        rintro e w3 ⟨rfl, s3, t3⟩
        have cF3 := cF.touch t3 (fun e => by omega)
        clear t3 s iC iD iUr q1 q2 c0 f0 cF hstep'
        go_wp2
        go_roundw
        case rel => exact ⟨k + 1, _, tl, v', by omega, by go_num, HS.out, s3, cF3, nF⟩
        case measure => simp [intOf]; omega
      by_cases hk3 : gk = 3
      · subst hk3
        have hsm := line_three hok'
        obtain ⟨rfl, rfl, bC, bD, bK1, bK2⟩ := small_elim hsm
        obtain ⟨q1, q2, q3, q4⟩ := small_at bC bD bK1 bK2 bX bU (by omega)
        obtain ⟨y, hy⟩ : ∃ y, atV gC gD gK x U = y := ⟨_, rfl⟩
        have HY : Hid (atV gC gD gK x U = y) := hy
        have HS : Hid (At U ls V (k + 1) x (tl ++ [y])) := by
          have := HAT.out.tell hkl.out h6l.out HG'.out rfl
          rw [show atF x U ⟨ga, 3, gcap, gc, 2, gcap', gK, gC, gD⟩ = y from hy] at this
          exact this
        have ht := HAT.out.t
        have hstep' : wr.cell? ⟨G, k, none⟩ = some (.iface 171 (.agg #[.slice ga 3 gcap, .slice gc 2 gcap', .int .i64 gK])) := by rw [hstep]; rfl
        have lF := cF.lt
        clear hy hok' hsm bX q3 q4 hstep
        go_wp2_with fail
        refine (leave_tell w1 Dd B cp ua cu v' x tl tl.length _ _ _ _ _ gC gD U y _ _ _ s iC iD iUr HY.out q1 q2 (by omega) (by omega) (by omega) (by omega) ⟨by omega, by omega⟩ rfl (by omega) hB hD hDB).mono ?_
        rintro e w3 ⟨rfl, ⟨v2, s3, nf⟩, t3⟩
        have cF3 := cF.touch t3 (fun e => by
          rcases e with e | e
          · omega
          · exact nF e)
        have nF3 := nf _ lF nF
        clear t3 s iC iD iUr q1 q2 c0 f0 cF hstep' nf
        go_wp2
        go_roundw
        case rel => exact ⟨k + 1, x, tl ++ [y], v2, by omega, by go_num, HS.out, s3, cF3, nF3⟩
        case measure => simp [intOf]; omega
      have hk4 : gk = 4 := by
        apply Classical.byContradiction
        intro h4
        simp [lineB, hk1, hk2, hk3, h4] at hok'
      subst hk4
      have hstop : (runL U ls V).1 = true := HAT.out.stop hkl.out h6l.out HG'.out hk1 hk2 hk3
      have HSTOP : Hid ((runL U ls V).1 = true) := hstop
      have hstep' : wr.cell? ⟨G, k, none⟩ = some (.iface 172 (.agg #[])) := by rw [hstep]; rfl
      clear hstop hstep hok' bX
      go_wp2_with fail
      refine (leave_stop _ _).mono ?_
      rintro e w3 ⟨rfl, b3⟩
      have s3 := s.below b3
      have cF3 := cF.below b3
      clear b3 s cF c0 f0
      go_wp2
      refine leaves_cons (f := 98) (args := #[.pointer (some ⟨W.heap.size, 0, none⟩)]) (by simp) (by simp [go_sem]) ?_
      refine (catch_stop W.heap.size false [] _ (cF3.cell 0) (cF3.free 0)).mono ?_
      rintro e u' w'' ⟨rfl, rfl, rfl⟩
      have cF4 := (cF3.set 0 (.bool true)).cell 0
      simp only [List.set_cons_zero, List.getElem?_cons_zero] at cF4
      have b4 : Below w1.heap.size w1 (w3.setCell ⟨W.heap.size, 0, none⟩ (.bool true)) := s3.b.setCell z1 _
      simp [Leaves, settle, results, Tryz.results54, go_sem, cF4]
      exact ⟨HSTOP.out, b4, fun h => by rw [HSTOP.out] at h; cases h⟩
    · have hd := HAT.out.done (by rw [HN.out]; omega)
      have HD : Hid (runL U ls V = (false, x, tl)) := hd
      have ht := HAT.out.t
      clear hd
      go_wp2
      have cF1 := cF.set 0 (.bool false)
      refine leaves_cons (f := 98) (args := #[.pointer (some ⟨W.heap.size, 0, none⟩)]) (by simp) (by simp [go_sem]) ?_
      refine (catch_idle W.heap.size false _ (cF1.cell 0) (cF1.free 0)).mono ?_
      rintro e u' w'' ⟨rfl, rfl, rfl⟩
      have cF2 := (cF1.set 0 (.bool false)).cell 0
      have s2 := (s.other (F := W.heap.size) z1 (by omega) (by omega) nF 0 (.bool false)).other (F := W.heap.size) z1 (by omega) (by omega) nF 0 (.bool false)
      simp only [List.set_cons_zero, List.getElem?_cons_zero] at cF2
      simp [Leaves, settle, results, Tryz.results54, go_sem, cF2]
      rw [HD.out]
      exact ⟨rfl, s2.b, fun _ => ⟨⟨v', s2⟩, by show tl.length ≤ 100; omega⟩⟩

end Go.Proofs.YtkpnhclaidcbdaaGreat
namespace Go.Proofs.YtkpnhclaidcbdaaGreat
open Go.RowKit
set_option linter.unusedVariables false
set_option maxRecDepth 100000

theorem JS.open {w W : World} {v : Value} {ls : List LV} {N : Nat} (j : JS w v (ls.map stepV) W) (hN : ls.length = N) : ∃ sa cap G, v = .slice sa N cap ∧ (0 < N → sa = some ⟨G, 0, none⟩) ∧ ∀ i, i < N → W.cell? ⟨G, i, none⟩ = some (stepV (ls[i]?.getD noLV)) := by
  have hl : (ls.map stepV).length = N := by rw [List.length_map, hN]
  rcases j.o.2 with ⟨hv, h⟩ | ⟨g, cap', cur, hv, hg, hh, hcl, _, hs, ht⟩
  · rw [hl] at h
    subst h
    exact ⟨none, 0, 0, hv, fun h => by omega, fun i h => by omega⟩
  · have o := j.o
    rw [hl] at hv o
    rw [hv] at o
    refine ⟨some ⟨g, 0, none⟩, cap', g, hv, fun _ => rfl, fun i hi => ?_⟩
    rw [o.cellAt i (by omega), List.getElem?_map, List.getElem?_eq_getElem (by omega)]
    rfl

set_option maxHeartbeats 6400000 in
theorem irun_any (ad : Option Addr) (N cap : Nat) (ls : List LV) (v : Option Addr) (p cv : Nat) (V : List Int) (u : Option Addr) (q cu : Nat) (U : List Int) (w : World) (hN : ls.length = N) (hF : LinesG w ad ls) (hN1 : N ≤ 1048576) (hV : Ints w v p V) (hU : Ints w u q U) (hp : p ≤ 1048576) (hq : q ≤ 1048576) :
    Calls Tryz.prog 19 #[.slice ad N cap, .slice v p cv, .slice u q cu] w fun e w' => ResD w w' e (runCode N ls p V q U) (runTells N ls p V q U) (runPots N ls p V q U) := by
  have rc0 := Cel.new w [.int .i64 0, .slice none 0 0] 38
  have B0 : Below w.heap.size w (w.alloc (.cells #[.int .i64 0, .slice none 0 0] 38)) := (Below.refl _ _).alloc (Nat.le_refl _) _
  have HN : Hid (ls.length = N) := hN
  clear hN
  obtain ⟨rb, hrb⟩ : ∃ rb, rb = actB N ls := ⟨_, rfl⟩
  obtain ⟨vb, hvb⟩ : ∃ vb, vb = okN 3 10000 p V := ⟨_, rfl⟩
  obtain ⟨ub, hub⟩ : ∃ ub, ub = okN 2 9 q U := ⟨_, rfl⟩
  have HR : Hid (rb = actB N ls) := hrb
  have HV : Hid (vb = okN 3 10000 p V) := hvb
  have HU : Hid (ub = okN 2 9 q U) := hub
  clear hrb hvb hub
  go_enter Tryz.func19, Tryz.ntmps19
  go_wp2_with fail
  refine (isteps_any _ _ _ ls _ HN.out (hF.below B0) hN1).mono ?_
  rintro e w1 ⟨sv, rfl, b1, hj⟩
  have rc1 := rc0.below b1
  have B1 := B0.trans (b1.mono B0.size)
  have hlt1 := rc1.lt
  rw [← HR.out] at hj ⊢
  clear b1 rc0 B0
  obtain ⟨d0, d1, f0, f1⟩ := rc1.pair
  cases rb
  · have E : Hid _ := run_no (p := p) (q := q) (V := V) (U := U) (show runB N ls p V q U = false by rw [runB, ← HR.out]; rfl)
    go_wp2
    refine bodyPost_ret (v := .tuple #[resV 0 none 0 0, .slice none 0 0]) (by simp [results, Tryz.results19, go_sem, d0, d1]) rfl ?_
    obtain ⟨e1, e2, e3⟩ := E.out
    rw [e1, e2, e3]
    exact ⟨none, 0, 0, 0, _, 0, 0, 0, rfl, rfl, rfl, (B1.setCell (by simp only []; omega) _).setCell (by simp only []; omega) _, OwnX.nil _ _ _, OwnX.nil _ _ _, fun h => by omega, fun h => by omega, fun h => by omega⟩
  have js : Hid _ := hj rfl
  clear hj
  go_wp2_with fail
  refine (ival_any _ _ _ V _ (hV.below B1) hp).mono ?_
  rintro e w2 ⟨rfl, hw2⟩
  rw [← HV.out, hw2]
  clear hw2
  cases vb
  · have E : Hid _ := run_no (p := p) (q := q) (V := V) (U := U) (show runB N ls p V q U = false by rw [runB, ← HR.out, ← HV.out]; rfl)
    go_wp2
    refine bodyPost_ret (v := .tuple #[resV 0 none 0 0, .slice none 0 0]) (by simp [results, Tryz.results19, go_sem, d0, d1]) rfl ?_
    obtain ⟨e1, e2, e3⟩ := E.out
    rw [e1, e2, e3]
    exact ⟨none, 0, 0, 0, _, 0, 0, 0, rfl, rfl, rfl, (B1.setCell (by simp only []; omega) _).setCell (by simp only []; omega) _, OwnX.nil _ _ _, OwnX.nil _ _ _, fun h => by omega, fun h => by omega, fun h => by omega⟩
  go_wp2_with fail
  refine (iarg_any _ _ _ U _ (hU.below B1) hq).mono ?_
  rintro e w2 ⟨rfl, hw2⟩
  rw [← HU.out, hw2]
  clear hw2
  cases ub
  · have E : Hid _ := run_no (p := p) (q := q) (V := V) (U := U) (show runB N ls p V q U = false by rw [runB, ← HR.out, ← HV.out, ← HU.out]; rfl)
    go_wp2
    refine bodyPost_ret (v := .tuple #[resV 0 none 0 0, .slice none 0 0]) (by simp [results, Tryz.results19, go_sem, d0, d1]) rfl ?_
    obtain ⟨e1, e2, e3⟩ := E.out
    rw [e1, e2, e3]
    exact ⟨none, 0, 0, 0, _, 0, 0, 0, rfl, rfl, rfl, (B1.setCell (by simp only []; omega) _).setCell (by simp only []; omega) _, OwnX.nil _ _ _, OwnX.nil _ _ _, fun h => by omega, fun h => by omega, fun h => by omega⟩
  have HB : Hid (runB N ls p V q U = true) := by show _ = _; rw [runB, ← HR.out, ← HV.out, ← HU.out]; rfl
  obtain ⟨h6, hall⟩ := actB_six HR.out.symm
  have HO : Hid (ls.all LV.ok = true) := hall
  obtain ⟨rfl, bV⟩ := okN_nat (c := 3) (by omega) HV.out.symm
  obtain ⟨rfl, bU⟩ := okN_nat (c := 2) (by omega) HU.out.symm
  have HVL : Hid (V.length = 3) := hV.1
  obtain ⟨sa, scap, G, rfl, hsa, hst⟩ := js.out.open HN.out
  have HSA : Hid _ := hsa
  have HST : Hid _ := hst
  clear hsa hst js hall
  go_wp2_with fail
  refine (clone_any _ _ _ V _ (hV.below B1) (by omega) (by omega)).mono ?_
  rintro e w2 ⟨r, rfl, j⟩
  have rc2 := rc1.below j.b
  have B2 := B1.trans (j.b.mono B1.size)
  have jb := j.b
  obtain ⟨x0, cx, B, rfl, hX, hB⟩ := j.ownx HVL.out
  have hB' := hB (by omega)
  obtain ⟨eB, _, _⟩ := hX.pos (by omega)
  subst eB
  have lB := hX.lt (by omega)
  have s0 : DR w1 w2.heap.size B cx u cu (.slice none 0 0) V [] (w2.alloc (.cells #[.slice (some ⟨B, 0, none⟩) 3 cx, .slice u 2 cu, .slice none 0 0] 90)) := by
    refine ⟨jb.alloc jb.size _, Cel.new w2 _ _, hX.alloc _, ⟨jb.alloc jb.size _, World.ownsRow_nil _ _ _ _⟩, ?_, ?_⟩ <;> (intro h; cases h)
  have rc2a := rc2.alloc (.cells #[.slice (some ⟨B, 0, none⟩) 3 cx, .slice u 2 cu, .slice none 0 0] 90)
  have rc1' : Hid (Cel w1 w.heap.size [.int .i64 0, .slice none 0 0] 38) := rc1
  clear d0 d1 f0 f1 rc1 j hB hX rc2
  have z2 := jb.size
  go_wp2_with fail
  refine (stops_any w1 w2.heap.size B cx u cu (.slice none 0 0) ad N ls V U sa scap G _ HN.out h6 (hF.below B1) HO.out HSA.out HST.out (hU.below B1) bU bV HVL.out s0 hB' z2 (by omega)).mono ?_
  rintro e w3 ⟨rfl, b3, hgo⟩
  have B3 : Below w.heap.size w w3 := B1.trans (b3.mono B1.size)
  obtain ⟨cw0, cw1⟩ : w1.heap.size ≤ w3.heap.size ∧ w.heap.size < w1.heap.size := ⟨b3.size, hlt1⟩
  have rc3 : Cel w3 w.heap.size [.int .i64 0, .slice none 0 0] 38 := by
    have := rc1'.out
    unfold Cel at *
    rw [b3.block _ hlt1]; exact this
  obtain ⟨⟨stp, x, tl⟩, hrun⟩ : ∃ r, runL U ls V = r := ⟨_, rfl⟩
  rw [hrun] at hgo ⊢
  have HRUN : Hid (runL U ls V = (stp, x, tl)) := hrun
  clear hrun s0 rc2a
  obtain ⟨d0, d1, f0, f1⟩ := rc3.pair
  cases stp
  case true =>
    have E : Hid _ := run_stop HB.out (by rw [HRUN.out])
    clear hgo
    go_wp2_with fail
    refine (clone_any _ _ _ V _ (hV.below B3) (by omega) (by omega)).mono ?_
    rintro e w4 ⟨r, rfl, j⟩
    have rc4 := rc3.below j.b
    obtain ⟨x4, cx4, B4, rfl, hX4, hB4⟩ := j.ownx HVL.out
    have bb := B3.trans (j.b.mono B3.size)
    clear d0 d1 f0 f1
    obtain ⟨d0, d1, f0, f1⟩ := rc4.pair
    have hlt4 := rc4.lt
    clear rc4 j rc3
    go_wp2
    refine bodyPost_ret (v := .tuple #[resV 2 none 0 0, .slice x4 3 cx4]) (by simp [results, Tryz.results19, go_sem, d0, d1]) rfl ?_
    obtain ⟨e1, e2, e3⟩ := E.out
    rw [e1, e2, e3]
    refine ⟨none, 0, 0, 0, x4, 3, cx4, B4, rfl, rfl, HVL.out, ?_, OwnX.nil _ _ _, ?_, fun h => by omega, fun h => by have := hB4 h; omega, fun h => by omega⟩
    · exact (bb.setCell (Nat.le_refl _) _).setCell (Nat.le_refl _) _
    · exact (hX4.setOther (fun h => by have := hB4 h; omega) _ _).setOther (fun h => by have := hB4 h; omega) _ _
  case false =>
    have E : Hid _ := run_go HB.out HRUN.out
    obtain ⟨v', s3, htl⟩ := hgo rfl
    clear hgo
    obtain ⟨tn, htn⟩ : ∃ tn, tl.length = tn := ⟨_, rfl⟩
    have HTN : Hid (tl.length = tn) := htn
    obtain ⟨ta, ctt, BT, hv, hT, hBT⟩ := s3.j.ownx HTN.out
    have hne : 0 < tn → BT ≠ B := fun h0 e => by
      obtain ⟨e1, _, _⟩ := hT.pos h0
      exact s3.ne (by rw [hv, e1, e]; rfl)
    have ox := s3.ox
    have c0 := s3.d.cell 0
    have c2 := s3.d.cell 2
    simp only [List.getElem?_cons_zero, List.getElem?_cons_succ] at c0 c2
    clear htn s3
    subst hv
    go_wp2_with fail
    refine (done_any _ _ _ _ B _ _ _ BT V x tl _ (hV.below B3) ox hT hne (w.heap.size + 1) (fun h => by have := hBT h; omega) (by omega) (by omega)).mono ?_
    rintro e w6 ⟨ra, rn, rcap, RB1, pb, pm, pcap, RB2, rfl, L1, L2, b6, O1, O2, y1, y2, y3⟩
    have rc6 := rc3.below b6
    have b66 := B3.trans (b6.mono B3.size)
    have hlt6 := rc6.lt
    clear d0 d1 f0 f1
    obtain ⟨d0, d1, f0, f1⟩ := rc6.pair
    clear rc6 rc3 ox hT c0 c2
    go_wp2
    refine bodyPost_ret (v := .tuple #[resV (endCode x) ra rn rcap, .slice pb pm pcap]) (by simp [results, Tryz.results19, go_sem, d0, d1]) rfl ?_
    obtain ⟨e1, e2, e3⟩ := E.out
    rw [e1, e2, e3]
    refine ⟨ra, rn, rcap, RB1, pb, pm, pcap, RB2, rfl, L1, L2, ?_, ?_, ?_, fun h => by have := y1 h; omega, fun h => by have := y2 h; omega, y3⟩
    · exact (b66.setCell (Nat.le_refl _) _).setCell (Nat.le_refl _) _
    · exact (O1.setOther (fun h => by have := y1 h; omega) _ _).setOther (fun h => by have := y1 h; omega) _ _
    · exact (O2.setOther (fun h => by have := y2 h; omega) _ _).setOther (fun h => by have := y2 h; omega) _ _

end Go.Proofs.YtkpnhclaidcbdaaGreat
namespace Go.Proofs.YtkpnhclaidcbdaaGreat
open Go.RowKit
set_option linter.unusedVariables false

theorem two_of {A : List Int} (h : A.length = 2) : ∃ x y, A = [x, y] := by
  match A, h with
  | [x, y], _ => exact ⟨x, y, rfl⟩
theorem three_of {A : List Int} (h : A.length = 3) : ∃ x y z, A = [x, y, z] := by
  match A, h with
  | [x, y, z], _ => exact ⟨x, y, z, rfl⟩
/-- Within what a form's numbers may be. -/
def inM (x : Int) : Prop := -10000000 ≤ x ∧ x ≤ 10000000
theorem okP_of {x y z s t K : Int} (hx : inM x) (hy : inM y) (hz : inM z) (hs : inM s) (ht : inM t) (hK : inM K) : okP ([x, y, z], [s, t], K) = true := by
  unfold inM at *
  simp [okP, formB, okN, allB, inB]
  omega
theorem okP_shape {f : Frm} (h : okP f = true) : ∃ x y z s t K, f = ([x, y, z], [s, t], K) ∧ inM x ∧ inM y ∧ inM z ∧ inM s ∧ inM t ∧ inM K := by
  obtain ⟨C, D, K⟩ := f
  obtain ⟨l1, l2, b1, b2, b3, b4⟩ := formB_elim h
  obtain ⟨x, y, z, rfl⟩ := three_of l1
  obtain ⟨s, t, rfl⟩ := two_of l2
  have c0 := b1 0
  have c1 := b1 1
  have c2 := b1 2
  have d0 := b2 0
  have d1 := b2 1
  simp only [List.getElem?_cons_zero, List.getElem?_cons_succ, Option.getD_some] at c0 c1 c2 d0 d1
  exact ⟨x, y, z, s, t, K, rfl, c0, c1, c2, d0, d1, ⟨b3, b4⟩⟩
theorem okP_no {x y z s t K : Int} (h : okP ([x, y, z], [s, t], K) = true) : inM x ∧ inM y ∧ inM z ∧ inM s ∧ inM t ∧ inM K := by
  obtain ⟨x', y', z', s', t', K', e, h⟩ := okP_shape h
  simp only [Prod.mk.injEq, List.cons.injEq, and_true] at e
  obtain ⟨⟨rfl, rfl, rfl⟩, ⟨rfl, rfl⟩, rfl⟩ := e
  exact h
theorem timP_no {f : Frm} {k : Int} (h : timB f k = false) : timP f k = ([], [], 0) := by unfold timP; rw [h]; rfl
theorem timP_yes {f : Frm} {k : Int} (h : timB f k = true) : timP f k = (mulL k f.1, mulL k f.2.1, k * f.2.2) := by unfold timP; rw [h]; rfl
theorem timB_ok {f : Frm} {k : Int} (h : timB f k = true) : okP f = true ∧ -10000000 ≤ k ∧ k ≤ 10000000 := by
  unfold timB timOk at h
  simp only [Bool.and_eq_true] at h
  exact ⟨h.1.1, inB_iff.1 h.1.2⟩
theorem timB_not {f : Frm} {k : Int} (h : okP f = false) : timB f k = false := by
  unfold okP at h
  unfold timB timOk
  rw [h]; rfl
theorem tim_shape {x y z s t K k : Int} (h : okP ([x, y, z], [s, t], K) = true) (h1 : -10000000 ≤ k) (h2 : k ≤ 10000000) (h3 : okP ([k * x, k * y, k * z], [k * s, k * t], k * K) = true) : timP ([x, y, z], [s, t], K) k = ([k * x, k * y, k * z], [k * s, k * t], k * K) := by
  have hb : timB ([x, y, z], [s, t], K) k = true := by
    unfold timB timOk
    unfold okP at h h3
    rw [h, inB_iff.2 ⟨h1, h2⟩]
    exact h3
  rw [timP_yes hb]
  rfl
theorem tim_one {f : Frm} (h : okP f = true) : timP f 1 = f := by
  obtain ⟨x, y, z, s, t, K, rfl, _⟩ := okP_shape h
  have e := tim_shape (k := 1) h (by omega) (by omega) (by simpa using h)
  simpa using e
theorem tim_nil {f : Frm} (h : okP f = true) : timP f 0 = zeroP := by
  obtain ⟨x, y, z, s, t, K, rfl, _⟩ := okP_shape h
  have e := tim_shape (k := 0) h (by omega) (by omega) (by simp; decide)
  simpa [zeroP] using e
theorem tim_neg {x y z s t K : Int} (h : okP ([x, y, z], [s, t], K) = true) : timP ([x, y, z], [s, t], K) (-1) = ([-x, -y, -z], [-s, -t], -K) ∧ okP ([-x, -y, -z], [-s, -t], -K) = true := by
  obtain ⟨a1, a2, a3, a4, a5, a6⟩ := okP_no h
  have h' : okP ([-x, -y, -z], [-s, -t], -K) = true := okP_of (by unfold inM at *; omega) (by unfold inM at *; omega) (by unfold inM at *; omega) (by unfold inM at *; omega) (by unfold inM at *; omega) (by unfold inM at *; omega)
  have e := tim_shape (k := -1) h (by omega) (by omega) (by simpa using h')
  exact ⟨by simpa using e, h'⟩
theorem tim_back {f : Frm} (h : okP f = true) : timP (timP f (-1)) (-1) = f := by
  obtain ⟨x, y, z, s, t, K, rfl, _⟩ := okP_shape h
  obtain ⟨e, h'⟩ := tim_neg h
  rw [e, (tim_neg h').1]
  simp
theorem add_neg {f : Frm} (h : okP f = true) : addP f (timP f (-1)) = zeroP := by
  obtain ⟨x, y, z, s, t, K, rfl, _⟩ := okP_shape h
  obtain ⟨e, h'⟩ := tim_neg h
  rw [e]
  have hb : addB ([x, y, z], [s, t], K) ([-x, -y, -z], [-s, -t], -K) = true := by
    unfold addB addOk
    unfold okP at h h'
    rw [h, h']
    simp [lin, formB, okN, allB, inB]
    omega
  unfold addP
  rw [hb]
  simp [keepL, keepK, lin, zeroP]
  omega
theorem dot_mul {xs V : List Int} {n : Int} {k : Nat} (h : xs.length = k) : ∀ j, j ≤ k → dot (mulL n xs) V j = n * dot xs V j
  | 0, _ => by simp [dot]
  | j + 1, hj => by
    have ih := dot_mul (V := V) (n := n) h j (by omega)
    have e := mulL_get (n := n) (zs := xs) (i := j) (by omega)
    simp only [dot, ih, e]
    rw [Int.mul_add, Int.mul_assoc]
theorem at_bnd {f : Frm} {V A : List Int} : -10000000000000 ≤ atP f V A ∧ atP f V A ≤ 10000000000000 := by
  unfold atP
  cases h : atOk f.1.length f.2.1.length V.length A.length f.1 f.2.1 f.2.2 V A
  · rw [atN_no h]; omega
  · rw [atN_yes h]
    unfold atOk at h
    simp only [Bool.and_eq_true] at h
    obtain ⟨⟨h1, h2⟩, h3⟩ := h
    obtain ⟨_, _, b1, b2, b3, b4⟩ := formB_elim h1
    have v1 := (okN_elim (by omega) h2).2
    have a1 := (okN_elim (by omega) h3).2
    have d1 := dot_bnd (bndP_of b1 v1 (by omega) (by omega)) 3
    have d2 := dot_bnd (bndP_of b2 a1 (by omega) (by omega)) 2
    unfold atV
    omega
theorem tim_at {f : Frm} {k : Int} {V A : List Int} (h : atB (timP f k) V A = true) : atB f V A = true ∧ atP (timP f k) V A = k * atP f V A := by
  have hb : timB f k = true := by
    cases hb : timB f k
    · rw [timP_no hb] at h
      unfold atB atOk at h
      simp [formB, okN] at h
    · rfl
  obtain ⟨h1, _, _⟩ := timB_ok hb
  have h' := h
  unfold atB atOk at h'
  simp only [Bool.and_eq_true] at h'
  obtain ⟨⟨_, hV⟩, hA⟩ := h'
  have t1 : atB f V A = true := by unfold okP at h1; unfold atB atOk; rw [h1, hV, hA]; rfl
  refine ⟨t1, ?_⟩
  have l1 := formB_elim h1
  unfold atP
  rw [atN_yes h, atN_yes t1, timP_yes hb]
  unfold atV
  rw [dot_mul l1.1 3 (by omega), dot_mul l1.2.1 2 (by omega)]
  dsimp only
  rw [Int.mul_add, Int.mul_add]

end Go.Proofs.YtkpnhclaidcbdaaGreat
namespace Go.Proofs.YtkpnhclaidcbdaaGreat
open Go.RowKit
set_option linter.unusedVariables false
set_option maxRecDepth 100000

theorem goL_len (U : List Int) (ls : List LV) : ∀ (f i : Nat) (x tl : List Int), (goL U ls f i x tl).2.1.length = x.length ∧ (goL U ls f i x tl).2.2.length ≤ tl.length + f
  | 0, i, x, tl => by simp [goL]
  | f + 1, i, x, tl => by
    unfold goL
    split
    · split
      · have h := goL_len U ls f (if atF x U (ls[i]?.getD noLV).f < 0 then i + 1 + (ls[i]?.getD noLV).skip.toNat else i + 1) x tl
        exact ⟨h.1, by omega⟩
      · split
        · have h := goL_len U ls f (i + 1) (x.set (ls[i]?.getD noLV).pot.toNat (x[(ls[i]?.getD noLV).pot.toNat]?.getD 0 + atF x U (ls[i]?.getD noLV).f)) tl
          exact ⟨by rw [h.1, List.length_set], by omega⟩
        · split
          · have h := goL_len U ls f (i + 1) x (tl ++ [atF x U (ls[i]?.getD noLV).f])
            rw [List.length_append] at h
            exact ⟨h.1, by simp only [List.length_cons, List.length_nil] at h; omega⟩
          · simp
    · simp
theorem goL_stop (U : List Int) (ls : List LV) (s : LV) (hs : s.kind = 4) : ∀ (f i : Nat) (x tl : List Int), (goL U (ls ++ [s]) f i x tl).1 = true ∨ (goL U (ls ++ [s]) f i x tl = goL U ls f i x tl ∧ (goL U ls f i x tl).1 = false)
  | 0, i, x, tl => by right; simp [goL]
  | f + 1, i, x, tl => by
    by_cases hi : i < ls.length
    · have e : (ls ++ [s])[i]?.getD noLV = ls[i]?.getD noLV := by rw [List.getElem?_append_left hi]
      unfold goL
      rw [if_pos hi, if_pos (by rw [List.length_append]; omega), e]
      split
      · exact goL_stop U ls s hs f _ x tl
      · split
        · exact goL_stop U ls s hs f _ _ tl
        · split
          · exact goL_stop U ls s hs f _ x _
          · left; rfl
    · by_cases hl : i = ls.length
      · left
        subst hl
        unfold goL
        rw [if_pos (by rw [List.length_append]; simp)]
        have e : (ls ++ [s])[ls.length]?.getD noLV = s := by simp
        rw [e, hs]
        rfl
      · right
        unfold goL
        rw [if_neg hi, if_neg (by rw [List.length_append]; simp; omega)]
        exact ⟨rfl, rfl⟩
theorem runTells_le (N : Nat) (ls : List LV) (p : Nat) (V : List Int) (q : Nat) (U : List Int) : (runTells N ls p V q U).length ≤ 7 := by
  have h := (goL_len U ls 7 0 V []).2
  unfold runTells
  split
  · split
    · simp
    · unfold endTells
      split
      · unfold runL; simpa using h
      · simp
  · simp
theorem runPots_le (N : Nat) (ls : List LV) (p : Nat) (V : List Int) (q : Nat) (U : List Int) : (runPots N ls p V q U).length ≤ V.length := by
  have h := (goL_len U ls 7 0 V []).1
  unfold runPots
  split
  · split
    · exact Nat.le_refl _
    · unfold endPots
      split
      · unfold runL; omega
      · exact Nat.le_refl _
  · simp
/-- A call has done an act: what came of it, and what the pots have. -/
def RunM (w w' : World) (e : Ending) (code : Int) (tl pl : List Int) : Prop := ∃ a n cap b m cap', e = .returned (.tuple #[resV code a n cap, .slice b m cap']) ∧ Ints w' a n tl ∧ Ints w' b m pl ∧ Below w.heap.size w w'
theorem RunM.of {w w' : World} {e : Ending} {code : Int} {tl pl : List Int} (h : ResD w w' e code tl pl) : RunM w w' e code tl pl := by
  obtain ⟨a, n, cap, B1, b, m, cap', B2, he, h1, h2, hb, o1, o2, _⟩ := h
  exact ⟨a, n, cap, b, m, cap', he, o1.ints, o2.ints, hb⟩

end Go.Proofs.YtkpnhclaidcbdaaGreat
namespace Go.Proofs.YtkpnhclaidcbdaaGreat
open Go.RowKit
set_option linter.unusedVariables false
set_option maxRecDepth 100000

/-- A form at pots and arguments. -/
def atX (V U : List Int) (f : Frm) : Int := atV f.1 f.2.1 f.2.2 V U
theorem dot_linN {xs ys V : List Int} {n : Int} {k : Nat} (h1 : xs.length = k) (h2 : ys.length = k) : ∀ j, j ≤ k → dot (lin xs ys n) V j = dot xs V j + n * dot ys V j
  | 0, _ => by simp [dot]
  | j + 1, hj => by
    have ih := dot_linN (V := V) (n := n) h1 h2 j (by omega)
    have e := lin_get (n := n) h1 h2 (show j < k by omega)
    simp only [dot, ih, e]
    rw [Int.add_mul, Int.mul_add, Int.mul_assoc]
    omega
/-- Three and two numbers. -/
def shX (f : Frm) : Prop := f.1.length = 3 ∧ f.2.1.length = 2
theorem atX_plus {V U : List Int} {f g : Frm} (hf : shX f) (hg : shX g) : atX V U (plusX f g) = atX V U f + atX V U g := by
  simp only [atX, plusX, atV]
  rw [dot_linN hf.1 hg.1 3 (by omega), dot_linN hf.2 hg.2 2 (by omega)]
  omega
theorem atX_minus {V U : List Int} {f : Frm} (hf : shX f) : atX V U (minusX f) = - atX V U f - 1 := by
  simp only [atX, minusX, atV]
  rw [dot_mul hf.1 3 (by omega), dot_mul hf.2 2 (by omega)]
  omega
theorem shX_plus {f g : Frm} (hf : shX f) (hg : shX g) : shX (plusX f g) := ⟨lin_len hf.1 hg.1, lin_len hf.2 hg.2⟩
theorem shX_minus {f : Frm} (hf : shX f) : shX (minusX f) := ⟨by simp only [minusX, mulL, List.length_map]; exact hf.1, by simp only [minusX, mulL, List.length_map]; exact hf.2⟩
theorem dot_pot {V : List Int} : ∀ v, v < 3 → dot ([0, 0, 0].set v 1) V 3 = V[v]?.getD 0
  | 0, _ => by simp [dot]
  | 1, _ => by simp [dot]
  | 2, _ => by simp [dot]
theorem dot_zero2 {V : List Int} : dot [0, 0] V 2 = 0 := by simp [dot]
theorem len_pot (v : Nat) : (([0, 0, 0] : List Int).set v 1).length = 3 := by simp
theorem atX_less {V U : List Int} {f : Frm} {v : Nat} (hf : shX f) (hv : v < 3) : atX V U (lessX f v) = atX V U f - V[v]?.getD 0 := by
  simp only [atX, lessX, atV]
  rw [dot_linN hf.1 (len_pot v) 3 (by omega), dot_linN hf.2 rfl 2 (by omega), dot_pot v hv, dot_zero2]
  omega
theorem atX_pot {V U : List Int} {v : Nat} (hv : v < 3) : atX V U (potX v) = V[v]?.getD 0 := by
  simp only [atX, potX, atV]
  rw [dot_pot v hv, dot_zero2]
  omega
theorem three_x {P : List Frm} (h : P.length = 3) : ∃ a b c, P = [a, b, c] := by
  match P, h with
  | [a, b, c], _ => exact ⟨a, b, c, rfl⟩
theorem shX_into {f : FV} {P : List Frm} (hD : f.D.length = 2) (hP : P.length = 3) (h : ∀ p ∈ P, shX p) : shX (intoX f P) := by
  obtain ⟨a, b, c, rfl⟩ := three_x hP
  have ha := h a (by simp)
  have hb := h b (by simp)
  have hc := h c (by simp)
  exact ⟨lin_len (lin_len (lin_len rfl ha.1) hb.1) hc.1, lin_len (lin_len (lin_len hD ha.2) hb.2) hc.2⟩
theorem atX_into {V U : List Int} {f : FV} {P : List Frm} (hD : f.D.length = 2) (hP : P.length = 3) (h : ∀ p ∈ P, shX p) : atX V U (intoX f P) = atF (P.map (atX V U)) U f := by
  obtain ⟨a, b, c, rfl⟩ := three_x hP
  have ha := h a (by simp)
  have hb := h b (by simp)
  have hc := h c (by simp)
  have e1 : dot (intoC f.C ([a, b, c].map toFV) 3) V 3 = f.C[0]?.getD 0 * dot a.1 V 3 + f.C[1]?.getD 0 * dot b.1 V 3 + f.C[2]?.getD 0 * dot c.1 V 3 := by
    show dot (lin (lin (lin [0, 0, 0] a.1 _) b.1 _) c.1 _) V 3 = _
    rw [dot_linN (k := 3) (lin_len (lin_len rfl ha.1) hb.1) hc.1 3 (by omega), dot_linN (k := 3) (lin_len rfl ha.1) hb.1 3 (by omega), dot_linN (k := 3) rfl ha.1 3 (by omega)]
    simp [dot]
  have e2 : dot (intoD f.C f.D ([a, b, c].map toFV) 3) U 2 = dot f.D U 2 + f.C[0]?.getD 0 * dot a.2.1 U 2 + f.C[1]?.getD 0 * dot b.2.1 U 2 + f.C[2]?.getD 0 * dot c.2.1 U 2 := by
    show dot (lin (lin (lin f.D a.2.1 _) b.2.1 _) c.2.1 _) U 2 = _
    rw [dot_linN (lin_len (lin_len hD ha.2) hb.2) hc.2 2 (by omega), dot_linN (lin_len hD ha.2) hb.2 2 (by omega), dot_linN hD ha.2 2 (by omega)]
  have e3 : intoK f.C f.K ([a, b, c].map toFV) 3 = f.K + f.C[0]?.getD 0 * a.2.2 + f.C[1]?.getD 0 * b.2.2 + f.C[2]?.getD 0 * c.2.2 := rfl
  simp only [atF, atX, intoX, atV]
  rw [e1, e2, e3]
  simp only [dot, List.map_cons, List.map_nil, List.getElem?_cons_zero, List.getElem?_cons_succ, Option.getD_some, atX, atV, Int.mul_add]
  omega

/-- A row's guards all hold. -/
def fitG (V U : List Int) (r : RowM) : Bool := r.guards.all fun g => decide (0 ≤ atX V U g)
def goodG (V U : List Int) (gs : List Frm) : Bool := gs.all fun g => decide (0 ≤ atX V U g)
/-- What going a row comes to. -/
def rowEnd (V U : List Int) (r : RowM) : List Int := (List.range 3).map fun v => V[v]?.getD 0 + atX V U (r.adds[v]?.getD noX)
structure Fits (V U : List Int) (o : Bool × List Int × List Int) (r : RowM) : Prop where
  st : o.1 = r.stop
  ad : r.stop = false → o.2.1 = rowEnd V U r ∧ o.2.2 = r.tells.map (atX V U)
structure WaySh (y : Way) : Prop where
  l : y.pots.length = 3
  s : ∀ p ∈ y.pots, shX p
theorem range3 (g : Nat → Int) : (List.range 3).map g = [g 0, g 1, g 2] := rfl
theorem endW_fits {V U : List Int} {y : Way} (h : WaySh y) : Fits V U (false, y.pots.map (atX V U), y.tells.map (atX V U)) (endW y) := by
  refine ⟨rfl, fun _ => ⟨?_, rfl⟩⟩
  obtain ⟨a, b, c, e⟩ := three_x h.l
  have hs := h.s
  rw [e] at hs
  have ha := hs a (by simp)
  have hb := hs b (by simp)
  have hc := hs c (by simp)
  show y.pots.map (atX V U) = (List.range 3).map _
  rw [range3, e]
  have r0 : (endW y).adds[0]?.getD noX = lessX a 0 := by simp [endW, e]
  have r1 : (endW y).adds[1]?.getD noX = lessX b 1 := by simp [endW, e]
  have r2 : (endW y).adds[2]?.getD noX = lessX c 2 := by simp [endW, e]
  rw [r0, r1, r2, atX_less ha (by omega), atX_less hb (by omega), atX_less hc (by omega)]
  simp only [List.map_cons, List.map_nil, List.cons.injEq, and_true]
  exact ⟨by omega, by omega, by omega⟩
theorem WaySh.add {y : Way} {p : Nat} {f : Frm} (h : WaySh y) (hp : p < 3) (hf : shX f) : WaySh (y.add p f) := by
  refine ⟨by simp only [Way.add, List.length_set]; exact h.l, fun q hq => ?_⟩
  simp only [Way.add] at hq
  rcases List.mem_or_eq_of_mem_set hq with hq | rfl
  · exact h.s q hq
  · refine shX_plus (h.s _ ?_) hf
    rw [List.getElem?_eq_getElem (by rw [h.l]; exact hp)]
    exact List.getElem_mem _
theorem map_add {V U : List Int} {y : Way} {p : Nat} {f : Frm} (h : WaySh y) (hp : p < 3) (hf : shX f) : (y.add p f).pots.map (atX V U) = (y.pots.map (atX V U)).set p ((y.pots.map (atX V U))[p]?.getD 0 + atX V U f) := by
  simp only [Way.add]
  have hl : p < y.pots.length := by rw [h.l]; exact hp
  rw [List.map_set, List.getElem?_map, List.getElem?_eq_getElem hl, Option.getD_some, atX_plus (h.s _ (List.getElem_mem hl)) hf]
  rfl
theorem fit_app (V U : List Int) (gs : List Frm) (g : Frm) : goodG V U (gs ++ [g]) = (goodG V U gs && decide (0 ≤ atX V U g)) := by simp [goodG]
theorem fit_one {V U : List Int} {r : RowM} {gs : List Frm} {o : Bool × List Int × List Int} (e : r.guards = gs) (h : Fits V U o r) : (goodG V U gs = true → ∃ r', [r].filter (fitG V U) = [r'] ∧ Fits V U o r') ∧ (goodG V U gs = false → [r].filter (fitG V U) = []) := by
  have e' : fitG V U r = goodG V U gs := by rw [← e]; rfl
  refine ⟨fun hg => ⟨r, ?_, h⟩, fun hg => ?_⟩
  · rw [List.filter_cons, e', hg]; rfl
  · rw [List.filter_cons, e', hg]; rfl

/-- Of all ways just one fits, and it comes to what the act comes to. -/
theorem run_way (V U : List Int) (ls : List LV) (hall : ls.all LV.ok = true) (hD : ∀ k, k < ls.length → (ls[k]?.getD noLV).f.D.length = (ls[k]?.getD noLV).f.m) : ∀ (f i : Nat) (y : Way), WaySh y →
    (goodG V U y.guards = true → ∃ r, (goW ls f i y).filter (fitG V U) = [r] ∧ Fits V U (goL U ls f i (y.pots.map (atX V U)) (y.tells.map (atX V U))) r) ∧ (goodG V U y.guards = false → (goW ls f i y).filter (fitG V U) = [])
  | 0, i, y, h => fit_one rfl (endW_fits h)
  | f + 1, i, y, h => by
    by_cases hi : i < ls.length
    · have hok : (ls[i]?.getD noLV).ok = true := by
        rw [List.getElem?_eq_getElem hi]
        exact List.all_eq_true.1 hall _ (List.getElem_mem hi)
      have hDD := hD i hi
      rw [goL, goW, if_pos hi, if_pos hi]
      generalize ls[i]?.getD noLV = l at *
      have hsm : ∀ {n m : Nat} {C D : List Int} {K : Int}, smallB n m C D K = true → m = 2 := fun hs => by
        simp only [smallB, Bool.and_eq_true] at hs
        have := (okN_elim (by omega) hs.1.2).1
        omega
      unfold LV.ok lineB at hok
      by_cases k1 : l.kind = 1
      · rw [if_pos k1] at hok
        simp only [Bool.and_eq_true] at hok
        have hD2 : l.f.D.length = 2 := by rw [hDD]; exact hsm hok.2
        have hs := shX_into hD2 h.l h.s
        have e := atX_into (V := V) (U := U) hD2 h.l h.s
        rw [if_pos k1, if_pos k1, List.filter_append]
        have A := run_way V U ls hall hD f (i + 1) (y.guard (intoX l.f y.pots)) ⟨h.l, h.s⟩
        have B := run_way V U ls hall hD f (i + 1 + l.skip.toNat) (y.guard (minusX (intoX l.f y.pots))) ⟨h.l, h.s⟩
        have gA : goodG V U (y.guard (intoX l.f y.pots)).guards = (goodG V U y.guards && decide (0 ≤ atX V U (intoX l.f y.pots))) := fit_app _ _ _ _
        have gB : goodG V U (y.guard (minusX (intoX l.f y.pots))).guards = (goodG V U y.guards && decide (0 ≤ atX V U (minusX (intoX l.f y.pots)))) := fit_app _ _ _ _
        rw [atX_minus hs] at gB
        refine ⟨fun hg => ?_, fun hg => ?_⟩
        · rw [hg, Bool.true_and] at gA gB
          by_cases hn : atF (y.pots.map (atX V U)) U l.f < 0
          · rw [if_pos hn, A.2 (by rw [gA]; exact decide_eq_false (by omega)), List.nil_append]
            exact B.1 (by rw [gB]; exact decide_eq_true (by omega))
          · rw [if_neg hn, B.2 (by rw [gB]; exact decide_eq_false (by omega)), List.append_nil]
            exact A.1 (by rw [gA]; exact decide_eq_true (by omega))
        · rw [hg, Bool.false_and] at gA gB
          rw [A.2 gA, B.2 gB]; rfl
      · rw [if_neg k1] at hok
        rw [if_neg k1, if_neg k1]
        by_cases k2 : l.kind = 2
        · rw [if_pos k2] at hok
          simp only [Bool.and_eq_true] at hok
          have hD2 : l.f.D.length = 2 := by rw [hDD]; exact hsm hok.2
          have hs := shX_into hD2 h.l h.s
          have e := atX_into (V := V) (U := U) hD2 h.l h.s
          have hp := inB_iff.1 hok.1.1
          have hp3 : l.pot.toNat < 3 := by omega
          rw [if_pos k2, if_pos k2]
          have A := run_way V U ls hall hD f (i + 1) (y.add l.pot.toNat (intoX l.f y.pots)) (h.add hp3 hs)
          rw [map_add h hp3 hs, e] at A
          exact A
        · rw [if_neg k2] at hok
          rw [if_neg k2, if_neg k2]
          by_cases k3 : l.kind = 3
          · rw [if_pos k3] at hok
            simp only [Bool.and_eq_true] at hok
            have hD2 : l.f.D.length = 2 := by rw [hDD]; exact hsm hok.2
            have e := atX_into (V := V) (U := U) hD2 h.l h.s
            rw [if_pos k3, if_pos k3]
            have A := run_way V U ls hall hD f (i + 1) (y.tell (intoX l.f y.pots)) ⟨h.l, h.s⟩
            have et : (y.tell (intoX l.f y.pots)).tells.map (atX V U) = y.tells.map (atX V U) ++ [atF (y.pots.map (atX V U)) U l.f] := by simp only [Way.tell, List.map_append, List.map_cons, List.map_nil]; rw [e]
            rw [et] at A
            exact A
          · rw [if_neg k3, if_neg k3]
            exact fit_one rfl ⟨rfl, fun h => by cases h⟩
    · rw [goW_end (by omega), goL_end (by omega)]
      exact fit_one rfl (endW_fits h)
theorem map_way0 {V U : List Int} (h : V.length = 3) : way0.pots.map (atX V U) = V := by
  match V, h with
  | [a, b, c], _ =>
    simp only [way0, List.map_cons, List.map_nil]
    rw [atX_pot (by omega), atX_pot (by omega), atX_pot (by omega)]
    rfl
theorem way0_sh : WaySh way0 := ⟨rfl, fun p hp => by
  simp only [way0, List.mem_cons, List.not_mem_nil, or_false] at hp
  rcases hp with rfl | rfl | rfl <;> exact ⟨rfl, rfl⟩⟩
theorem runL_way {V U : List Int} {ls : List LV} (hV : V.length = 3) (hall : ls.all LV.ok = true) (hD : ∀ k, k < ls.length → (ls[k]?.getD noLV).f.D.length = (ls[k]?.getD noLV).f.m) : ∃ r, (rowsL ls).filter (fitG V U) = [r] ∧ Fits V U (runL U ls V) r := by
  have h := (run_way V U ls hall hD 7 0 way0 way0_sh).1 rfl
  rw [map_way0 hV] at h
  exact h

end Go.Proofs.YtkpnhclaidcbdaaGreat
namespace Go.Proofs.YtkpnhclaidcbdaaGreat
open Go.ChangeShapes Go.WideShapes Go.ChangeAt Go.RowKit Go.Joins Go.Deep
set_option linter.unusedVariables false
set_option maxRecDepth 100000

/-- A slice, and what it holds. -/
structure IV where
  a : Option Addr
  n : Nat
  cap : Nat
  x : List Int
def noI : IV := ⟨none, 0, 0, []⟩
def IV.v (s : IV) : Value := .slice s.a s.n s.cap

theorem trod_len1 {H : Type} {enc : TypeId × Value → H} {W : World} {fuel : Nat} {t e : TypeId} {cs : List Value} {x : DataW H × List MemPlace} (hS : Tryz.prog.underlying t = some (.slice e)) (hf : DataW.trod enc Tryz.prog W 0 (fun _ => true) true fuel t cs = some x) : cs.length = 1 := by
  rcases open_slice hS hf with ⟨h, _⟩ | ⟨a, len, cap, m, n, D, Pl, h, _⟩ <;> rw [h] <;> rfl

def IM (w : World) (s : IV) : Prop := Ints w s.a s.n s.x ∧ s.n ≤ maxLen
def IG (w : World) (s : IV) : Prop := Ints w s.a s.n s.x ∧ s.n ≤ 1048576
def IS (s : IV) : Prop := s.n ≤ 1048576
def IK (w : World) (lo : Nat) (s : IV) : Prop := ∃ B, s.a = some ⟨B, 0, none⟩ ∧ lo ≤ B ∧ Blk w B s.x ∧ s.x.length = s.n ∧ s.n ≤ 1048576
def copiesI (s t : IV) : Prop := t.n = s.n ∧ t.x = s.x
def sameI (s t : IV) : Prop := s.x = t.x
theorem IM.below {w w' : World} {s : IV} (h : IM w s) (hb : Below w.heap.size w w') : IM w' s := ⟨h.1.below hb, h.2⟩
theorem IG.below {w w' : World} {s : IV} (h : IG w s) (hb : Below w.heap.size w w') : IG w' s := ⟨h.1.below hb, h.2⟩
theorem IM.g {w : World} {s : IV} (h : IM w s) (hs : IS s) : IG w s := ⟨h.1, hs⟩
theorem IK.below {w w' : World} {lo : Nat} {s : IV} (h : IK w lo s) (hb : Below w.heap.size w w') : IK w' lo s := by
  obtain ⟨B, h1, h2, h3, h4⟩ := h
  exact ⟨B, h1, h2, h3.below hb, h4⟩
theorem IK.touch {S : Nat → Prop} {w w' : World} {lo : Nat} {s : IV} (h : IK w lo s) (t : Touch S w w') (hs : ∀ k, S k → k < lo) : IK w' lo s := by
  obtain ⟨B, h1, h2, h3, h4⟩ := h
  refine ⟨B, h1, h2, ?_, h4⟩
  unfold Blk at *
  rw [t.block B (lt_of_block h3) (fun hh => by have := hs _ hh; omega)]; exact h3
theorem IK.mono {w : World} {lo lo' : Nat} {s : IV} (h : IK w lo s) (hl : lo' ≤ lo) : IK w lo' s := by
  obtain ⟨B, h1, h2, h3⟩ := h
  exact ⟨B, h1, by omega, h3⟩
theorem IK.g {w : World} {lo : Nat} {s : IV} (h : IK w lo s) : IG w s := by
  obtain ⟨B, h1, h2, h3, h4, h5⟩ := h
  refine ⟨?_, h5⟩
  rw [h1, ← h4]; exact h3.ints
theorem open_I1 {H : Type} {enc : TypeId × Value → H} {W : World} {fuel : Nat} {v : Value} {y : DataW H × List MemPlace}
    (hf : DataW.trod enc Tryz.prog W 0 (fun _ => true) true fuel 24 [v] = some y) : ∃ s : IV, v = s.v ∧ IM W s := by
  obtain ⟨a, n, cap, zs, rfl, h1, h2⟩ := open_row hf
  exact ⟨⟨a, n, cap, zs⟩, rfl, h1, h2⟩

/-- A slice of slices that came in. -/
def ISM (w : World) (ad : Option Addr) (ss : List IV) : Prop :=
  ∀ i, i < ss.length → ∃ b off, ad = some ⟨b, off, none⟩ ∧ w.cell? ⟨b, off + i, none⟩ = some (ss[i]?.getD noI).v ∧ IM w (ss[i]?.getD noI)
/-- One that may be copied. -/
def ISG (w : World) (ad : Option Addr) (ss : List IV) : Prop :=
  ∀ i, i < ss.length → ∃ b off, ad = some ⟨b, off, none⟩ ∧ w.cell? ⟨b, off + i, none⟩ = some (ss[i]?.getD noI).v ∧ IG w (ss[i]?.getD noI)
theorem ISM.below {w w' : World} {ad : Option Addr} {ss : List IV} (h : ISM w ad ss) (hb : Below w.heap.size w w') : ISM w' ad ss := fun i hi => by
  obtain ⟨b, off, e, hc, hr⟩ := h i hi
  exact ⟨b, off, e, by rw [hb.cell (p := ⟨b, off + i, none⟩) (block_lt hc)]; exact hc, hr.below hb⟩
theorem ISG.below {w w' : World} {ad : Option Addr} {ss : List IV} (h : ISG w ad ss) (hb : Below w.heap.size w w') : ISG w' ad ss := fun i hi => by
  obtain ⟨b, off, e, hc, hr⟩ := h i hi
  exact ⟨b, off, e, by rw [hb.cell (p := ⟨b, off + i, none⟩) (block_lt hc)]; exact hc, hr.below hb⟩
theorem ISM.g {w : World} {ad : Option Addr} {ss : List IV} (h : ISM w ad ss) (hs : ∀ i, i < ss.length → IS (ss[i]?.getD noI)) : ISG w ad ss := fun i hi => by
  obtain ⟨b, off, e, hc, hr⟩ := h i hi
  exact ⟨b, off, e, hc, hr.g (hs i hi)⟩

theorem open_IS {H : Type} {enc : TypeId × Value → H} {W : World} {r : Reach} {b0 : Nat} {v : Value} {d : DataW H} {p : List MemPlace}
    (hv : Value.okWide Tryz.prog W r b0 52 v) (h : DataW.Trod enc Tryz.prog W 0 (fun _ => true) true 52 v d p) :
    ∃ ad N cap ss, v = .slice ad N cap ∧ ss.length = N ∧ ISM W ad ss ∧ N ≤ maxLen := by
  obtain ⟨ad, N, cap, ss, hv, hl, hN, hall⟩ := open_sliceT noI (fun s => [IV.v s]) (fun s => IM W s) (c := 1) (by omega) Tryz.underlying52 (by kernel_rfl) (fun _ => rfl) (fun fuel cs x hx => by
    have hl : cs.length = 1 := (trod_len1 Tryz.underlying24 hx)
    match cs, hl with
    | [c], _ =>
      obtain ⟨s, hs, hr⟩ := open_I1 hx
      exact ⟨s, by rw [hs], hr⟩) hv h
  refine ⟨ad, N, cap, ss, hv, hl, fun i hi => ?_, hN⟩
  obtain ⟨b, off, e, hc, hr⟩ := hall i hi
  have h0 := hc 0 (by omega)
  simp only [Nat.mul_one, Nat.add_zero, List.getElem?_cons_zero] at h0
  exact ⟨b, off, e, h0, hr⟩

/-- Each holds what the other does. -/
def copiesIS (ss ts : List IV) : Prop := ∀ i, i < ts.length → copiesI (ss[i]?.getD noI) (ts[i]?.getD noI)

/-- Block B holds N slices, of which those of ts have been laid. -/
structure MI (W : World) (B N : Nat) (ts : List IV) : Prop where
  c : ∃ vs : List Value, Cel W B vs 24 ∧ vs.length = N ∧ ∀ i, i < ts.length → vs[i]? = some (ts[i]?.getD noI).v
  l : ∀ i, i < ts.length → IK W (B + 1) (ts[i]?.getD noI)
theorem MI.lt {W : World} {B N : Nat} {ts : List IV} (h : MI W B N ts) : B < W.heap.size := by
  obtain ⟨vs, h1, _⟩ := h.c
  exact h1.lt
theorem MI.below {W W' : World} {B N : Nat} {ts : List IV} (h : MI W B N ts) (b : Below W.heap.size W W') : MI W' B N ts := by
  obtain ⟨vs, h1, h2, h3⟩ := h.c
  exact ⟨⟨vs, h1.below b, h2, h3⟩, fun i hi => (h.l i hi).below b⟩
theorem MI.g {W : World} {B N : Nat} {ts : List IV} (h : MI W B N ts) : ISG W (some ⟨B, 0, none⟩) ts := fun i hi => by
  obtain ⟨vs, h1, h2, h3⟩ := h.c
  exact ⟨B, 0, rfl, by rw [Nat.zero_add, h1.cell i, h3 i hi], (h.l i hi).g⟩
theorem MI.step {W W1 : World} {B N k : Nat} {ts : List IV} {s : IV} (h : MI W B N ts) (hk : ts.length = k) (hkN : k < N) (b : Below W.heap.size W W1) (hs : IK W1 W.heap.size s) : MI (W1.setCell ⟨B, k, none⟩ s.v) B N (ts ++ [s]) := by
  have hB := h.lt
  obtain ⟨vs, h1, h2, h3⟩ := (h.below b).c
  have T : Touch (fun x => x = B) W1 (W1.setCell ⟨B, k, none⟩ s.v) := Touch.setCell (S := fun x => x = B) (Touch.refl _ _) rfl _
  refine ⟨⟨vs.set k s.v, h1.set _ _, by rw [List.length_set]; exact h2, fun i hi => ?_⟩, fun i hi => ?_⟩
  · rw [List.length_append, hk] at hi
    simp only [List.length_cons, List.length_nil] at hi
    by_cases e : i = k
    · subst e
      rw [List.getElem?_set_self (by omega), List.getElem?_append_right (by omega), hk]; simp
    · rw [List.getElem?_set_ne (by omega), List.getElem?_append_left (by omega)]
      exact h3 i (by omega)
  · rw [List.length_append, hk] at hi
    simp only [List.length_cons, List.length_nil] at hi
    by_cases e : i = k
    · subst e
      rw [List.getElem?_append_right (by omega), hk]
      simp only [Nat.sub_self, List.getElem?_cons_zero, Option.getD_some]
      exact (hs.mono (by omega)).touch T (fun x hx => by omega)
    · rw [List.getElem?_append_left (by omega)]
      exact (((h.l i (by omega)).below b)).touch T (fun x hx => by omega)

theorem Tryz.infoI : (Tryz.prog.info? 24).map (fun i => (i.zero, i.size, i.bytes)) = some (some (.slice none 0 0), 1, 24) := by kernel_rfl

end Go.Proofs.YtkpnhclaidcbdaaGreat
namespace Go.Proofs.YtkpnhclaidcbdaaGreat
open Go.RowKit
set_option linter.unusedVariables false

set_option maxHeartbeats 400000 in
theorem l4same_any (a c : Option Addr) (n m cap cap' : Nat) (xs ys : List Int) (w : World) (h : Ints w a n xs) (h' : Ints w c m ys) (hn : n ≤ 1048576) (hm : m ≤ 1048576) :
    Calls Tryz.prog 112 #[.slice a n cap, .slice c m cap'] w fun e w' => e = .returned (.bool (eqB xs ys)) ∧ Below w.heap.size w w' := by
  have hx := h.1
  have HX : Hid (xs.length = n) := hx
  have hy := h'.1
  have HY : Hid (ys.length = m) := hy
  clear hx hy
  by_cases hc : n = m
  · subst hc
    go_enter Tryz.func112, Tryz.ntmps112
    go_wp2_with fail
    go_loopw [5] (fun i wr => ∃ k : Nat, k ≤ n ∧ i = .int .i64 k ∧ Below w.heap.size w wr ∧ xs.take k = ys.take k) (fun i _ => n - (intOf i).toNat)
    case atStart => exact ⟨0, Nat.zero_le _, rfl, Below.refl _ _, rfl⟩
    case round =>
      obtain ⟨k, hk, rfl, hnx, hall⟩ := hrel
      have HA : Hid (xs.take k = ys.take k) := hall
      clear hall
      by_cases hlt : k < n
      · obtain ⟨b, off, rfl, hcell⟩ := (h.below hnx).pos (by omega)
        obtain ⟨b', off', rfl, hcell'⟩ := (h'.below hnx).pos (by omega)
        have hck := hcell k hlt
        have hck' := hcell' k hlt
        have hlt' : (k : Int) < (n : Int) := by omega
        clear hcell hcell' h h'
        go_wp2_with fail
        go_quiet (fail)
        cases he : (xs[k]?.getD 0 != ys[k]?.getD 0)
        · go_wp2
          go_roundw
          case rel => exact ⟨k + 1, by omega, by go_num, below_drewN hnx _, take_same_succ (by rw [HX.out]; exact hlt) (by rw [HY.out]; exact hlt) HA.out (by simpa using he)⟩
          case measure => simp [intOf]; omega
        · go_wp2
          go_ret
          exact ⟨ret_bool (by rw [eqB_false (k := k) (by simpa using he)]), below_drewN hnx _⟩
      · go_wp2
        go_ret
        exact ⟨ret_bool (by rw [eqB_true HX.out HY.out (by omega) HA.out]), hnx⟩
  · have hne : ((n : Int) != (m : Int)) = true := by simp; omega
    go_enter Tryz.func112, Tryz.ntmps112
    go_wp2
    go_ret
    exact ⟨ret_bool (by rw [eqB_len (by rw [HX.out, HY.out]; exact hc)]), Below.refl _ _⟩

set_option maxHeartbeats 400000 in
theorem equal_any (a c : Option Addr) (n m cap cap' : Nat) (xs ys : List Int) (w : World) (h : Ints w a n xs) (h' : Ints w c m ys) (hn : n ≤ 1048576) (hm : m ≤ 1048576) :
    Calls Tryz.prog 144 #[.slice a n cap, .slice c m cap'] w fun e w' => e = .returned (.bool (eqB xs ys)) ∧ Below w.heap.size w w' := by
  have hx := h.1
  have HX : Hid (xs.length = n) := hx
  have hy := h'.1
  have HY : Hid (ys.length = m) := hy
  clear hx hy
  by_cases hc : n = m
  · subst hc
    go_enter Tryz.func144, Tryz.ntmps144
    go_wp2_with fail
    go_loopw [5, 13] (fun _ i wr => ∃ k : Nat, k ≤ n ∧ i = .int .i64 k ∧ Below w.heap.size w wr ∧ xs.take k = ys.take k) (fun _ i _ => n - (intOf i).toNat)
    case atStart => exact ⟨0, Nat.zero_le _, rfl, Below.refl _ _, rfl⟩
    case round =>
      obtain ⟨k, hk, rfl, hnx, hall⟩ := hrel
      have HA : Hid (xs.take k = ys.take k) := hall
      clear hall
      by_cases hlt : k < n
      · obtain ⟨b, off, rfl, hcell⟩ := (h.below hnx).pos (by omega)
        obtain ⟨b', off', rfl, hcell'⟩ := (h'.below hnx).pos (by omega)
        have hck := hcell k hlt
        have hck' := hcell' k hlt
        have hlt' : (k : Int) < (n : Int) := by omega
        clear hcell hcell' h h'
        go_wp2_with fail
        go_quiet (fail)
        cases he : (xs[k]?.getD 0 != ys[k]?.getD 0)
        · go_wp2
          go_roundw
          case rel => exact ⟨k + 1, by omega, by go_num, below_drewN hnx _, take_same_succ (by rw [HX.out]; exact hlt) (by rw [HY.out]; exact hlt) HA.out (by simpa using he)⟩
          case measure => simp [intOf]; omega
        · go_wp2
          go_ret
          exact ⟨ret_bool (by rw [eqB_false (k := k) (by simpa using he)]), below_drewN hnx _⟩
      · go_wp2
        go_ret
        exact ⟨ret_bool (by rw [eqB_true HX.out HY.out (by omega) HA.out]), hnx⟩
  · have hne : ((n : Int) != (m : Int)) = true := by simp; omega
    go_enter Tryz.func144, Tryz.ntmps144
    go_wp2
    go_ret
    exact ⟨ret_bool (by rw [eqB_len (by rw [HX.out, HY.out]; exact hc)]), Below.refl _ _⟩

/-- The place of a part among others, from place k on. -/
def hasFrom (part : List Int) : Nat → List (List Int) → Int
  | _, [] => -1
  | k, x :: t => if eqB x part then k else hasFrom part (k + 1) t
def hasI (ss : List IV) (part : List Int) : Int := hasFrom part 0 (ss.map IV.x)
theorem has_drop {ss : List IV} {part : List Int} {k : Nat} (h : k < ss.length) : hasFrom part k ((ss.map IV.x).drop k) = if eqB (ss[k]?.getD noI).x part then (k : Int) else hasFrom part (k + 1) ((ss.map IV.x).drop (k + 1)) := by
  have hl : k < (ss.map IV.x).length := by simpa using h
  rw [List.drop_eq_getElem_cons hl, hasFrom, List.getElem?_eq_getElem h]
  simp
theorem has_end {ss : List IV} {part : List Int} {k : Nat} (h : ss.length ≤ k) : hasFrom part k ((ss.map IV.x).drop k) = -1 := by
  rw [List.drop_eq_nil_of_le (by simpa using h)]; rfl

set_option maxHeartbeats 800000 in
theorem shas_any (ad : Option Addr) (N cap : Nat) (ss : List IV) (c : Option Addr) (m cap' : Nat) (part : List Int) (w : World) (hN : ss.length = N) (hF : ISG w ad ss) (hN1 : N ≤ 1048576) (hP : Ints w c m part) (hm : m ≤ 1048576) :
    Calls Tryz.prog 111 #[.slice ad N cap, .slice c m cap'] w fun e w' => e = .returned (.int .i64 (hasI ss part)) ∧ Below w.heap.size w w' := by
  have HN : Hid (ss.length = N) := hN
  clear hN
  go_enter Tryz.func111, Tryz.ntmps111
  go_wp2_with fail
  go_loopw [5] (fun i wr => ∃ k : Nat, k ≤ N ∧ i = .int .i64 k ∧ Below w.heap.size w wr ∧ hasI ss part = hasFrom part k ((ss.map IV.x).drop k)) (fun i _ => N - (intOf i).toNat)
  case atStart => exact ⟨0, Nat.zero_le _, rfl, Below.refl _ _, rfl⟩
  case round =>
    obtain ⟨k, hk, rfl, hb, hall⟩ := hrel
    have HA : Hid _ := hall
    clear hall
    by_cases hlt : k < N
    · obtain ⟨b, off, rfl, hc, hr⟩ := (hF.below hb) k (by rw [HN.out]; exact hlt)
      have HD : Hid _ := has_drop (ss := ss) (part := part) (k := k) (by rw [HN.out]; exact hlt)
      generalize HG : ss[k]?.getD noI = g at *
      clear HG hF
      obtain ⟨ga, gn, gcap, gx⟩ := g
      have hc' : wr.cell? ⟨b, off + k, none⟩ = some (.slice ga gn gcap) := hc
      clear hc
      cases he : eqB gx part
      · go_wp2_with fail
        refine (l4same_any _ _ _ _ _ _ gx part _ hr.1 (hP.below hb) hr.2 hm).mono ?_
        rintro e w1 ⟨rfl, b1⟩
        rw [he]
        go_wp2
        go_roundw
        case rel => exact ⟨k + 1, by omega, by go_num, hb.trans (b1.mono hb.size), by rw [HA.out, HD.out]; simp only [he]; rfl⟩
        case measure => simp [intOf]; omega
      · go_wp2_with fail
        refine (l4same_any _ _ _ _ _ _ gx part _ hr.1 (hP.below hb) hr.2 hm).mono ?_
        rintro e w1 ⟨rfl, b1⟩
        rw [he]
        go_wp2
        go_ret
        exact ⟨ret_int (by rw [HA.out, HD.out]; simp only [he]; rfl), hb.trans (b1.mono hb.size)⟩
    · go_wp2
      go_ret
      exact ⟨ret_int (by rw [HA.out, has_end (by rw [HN.out]; omega)]), hb⟩

set_option maxHeartbeats 800000 in
theorem ihas_any (ad : Option Addr) (N cap : Nat) (ss : List IV) (c : Option Addr) (m cap' : Nat) (part : List Int) (w : World) (hN : ss.length = N) (hF : ISG w ad ss) (hN1 : N ≤ 1048576) (hP : Ints w c m part) (hm : m ≤ 1048576) :
    Calls Tryz.prog 129 #[.slice ad N cap, .slice c m cap'] w fun e w' => e = .returned (.int .i64 (hasI ss part)) ∧ Below w.heap.size w w' := by
  have HN : Hid (ss.length = N) := hN
  clear hN
  go_enter Tryz.func129, Tryz.ntmps129
  go_wp2_with fail
  go_loopw [5, 6, 9] (fun _ _ i wr => ∃ k : Nat, k ≤ N ∧ i = .int .i64 k ∧ Below w.heap.size w wr ∧ hasI ss part = hasFrom part k ((ss.map IV.x).drop k)) (fun _ _ i _ => N - (intOf i).toNat)
  case atStart => exact ⟨0, Nat.zero_le _, rfl, Below.refl _ _, rfl⟩
  case round =>
    obtain ⟨k, hk, rfl, hb, hall⟩ := hrel
    have HA : Hid _ := hall
    clear hall
    by_cases hlt : k < N
    · obtain ⟨b, off, rfl, hc, hr⟩ := (hF.below hb) k (by rw [HN.out]; exact hlt)
      have HD : Hid _ := has_drop (ss := ss) (part := part) (k := k) (by rw [HN.out]; exact hlt)
      generalize HG : ss[k]?.getD noI = g at *
      clear HG hF
      obtain ⟨ga, gn, gcap, gx⟩ := g
      have hc' : wr.cell? ⟨b, off + k, none⟩ = some (.slice ga gn gcap) := hc
      clear hc
      cases he : eqB gx part
      · go_wp2_with fail
        refine (equal_any _ _ _ _ _ _ gx part _ hr.1 (hP.below hb) hr.2 hm).mono ?_
        rintro e w1 ⟨rfl, b1⟩
        rw [he]
        go_wp2
        go_roundw
        case rel => exact ⟨k + 1, by omega, by go_num, hb.trans (b1.mono hb.size), by rw [HA.out, HD.out]; simp only [he]; rfl⟩
        case measure => simp [intOf]; omega
      · go_wp2_with fail
        refine (equal_any _ _ _ _ _ _ gx part _ hr.1 (hP.below hb) hr.2 hm).mono ?_
        rintro e w1 ⟨rfl, b1⟩
        rw [he]
        go_wp2
        go_ret
        exact ⟨ret_int (by rw [HA.out, HD.out]; simp only [he]; rfl), hb.trans (b1.mono hb.size)⟩
    · go_wp2
      go_ret
      exact ⟨ret_int (by rw [HA.out, has_end (by rw [HN.out]; omega)]), hb⟩

end Go.Proofs.YtkpnhclaidcbdaaGreat
namespace Go.Proofs.YtkpnhclaidcbdaaGreat
open Go.RowKit Go.Deep
set_option linter.unusedVariables false
set_option maxRecDepth 100000

def zeroB (C D : List Int) (K : Int) : Bool := allB 0 C && allB 0 D && (K == 0)
theorem not_true_of {b : Bool} (h : b = false) : ¬ b = true := fun e => by rw [h] at e; cases e
def zeroF (f : Frm) : Bool := zeroB f.1 f.2.1 f.2.2
theorem allB0 (zs : List Int) : allB 0 zs = decide (zs = List.replicate zs.length 0) := by
  induction zs with
  | nil => rfl
  | cons x xs ih =>
    simp only [allB, List.all_cons, List.length_cons, List.replicate_succ] at *
    rw [ih]
    by_cases hx : x = 0
    · subst hx; simp [inB]
    · have : inB x (-0) 0 = false := inB_not.2 (by omega)
      rw [this]; simp [hx]
theorem eqB0 {zs ys : List Int} (h : ys = List.replicate zs.length 0) : eqB zs ys = allB 0 zs := by rw [allB0, eqB, h]

end Go.Proofs.YtkpnhclaidcbdaaGreat
namespace Go.Proofs.YtkpnhclaidcbdaaGreat
open Go.RowKit Go.Deep
set_option linter.unusedVariables false
set_option maxRecDepth 100000

/-- A way may turn a pot. -/
def wrF (r : RowM) (v : Nat) : Bool := decide (v < r.adds.length) && !zeroF (r.adds[v]?.getD ([], [], 0))
def writesR (rs : List RowM) (v : Nat) : Bool := rs.any fun r => wrF r v
theorem writesR_snoc (rs : List RowM) (k : Nat) (hk : k < rs.length) (v : Nat) : writesR (rs.take (k + 1)) v = (writesR (rs.take k) v || wrF (rs[k]?.getD noR) v) := by
  rw [writesR, List.take_succ_eq_append_getElem hk, List.any_append, List.getElem?_eq_getElem hk]
  simp [writesR]
/-- Rows in memory that was made since; what is older may change. -/
structure JRo (n0 G cap : Nat) (xs : List Value) (rs : List RowM) (W : World) : Prop where
  o : W.ownsRow n0 36 4 (.slice (some ⟨G, 0, none⟩) rs.length cap) rs.length xs
  r : RowsOk W (fun k => k < n0 ∨ k = G) xs rs
theorem JR.old {w W : World} {G cap : Nat} {xs : List Value} {rs : List RowM} (j : JR w G cap xs rs W) : JRo w.heap.size G cap xs rs W := ⟨j.o, j.r⟩
theorem JRo.lt {n0 : Nat} {W : World} {G cap : Nat} {xs : List Value} {rs : List RowM} (j : JRo n0 G cap xs rs W) : n0 ≤ G ∧ G < W.heap.size := by
  rcases j.o.2 with ⟨h, _⟩ | ⟨g, cap', cur, h, hg, hh, _⟩
  · cases h
  · simp only [Value.slice.injEq, Option.some.injEq, Addr.mk.injEq, and_true, true_and] at h
    obtain ⟨rfl, _⟩ := h
    exact ⟨hg, lt_of_block hh⟩
theorem JRo.touch {S : Nat → Prop} {n0 : Nat} {W W' : World} {G cap : Nat} {xs : List Value} {rs : List RowM} (j : JRo n0 G cap xs rs W) (t : Touch S W W') (hS : ∀ k, S k → k < n0) : JRo n0 G cap xs rs W' :=
  ⟨own_off j.o (fun g hg hs => by
    have h1 := hS _ hs
    have h2 := j.lt
    have : some G = some g := hg
    simp only [Option.some.injEq] at this
    omega) t, j.r.map (fun _ _ f => f.touch (t.mono (fun k hk => Or.inl (hS k hk))))⟩
theorem JRo.below {n0 : Nat} {W W' : World} {G cap : Nat} {xs : List Value} {rs : List RowM} (j : JRo n0 G cap xs rs W) (b : Below W.heap.size W W') : JRo n0 G cap xs rs W' := j.touch (S := fun _ => False) (Touch.of b) (fun _ h => h.elim)

end Go.Proofs.YtkpnhclaidcbdaaGreat
namespace Go.Proofs.YtkpnhclaidcbdaaGreat
open Go.RowKit
set_option linter.unusedVariables false

section
variable {F : Fence} {n : Nat} {P : Program} {ops : Array Oper} {Q : Exit → Act → World → Prop} {md : Region.Mode} {S : World → Prop}

/-- Nothing is put off in a region. -/
def noDefer (ops : Array Oper) : Bool := ops.toList.all fun o => match o.op with
  | .defer _ => false
  | _ => true
theorem noDefer_spec (h : noDefer ops = true) {i : Nat} {o : Oper} (hi : ops[i]? = some o) : ∀ c, o.op ≠ .defer c := fun c e => by
  have hm : o ∈ ops.toList := by
    rw [Array.mem_toList_iff]
    exact Array.mem_of_getElem? hi
  have := List.all_eq_true.1 h o hm
  simp [e] at this
theorem wpIn_round {o : Oper} (hd : ∀ c, o.op ≠ .defer c) (hro : F.round = none) (l : Nat) {a : Act} {w : World} {K : Act → World → Prop} (h : o.wpIn F n P a w K Q) : o.wpIn (F.inRound l) n P a w K Q := by
  unfold Oper.wpIn at *
  refine ⟨h.1, ?_⟩
  have h2 := h.2
  rw [hro, Oper.semAt_none] at h2
  rw [Fence.inRound_round, Oper.semAt_some l _ _ hd]
  exact h2
theorem wpOpIn_round (hd : noDefer ops = true) (hro : F.round = none) (l : Nat) {i : Nat} {a : Act} {w : World} {K : Act → World → Prop} (h : wpOpIn F n P ops Q i K a w) : wpOpIn (F.inRound l) n P ops Q i K a w := by
  unfold wpOpIn at *
  cases hi : ops[i]? with
  | none => simp only [hi] at h ⊢; exact h
  | some o =>
    simp only [hi] at h ⊢
    split
    · rename_i hw
      simp only [hw, if_true] at h
      exact wpIn_round (noDefer_spec hd hi) hro l h
    · rename_i hw
      simp only [hw] at h
      exact h
theorem wpAnyIn_round (hd : noDefer ops = true) (hro : F.round = none) (l : Nat) : ∀ (fuel : Nat) (listed : Array Bool) (a : Act) (w : World), wpAnyIn F n P md ops Q fuel listed a w → wpAnyIn (F.inRound l) n P md ops Q fuel listed a w
  | 0, _, _, _, h => h
  | fuel + 1, _, _, _, h => ⟨h.1, fun i hi => wpOpIn_mono (fun a' w' h' => wpAnyIn_round hd hro l fuel _ a' w' h') (wpOpIn_round hd hro l (h.2 i hi))⟩
theorem wpIn_region_R {id : Nat} {a : Act} {w : World} (S : World → Prop) (l : Nat) (hm : P.follows .mixedOrders = true) (hd : noDefer ops = true)
    (h : wpAnyS Fence.wide n P .any ops Q S ops.size (Array.replicate ops.size false) a w.drew) : (Code.region id ops true).wpIn (Fence.wide.inRound l) n P Q a w :=
  wpIn_region_any hm (wpAnyIn_round hd rfl l _ _ _ _ (wpAnyIn_of_S _ _ _ _ h))

end
end Go.Proofs.YtkpnhclaidcbdaaGreat
namespace Go.Proofs.YtkpnhclaidcbdaaGreat
open Go.RowKit Go.Deep Go.Shelf
set_option linter.unusedVariables false
set_option maxRecDepth 100000
attribute [local go_sem] Oper.semAt_some

end Go.Proofs.YtkpnhclaidcbdaaGreat
namespace Go.Proofs.YtkpnhclaidcbdaaGreat
open Go.RowKit
set_option linter.unusedVariables false
set_option maxRecDepth 100000

theorem dot_zeros {xs : List Int} (h : ∀ i : Nat, xs[i]?.getD 0 = 0) (V : List Int) : ∀ k, dot xs V k = 0
  | 0 => rfl
  | k + 1 => by simp only [dot, dot_zeros h V k, h k]; omega
theorem allB0_get {xs : List Int} (h : allB 0 xs = true) (i : Nat) : xs[i]?.getD 0 = 0 := by
  rw [allB0] at h
  have h' := of_decide_eq_true h
  rw [h']
  by_cases hi : i < xs.length
  · rw [List.getElem?_replicate, if_pos hi]; rfl
  · rw [List.getElem?_replicate, if_neg hi]; rfl
theorem atX_zero {V U : List Int} {f : Frm} (h : zeroF f = true) : atX V U f = 0 := by
  unfold zeroF zeroB at h
  simp only [Bool.and_eq_true, beq_iff_eq] at h
  unfold atX atV
  rw [dot_zeros (allB0_get h.1.1), dot_zeros (allB0_get h.1.2), h.2]
  rfl
theorem wr_stays {V U : List Int} {r : RowM} {v : Nat} (h : wrF r v = false) : atX V U (r.adds[v]?.getD noX) = 0 := by
  unfold wrF at h
  by_cases hv : v < r.adds.length
  · rw [decide_eq_true hv, Bool.true_and] at h
    exact atX_zero (by simpa [noX] using h)
  · rw [List.getElem?_eq_none (by omega)]
    simp [noX, atX, atV, dot]
theorem rowEnd_at {V U : List Int} {r : RowM} {v : Nat} (hv : v < 3) : (rowEnd V U r)[v]?.getD 0 = V[v]?.getD 0 + atX V U (r.adds[v]?.getD noX) := by
  match v, hv with
  | 0, _ => rfl
  | 1, _ => rfl
  | 2, _ => rfl
theorem runB_three {N : Nat} {ls : List LV} {p : Nat} {V : List Int} {q : Nat} {U : List Int} (h : runB N ls p V q U = true) : p = 3 ∧ q = 2 ∧ ls.all LV.ok = true ∧ actB N ls = true := by
  unfold runB at h
  simp only [Bool.and_eq_true] at h
  have h1 := (okN_elim (by omega) h.1.2).1
  have h2 := (okN_elim (by omega) h.2).1
  exact ⟨by omega, by omega, (actB_six h.1.1).2, h.1.1⟩
theorem pots_three {N : Nat} {ls : List LV} {p : Nat} {V : List Int} {q : Nat} {U : List Int} (h : runB N ls p V q U = true) (hV : V.length = p) : (runPots N ls p V q U).length = 3 := by
  have h3 := (runB_three h).1
  have hg := (goL_len U ls 7 0 V []).1
  unfold runPots
  rw [if_pos h]
  split
  · omega
  · unfold endPots
    split
    · unfold runL; omega
    · omega
theorem writes_not {N : Nat} {ls : List LV} {p : Nat} {V : List Int} {q : Nat} {U : List Int} {v : Nat} (h : runB N ls p V q U = true) (hV : V.length = p) (hD : ∀ k, k < ls.length → (ls[k]?.getD noLV).f.D.length = (ls[k]?.getD noLV).f.m) (hv : v < 3) (hw : writesR (rowsL ls) v = false) : (runPots N ls p V q U)[v]?.getD 0 = V[v]?.getD 0 := by
  obtain ⟨h3, _, hall, _⟩ := runB_three h
  obtain ⟨r, hr, hf⟩ := runL_way (V := V) (U := U) (by omega) hall hD
  have hm : r ∈ rowsL ls := (List.mem_filter.1 (by rw [hr]; simp)).1
  have hwr : wrF r v = false := by
    unfold writesR at hw
    rw [List.any_eq_false] at hw
    simpa using hw r hm
  unfold runPots
  rw [if_pos h, hf.st]
  cases hs : r.stop
  · simp only [Bool.false_eq_true, if_false]
    rw [(hf.ad hs).1]
    unfold endPots
    split
    · rw [rowEnd_at hv, wr_stays hwr]; omega
    · rfl
  · rfl

/-- Truth values of pots, or none. -/
structure Bo (W : World) (a : Option Addr) (n : Nat) (f : Nat → Bool) : Prop where
  n3 : n ≤ 3
  c : 0 < n → ∃ G, a = some ⟨G, 0, none⟩ ∧ ∀ v, v < 3 → W.cell? ⟨G, v, none⟩ = some (.bool (f v))
theorem Bo.below {W W' : World} {a : Option Addr} {n : Nat} {f : Nat → Bool} (h : Bo W a n f) (b : Below W.heap.size W W') : Bo W' a n f := ⟨h.n3, fun h0 => by
  obtain ⟨G, e, hc⟩ := h.c h0
  exact ⟨G, e, fun v hv => by rw [b.cell (p := ⟨G, v, none⟩) (block_lt (hc v hv))]; exact hc v hv⟩⟩
theorem OwnBB.bo {W : World} {G : Nat} {f : Nat → Bool} (h : OwnBB W G f) : Bo W (some ⟨G, 0, none⟩) 3 f := ⟨Nat.le_refl _, fun _ => ⟨G, rfl, fun v hv => (h.at hv).1⟩⟩
theorem Bo.none (W : World) (a : Option Addr) (f : Nat → Bool) : Bo W a 0 f := ⟨by omega, fun h => by omega⟩
def mulN (b : Bool) : Nat := if b then 3 else 0
/-- Both answers of CatWrites, said alike. -/
def BoM (w w' : World) (e : Ending) (t : Bool) (f : Nat → Bool) : Prop := ∃ a n c, e = .returned (.slice a n c) ∧ n = mulN t ∧ Bo w' a n f ∧ Below w.heap.size w w'

end Go.Proofs.YtkpnhclaidcbdaaGreat
namespace Go.Proofs.YtkpnhclaidcbdaaGreat
open Go.RowKit
set_option linter.unusedVariables false
set_option maxRecDepth 100000

theorem fitG_of {V U : List Int} {gs : List FV} {r : RowM} (e : gs.map FV.frm = r.guards) : gs.all (fitB V U) = fitG V U r := by
  rw [fitG, ← e, List.all_map]
  rfl
theorem fits_fitG {V U : List Int} {gs ls ts : List FV} {a t : Nat} {st : Bool} {p q : Nat} {r : RowM} (e : gs.map FV.frm = r.guards) (h : fitsB gs ls ts a t st p q V U = true) : fitG V U r = true := by
  simp only [fitsB, Bool.and_eq_true] at h
  rw [← fitG_of e]; exact h.2
theorem fitG_fits {V U : List Int} {gs ls ts : List FV} {a t : Nat} {st : Bool} {p q : Nat} {r : RowM} (e : gs.map FV.frm = r.guards) (hr : rowB gs ls ts a t st = true) (hp : okN 3 10000 p V = true) (hq : okN 2 9 q U = true) : fitsB gs ls ts a t st p q V U = fitG V U r := by
  rw [fitsB, hr, hp, hq, fitG_of e]; rfl
theorem run_one {N : Nat} {ls : List LV} {p : Nat} {V : List Int} {q : Nat} {U : List Int} (h : runB N ls p V q U = true) (hc : runCode N ls p V q U = 1) : (runL U ls V).1 = false ∧ runPots N ls p V q U = (runL U ls V).2.1 ∧ runTells N ls p V q U = (runL U ls V).2.2 := by
  unfold runCode at hc
  rw [if_pos h] at hc
  unfold runPots runTells
  rw [if_pos h, if_pos h]
  cases hs : (runL U ls V).1
  · rw [hs] at hc
    simp only [Bool.false_eq_true, if_false, endCode] at hc ⊢
    split at hc
    · rename_i hk
      exact ⟨trivial, by simp [endPots, hk], by simp [endTells, hk]⟩
    · omega
  · rw [hs] at hc
    simp at hc
theorem atX_same {V O U : List Int} {f : Frm} (h : ∀ v, v < 3 → hasP f v = true → O[v]?.getD 0 = V[v]?.getD 0) : atX O U f = atX V U f := by
  have H : ∀ v, v < 3 → f.1[v]?.getD 0 * O[v]?.getD 0 = f.1[v]?.getD 0 * V[v]?.getD 0 := fun v hv => by
    by_cases hp : hasP f v = true
    · rw [h v hv hp]
    · have : f.1[v]?.getD 0 = 0 := by simpa [hasP] using hp
      rw [this]; simp
  simp only [atX, atV, dot, H 0 (by omega), H 1 (by omega), H 2 (by omega)]
theorem reads_row {V O U : List Int} {rs : List RowM} {r : RowM} (hm : r ∈ rs) (hr : ∀ v, v < 3 → readsR rs v = true → O[v]?.getD 0 = V[v]?.getD 0) : (∀ v : Nat, atX O U (r.adds[v]?.getD noX) = atX V U (r.adds[v]?.getD noX)) ∧ r.tells.map (atX O U) = r.tells.map (atX V U) := by
  refine ⟨fun v => ?_, List.map_congr_left fun f hf => atX_same fun v hv hp => hr v hv (by
    unfold readsR
    rw [List.any_eq_true]
    refine ⟨r, hm, ?_⟩
    have : (r.tells.any fun f => hasP f v) = true := List.any_eq_true.2 ⟨f, hf, hp⟩
    simp [this])⟩
  by_cases hv : v < r.adds.length
  · rw [List.getElem?_eq_getElem hv, Option.getD_some]
    refine atX_same fun u hu hp => hr u hu (by
      unfold readsR
      rw [List.any_eq_true]
      refine ⟨r, hm, ?_⟩
      have : (r.adds.any fun f => hasP f u) = true := List.any_eq_true.2 ⟨_, List.getElem_mem hv, hp⟩
      simp [this])
  · rw [List.getElem?_eq_none (by omega), Option.getD_none]
    exact atX_same fun u hu hp => by simp [hasP, noX] at hp
theorem way_is {V U : List Int} {ls : List LV} {r : RowM} (hV : V.length = 3) (hall : ls.all LV.ok = true) (hD : ∀ k, k < ls.length → (ls[k]?.getD noLV).f.D.length = (ls[k]?.getD noLV).f.m) (hm : r ∈ rowsL ls) (hf : fitG V U r = true) : Fits V U (runL U ls V) r := by
  obtain ⟨r0, h0, hF⟩ := runL_way (V := V) (U := U) hV hall hD
  have : r ∈ (rowsL ls).filter (fitG V U) := List.mem_filter.2 ⟨hm, hf⟩
  rw [h0] at this
  simp only [List.mem_singleton] at this
  subst this
  exact hF
/-- Two states in which only pots that are not read differ, and that go the same way. -/
theorem reads_same {N : Nat} {ls : List LV} {V O : List Int} {q : Nat} {U : List Int} {r : RowM} (h : runB N ls 3 V q U = true) (hV : V.length = 3) (hO : O.length = 3) (hD : ∀ k, k < ls.length → (ls[k]?.getD noLV).f.D.length = (ls[k]?.getD noLV).f.m)
    (hr : ∀ v, v < 3 → readsR (rowsL ls) v = true → O[v]?.getD 0 = V[v]?.getD 0) (hm : r ∈ rowsL ls) (f1 : fitG V U r = true) (f2 : fitG O U r = true) (c1 : runCode N ls 3 V q U = 1) (c2 : runCode N ls 3 O q U = 1) :
    (∀ v, v < 3 → (runPots N ls 3 V q U)[v]?.getD 0 - V[v]?.getD 0 = (runPots N ls 3 O q U)[v]?.getD 0 - O[v]?.getD 0) ∧ runTells N ls 3 V q U = runTells N ls 3 O q U ∧ (runPots N ls 3 V q U).length = 3 ∧ (runPots N ls 3 O q U).length = 3 := by
  have h' : runB N ls 3 O q U = true := by
    cases hb : runB N ls 3 O q U
    · rw [(run_no hb).1] at c2; cases c2
    · rfl
  obtain ⟨_, _, hall, _⟩ := runB_three h
  have A := way_is hV hall hD hm f1
  have B := way_is hO hall hD hm f2
  obtain ⟨s1, p1, t1⟩ := run_one h c1
  obtain ⟨s2, p2, t2⟩ := run_one h' c2
  have hs : r.stop = false := by rw [← A.st]; exact s1
  obtain ⟨e1, e2⟩ := reads_row (U := U) hm hr
  refine ⟨fun v hv => ?_, ?_, pots_three h hV, pots_three h' hO⟩
  · rw [p1, p2, (A.ad hs).1, (B.ad hs).1, rowEnd_at hv, rowEnd_at hv, e1 v]; omega
  · rw [t1, t2, (A.ad hs).2, (B.ad hs).2, e2]

end Go.Proofs.YtkpnhclaidcbdaaGreat
namespace Go.Proofs.YtkpnhclaidcbdaaGreat
open Go.RowKit
set_option linter.unusedVariables false
set_option maxRecDepth 100000

/-- A form of the common lengths, in two blocks of its own. -/
structure F32 (w : World) (lo B1 B2 : Nat) (C D : List Int) : Prop where
  k1 : Blk w B1 C
  k2 : Blk w B2 D
  l1 : C.length = 3
  l2 : D.length = 2
  b1 : lo ≤ B1
  b2 : lo ≤ B2
  ne : B1 ≠ B2
theorem F32.below {w w' : World} {lo B1 B2 : Nat} {C D : List Int} (h : F32 w lo B1 B2 C D) (b : Below w.heap.size w w') : F32 w' lo B1 B2 C D := ⟨h.k1.below b, h.k2.below b, h.l1, h.l2, h.b1, h.b2, h.ne⟩
theorem F32.setOther {w : World} {lo B1 B2 X : Nat} {C D : List Int} (h : F32 w lo B1 B2 C D) (h1 : B1 ≠ X) (h2 : B2 ≠ X) (i : Nat) (v : Value) : F32 (w.setCell ⟨X, i, none⟩ v) lo B1 B2 C D := ⟨h.k1.setOther h1 _ _, h.k2.setOther h2 _ _, h.l1, h.l2, h.b1, h.b2, h.ne⟩
theorem F32.setD {w : World} {lo B1 B2 : Nat} {C D : List Int} (h : F32 w lo B1 B2 C D) (i : Nat) (x : Int) : F32 (w.setCell ⟨B2, i, none⟩ (.int .i64 x)) lo B1 B2 C (D.set i x) := ⟨h.k1.setOther h.ne _ _, h.k2.set i x, h.l1, by rw [List.length_set]; exact h.l2, h.b1, h.b2, h.ne⟩
theorem F32.setC {w : World} {lo B1 B2 : Nat} {C D : List Int} (h : F32 w lo B1 B2 C D) (i : Nat) (x : Int) : F32 (w.setCell ⟨B1, i, none⟩ (.int .i64 x)) lo B1 B2 (C.set i x) D := ⟨h.k1.set i x, h.k2.setOther (fun e => h.ne e.symm) _ _, by rw [List.length_set]; exact h.l1, h.l2, h.b1, h.b2, h.ne⟩
theorem F32.mono {w : World} {lo lo' B1 B2 : Nat} {C D : List Int} (h : F32 w lo B1 B2 C D) (hl : lo' ≤ lo) : F32 w lo' B1 B2 C D := ⟨h.k1, h.k2, h.l1, h.l2, Nat.le_trans hl h.b1, Nat.le_trans hl h.b2, h.ne⟩
theorem szero_f (w : World) : Calls Tryz.prog 90 #[] w fun e w' => ∃ B1 B2, e = .returned (formV (some ⟨B1, 0, none⟩) 3 3 (some ⟨B2, 0, none⟩) 2 2 0) ∧ Below w.heap.size w w' ∧ F32 w' w.heap.size B1 B2 [0, 0, 0] [0, 0] :=
  (szero_any w).mono fun e w' ⟨B1, B2, he, hb, h1, h2, h3, k1, k2⟩ => ⟨B1, B2, he, hb, k1, k2, rfl, rfl, h1, h3, h2⟩

set_option maxHeartbeats 1600000 in
theorem num_f (a b k : Int) (w : World) : Calls Tryz.prog 121 #[.int .i64 a, .int .i64 b, .int .i64 k] w fun e w' => ∃ B1 B2, e = .returned (formV (some ⟨B1, 0, none⟩) 3 3 (some ⟨B2, 0, none⟩) 2 2 k) ∧ Below w.heap.size w w' ∧ F32 w' w.heap.size B1 B2 [0, 0, 0] [a, b] := by
  have bx := Cel.new w [.slice none 0 0, .slice none 0 0, .int .i64 0] 72
  have B0 := (Below.refl w.heap.size w).alloc (Nat.le_refl _) (.cells #[.slice none 0 0, .slice none 0 0, .int .i64 0] 72)
  go_enter Tryz.func121, Tryz.ntmps121
  go_wp2_with fail
  refine (szero_f _).mono ?_
  rintro e w1 ⟨B1, B2, rfl, b1, f1⟩
  have al := (Below.refl w1.heap.size w1).alloc (Nat.le_refl _) (.cells #[.slice (some ⟨B1, 0, none⟩) 3 3, .slice (some ⟨B2, 0, none⟩) 2 2, .int .i64 0] 72)
  have b2 := b1.trans (al.mono b1.size)
  have bx2 := bx.below b2
  have BW := B0.trans (b2.mono B0.size)
  have f2 := f1.below al
  have cb := Cel.new w1 [.slice (some ⟨B1, 0, none⟩) 3 3, .slice (some ⟨B2, 0, none⟩) 2 2, .int .i64 0] 72
  have z1 := f1.b1
  have z2 := f1.b2
  rw [World.size_alloc] at z1 z2
  have lt1 := f1.k1.lt
  have lt2 := f1.k2.lt
  obtain ⟨W1, hW1⟩ : ∃ W, W = w1.alloc (.cells #[.slice (some ⟨B1, 0, none⟩) 3 3, .slice (some ⟨B2, 0, none⟩) 2 2, .int .i64 0] 72) := ⟨_, rfl⟩
  have hbw := bx.lt
  have hlw : w.heap.size < w1.heap.size := (bx.below b1).lt
  go_upto_region 2 with fail
  rw [← hW1] at bx2 BW f2 cb ⊢
  clear hW1 bx B0 b1 al b2 f1
  have c0 := cb.cell 0
  have c1 := cb.cell 1
  have c2 := cb.cell 2
  simp only [List.getElem?_cons_zero, List.getElem?_cons_succ] at c0 c1 c2
  have d0 := f2.k2.cell 0 (by decide)
  have d1 := f2.k2.cell 1 (by decide)
  have e0 := f2.k2.free 0
  have e1 := f2.k2.free 1
  have q2 := cb.free 2
  have r0 := bx2.cell 0
  have r1 := bx2.cell 1
  have r2 := bx2.cell 2
  have g0 := bx2.free 0
  have g1 := bx2.free 1
  have g2 := bx2.free 2
  simp only [List.getElem?_cons_zero, List.getElem?_cons_succ] at r0 r1 r2
  have lt3 := bx2.lt
  have lt4 := cb.lt
  have lt5 := f2.k2.lt
  have n1 : ¬ B2 = w1.heap.size := by omega
  have n2 : ¬ B2 = w.heap.size := by omega
  have n3 : ¬ w1.heap.size = w.heap.size := by omega
  have n4 : ¬ w1.heap.size = B2 := by omega
  have n5 : ¬ w.heap.size = B2 := by omega
  have n6 : ¬ w.heap.size = w1.heap.size := by omega
  go_wp2
  refine bodyPost_ret (v := formV (some ⟨B1, 0, none⟩) 3 3 (some ⟨B2, 0, none⟩) 2 2 k) (by simp [results, Tryz.results121, go_sem, r0, r1, r2]) rfl ⟨B1, B2, rfl, ?_, ?_⟩
  · exact (((((BW.setCell (p := ⟨B2, 0, none⟩) (by show w.heap.size ≤ B2; omega) _).setCell (p := ⟨B2, 1, none⟩) (by show w.heap.size ≤ B2; omega) _).setCell (p := ⟨w1.heap.size, 2, none⟩) (by show w.heap.size ≤ w1.heap.size; omega) _).setCell (Nat.le_refl _) _).setCell (Nat.le_refl _) _).setCell (Nat.le_refl _) _
  · have m1 : B1 ≠ w1.heap.size := by omega
    have m2 : B1 ≠ w.heap.size := by omega
    exact ((((((f2.setD 0 a).setD 1 b).setOther m1 n1 2 _).setOther m2 n2 0 _).setOther m2 n2 1 _).setOther m2 n2 2 _).mono (by rw [World.size_alloc]; omega)

theorem Touch.setNewF {S : Nat → Prop} {w W : World} (h : Touch S w W) {B : Nat} (hB : w.heap.size ≤ B) (i : Nat) (v : Value) : Touch S w (W.setCell ⟨B, i, none⟩ v) :=
  ⟨h.os, h.tape, h.output, by rw [size_setCell]; exact h.size, fun k hk hs => by rw [Below.heap_setCell _ _ _ _ (by simp only []; omega)]; exact h.block k hk hs⟩

set_option maxHeartbeats 1600000 in
theorem with_f (B1 B2 v : Nat) (x K : Int) (lo : Nat) (C D : List Int) (w : World) (hf : F32 w lo B1 B2 C D) (hv : v < 3) :
    Calls Tryz.prog 120 #[formV (some ⟨B1, 0, none⟩) 3 3 (some ⟨B2, 0, none⟩) 2 2 K, .int .i64 v, .int .i64 x] w fun e w' => e = .returned (formV (some ⟨B1, 0, none⟩) 3 3 (some ⟨B2, 0, none⟩) 2 2 K) ∧ Touch (fun z => z = B1) w w' ∧ F32 w' lo B1 B2 (C.set v x) D := by
  have lt1 := hf.k1.lt
  have lt2 := hf.k2.lt
  have al := ((Below.refl w.heap.size w).alloc (Nat.le_refl _) (.cells #[.slice (some ⟨B1, 0, none⟩) 3 3, .slice (some ⟨B2, 0, none⟩) 2 2, .int .i64 K] 72)).alloc (by simp) (.cells #[.slice none 0 0, .slice none 0 0, .int .i64 0] 72)
  have pb := (Cel.new w [.slice (some ⟨B1, 0, none⟩) 3 3, .slice (some ⟨B2, 0, none⟩) 2 2, .int .i64 K] 72).alloc (.cells #[.slice none 0 0, .slice none 0 0, .int .i64 0] 72)
  have rb := Cel.new (w.alloc (.cells #[.slice (some ⟨B1, 0, none⟩) 3 3, .slice (some ⟨B2, 0, none⟩) 2 2, .int .i64 K] 72)) [.slice none 0 0, .slice none 0 0, .int .i64 0] 72
  rw [World.size_alloc] at rb
  have f2 := hf.below al
  obtain ⟨W1, hW1⟩ : ∃ W, W = (w.alloc (.cells #[.slice (some ⟨B1, 0, none⟩) 3 3, .slice (some ⟨B2, 0, none⟩) 2 2, .int .i64 K] 72)).alloc (.cells #[.slice none 0 0, .slice none 0 0, .int .i64 0] 72) := ⟨_, rfl⟩
  have hv3 : (v : Int) < 3 := by omega
  go_enter Tryz.func120, Tryz.ntmps120
  go_upto_region 1 with fail
  rw [← hW1] at al pb rb f2 ⊢
  clear hW1 hf
  have c0 := pb.cell 0
  have c1 := pb.cell 1
  have c2 := pb.cell 2
  have r0 := rb.cell 0
  have r1 := rb.cell 1
  have r2 := rb.cell 2
  have g0 := rb.free 0
  have g1 := rb.free 1
  have g2 := rb.free 2
  simp only [List.getElem?_cons_zero, List.getElem?_cons_succ] at c0 c1 c2 r0 r1 r2
  have d0 := f2.k1.cell v (by rw [f2.l1]; exact hv)
  have e0 := f2.k1.free v
  have lt3 := pb.lt
  have lt4 := rb.lt
  have lt5 := f2.k1.lt
  have n1 : ¬ B1 = w.heap.size := by omega
  have n2 : ¬ B1 = w.heap.size + 1 := by omega
  have n3 : ¬ w.heap.size = B1 := by omega
  have n4 : ¬ w.heap.size + 1 = B1 := by omega
  go_wp2
  refine bodyPost_ret (v := formV (some ⟨B1, 0, none⟩) 3 3 (some ⟨B2, 0, none⟩) 2 2 K) (by simp [results, Tryz.results120, go_sem, r0, r1, r2]) rfl ⟨rfl, ?_, ?_⟩
  · have t1 : Touch (fun z => z = B1) w (W1.setCell ⟨B1, v, none⟩ (.int .i64 x)) := Touch.setCell (S := fun z => z = B1) (Touch.of al) rfl _
    exact ((t1.setNewF (B := w.heap.size + 1) (by omega) 0 _).setNewF (B := w.heap.size + 1) (by omega) 1 _).setNewF (B := w.heap.size + 1) (by omega) 2 _
  · have m1 : B1 ≠ w.heap.size + 1 := n2
    have m2 : B2 ≠ w.heap.size + 1 := by omega
    exact (((f2.setC v x).setOther m1 m2 0 _).setOther m1 m2 1 _).setOther m1 m2 2 _

end Go.Proofs.YtkpnhclaidcbdaaGreat
namespace Go.Proofs.YtkpnhclaidcbdaaGreat
open Go.RowKit
section
variable {P : Program} {ops : Array Oper} {Q : Exit → Act → World → Prop} {md : Region.Mode} {S0 S : World → Prop} {s : Nat}
theorem tkE {i : Nat} {oi : Oper} {v : Value} {fuel : Nat} {listed : Array Bool} {a : Act} {w : World} (hi : ops[i]? = some oi) (hy : YieldsIf P ops S0 oi v a) (hS : S0 w ∧ S w)
    (h : wpAnyE P md ops Q S0 S s fuel (listed.setIfInBounds i true) (a.put oi.dst v) w)
    (hs : Region.noSelect ops = true := by kernel_rfl) (hf : Region.free md ops listed i = true := by kernel_rfl) (hr : (Region.ready md ops listed).contains i = true := by kernel_rfl) (his : i ≠ s := by decide)
    (hQ : ∀ c a w, Q (.panic c) (a.put oi.dst v) w → Q (.panic c) a w := by exact fun _ _ _ h => h) : wpAnyE P md ops Q S0 S s (fuel + 1) listed a w :=
  wpAnyE_take0 hi hs hf hr his hQ hy hS h
theorem tkL {i : Nat} {oi : Oper} {v : Value} {fuel : Nat} {listed : Array Bool} {a : Act} {w : World} (hi : ops[i]? = some oi) (hS : S0 w ∧ S w)
    (h : wpAnyE P md ops Q S0 S s fuel (listed.setIfInBounds i true) (a.put oi.dst v) w)
    (hw : Region.wanted oi (yielded ops a.tmps) = true := by rfl)
    (hy : ∀ w, S0 w → (execOp a.eval oi).run P w = .ok (.value v) w := by (intro wz hSw; (try dsimp only at hSw); go_simp; try (with_reducible rfl)))
    (hs : Region.noSelect ops = true := by kernel_rfl) (hf : Region.free md ops listed i = true := by kernel_rfl) (hr : (Region.ready md ops listed).contains i = true := by kernel_rfl) (his : i ≠ s := by decide)
    (hQ : ∀ c a w, Q (.panic c) (a.put oi.dst v) w → Q (.panic c) a w := by exact fun _ _ _ h => h) : wpAnyE P md ops Q S0 S s (fuel + 1) listed a w :=
  wpAnyE_take0 hi hs hf hr his hQ (Or.inl ⟨hw, hy⟩) hS h
theorem tkU {i : Nat} {oi : Oper} {fuel : Nat} {listed : Array Bool} {a : Act} {w : World} (hi : ops[i]? = some oi) (hS : S0 w ∧ S w)
    (h : wpAnyE P md ops Q S0 S s fuel (listed.setIfInBounds i true) (a.put oi.dst undef) w)
    (hw : Region.wanted oi (yielded ops a.tmps) = false := by kernel_rfl)
    (hs : Region.noSelect ops = true := by kernel_rfl) (hf : Region.free md ops listed i = true := by kernel_rfl) (hr : (Region.ready md ops listed).contains i = true := by kernel_rfl) (his : i ≠ s := by decide)
    (hQ : ∀ c a w, Q (.panic c) (a.put oi.dst undef) w → Q (.panic c) a w := by exact fun _ _ _ h => h) : wpAnyE P md ops Q S0 S s (fuel + 1) listed a w :=
  wpAnyE_take0 hi hs hf hr his hQ (Or.inr ⟨hw, rfl⟩) hS h
theorem tkM {i : Nat} {oi os : Oper} {v : Value} {fuel : Nat} {listed : Array Bool} {a : Act} {w : World} (hi : ops[i]? = some oi) (hos : ops[s]? = some os) (hS : S0 w ∧ S w)
    (h : wpAnyE P md ops Q S0 S s fuel (listed.setIfInBounds i true) (a.put oi.dst v) w)
    (hw : Region.wanted oi (yielded ops a.tmps) = true := by rfl)
    (hy : ∀ w, S w → (execOp a.eval oi).run P w = .ok (.value v) w := by (intro wz hSw; (try dsimp only at hSw); go_simp; try (with_reducible rfl)))
    (hs : Region.noSelect ops = true := by kernel_rfl) (hf : Region.free md ops listed i = true := by kernel_rfl) (hr : (Region.ready md ops listed).contains i = true := by kernel_rfl) (his : i ≠ s := by decide)
    (hls : listed.getD s true = false := by rfl) (hb : ∃ e ∈ os.after, Region.binds md e = true ∧ e.on = i := by simp [Region.binds])
    (hQ : ∀ c a w, Q (.panic c) (a.put oi.dst v) w → Q (.panic c) a w := by exact fun _ _ _ h => h) : wpAnyE P md ops Q S0 S s (fuel + 1) listed a w :=
  wpAnyE_take1 hi hos hs hf hr his hls hb hQ (Or.inl ⟨hw, hy⟩) hS h
end
end Go.Proofs.YtkpnhclaidcbdaaGreat
namespace Go.Proofs.YtkpnhclaidcbdaaGreat
open Go.RowKit
set_option linter.unusedVariables false
set_option maxRecDepth 100000

theorem bnd.set {M : Int} {zs : List Int} (h : bnd M zs) (i : Nat) {x : Int} (h1 : -M ≤ x) (h2 : x ≤ M) : bnd M (zs.set i x) := by
  intro j
  have hj := h j
  by_cases e : i = j
  · subst e
    by_cases hl : i < zs.length
    · rw [List.getElem?_set_self hl]; simp; omega
    · rw [List.getElem?_eq_none (by rw [List.length_set]; omega)]
      rw [List.getElem?_eq_none (by omega)] at hj
      exact hj
  · rw [List.getElem?_set_ne e]; exact hj

/-- A form that is being drawn: its two boxes, its two lists, the reader. -/
structure SmI (w W : World) (R : Nat) (a : Option Addr) (n cap : Nat) (bs : List Int) (q : Int) (fb B1 B2 : Nat) (C D : List Int) (K M : Int) : Prop where
  t : Touch (fun x => x = R) w W
  r : Rd W R a n cap bs q
  f : F32 W (w.heap.size + 1) B1 B2 C D
  cb : Cel W fb [.slice (some ⟨B1, 0, none⟩) 3 3, .slice (some ⟨B2, 0, none⟩) 2 2, .int .i64 K] 72
  rb : Cel W w.heap.size [.slice none 0 0, .slice none 0 0, .int .i64 0] 72
  hf : w.heap.size < fb
  n1 : B1 ≠ fb
  n2 : B2 ≠ fb
  hR : R < w.heap.size
  ha : 0 < n → ∀ b o, a = some ⟨b, o, none⟩ → b < w.heap.size
  sC : bnd M C
  sD : bnd M D
section
variable {w W W' : World} {R : Nat} {a : Option Addr} {n cap : Nat} {bs : List Int} {q : Int} {fb B1 B2 : Nat} {C D : List Int} {K M : Int}
theorem SmI.below (s : SmI w W R a n cap bs q fb B1 B2 C D K M) (b : Below W.heap.size W W') : SmI w W' R a n cap bs q fb B1 B2 C D K M :=
  ⟨s.t.trans (Touch.of b), s.r.below b, s.f.below b, s.cb.below b, s.rb.below b, s.hf, s.n1, s.n2, s.hR, s.ha, s.sC, s.sD⟩
theorem Blk.touchF {S : Nat → Prop} {B : Nat} {zs : List Int} (h : Blk W B zs) (t : Touch S W W') (hn : ¬ S B) : Blk W' B zs := by
  have hl := h.lt
  unfold Blk at *
  rw [t.block B hl hn]; exact h
theorem SmI.pick {q' : Int} (s : SmI w W R a n cap bs q fb B1 B2 C D K M) (t : Touch (fun x => x = R) W W') (r : Rd W' R a n cap bs q') : SmI w W' R a n cap bs q' fb B1 B2 C D K M := by
  have h1 := s.f.b1
  have h2 := s.f.b2
  have h3 := s.hR
  have h4 := s.hf
  exact ⟨s.t.trans t, r, ⟨s.f.k1.touchF t (by omega), s.f.k2.touchF t (by omega), s.f.l1, s.f.l2, s.f.b1, s.f.b2, s.f.ne⟩, s.cb.touch t (by omega), s.rb.touch t (by omega), s.hf, s.n1, s.n2, s.hR, s.ha, s.sC, s.sD⟩
theorem Rd.setNew (h : Rd W R a n cap bs q) {B : Nat} (hB : B ≠ R) (ha : 0 < n → ∀ b o, a = some ⟨b, o, none⟩ → b ≠ B) (i : Nat) (v : Value) : Rd (W.setCell ⟨B, i, none⟩ v) R a n cap bs q := by
  have t : Touch (fun x => x = B) W (W.setCell ⟨B, i, none⟩ v) := Touch.setCell (S := fun x => x = B) (Touch.refl _ _) rfl _
  exact h.touch t (fun e => hB e.symm) (fun h0 b o e => ha h0 b o e)
theorem SmI.setC (s : SmI w W R a n cap bs q fb B1 B2 C D K M) (i : Nat) {x : Int} (x1 : -M ≤ x) (x2 : x ≤ M) : SmI w (W.setCell ⟨B1, i, none⟩ (.int .i64 x)) R a n cap bs q fb B1 B2 (C.set i x) D K M := by
  have h1 := s.f.b1
  have h3 := s.hR
  exact ⟨s.t.setNewF (by omega) i _, s.r.setNew (by omega) (fun h0 b o e => by have := s.ha h0 b o e; omega) i _, s.f.setC i x, s.cb.setOther (fun e => s.n1 e.symm) _ _, s.rb.setOther (by omega) _ _, s.hf, s.n1, s.n2, s.hR, s.ha, s.sC.set i x1 x2, s.sD⟩
theorem SmI.setD (s : SmI w W R a n cap bs q fb B1 B2 C D K M) (i : Nat) {x : Int} (x1 : -M ≤ x) (x2 : x ≤ M) : SmI w (W.setCell ⟨B2, i, none⟩ (.int .i64 x)) R a n cap bs q fb B1 B2 C (D.set i x) K M := by
  have h1 := s.f.b2
  have h3 := s.hR
  exact ⟨s.t.setNewF (by omega) i _, s.r.setNew (by omega) (fun h0 b o e => by have := s.ha h0 b o e; omega) i _, s.f.setD i x, s.cb.setOther (fun e => s.n2 e.symm) _ _, s.rb.setOther (by omega) _ _, s.hf, s.n1, s.n2, s.hR, s.ha, s.sC, s.sD.set i x1 x2⟩
theorem lit_cell {L j : Nat} {xs : List Int} {t : TypeId} (h : Cel W L (xs.map (Value.int .i64)) t) (hj : j < xs.length) : W.cell? ⟨L, j, none⟩ = some (.int .i64 (xs[j]?.getD 0)) := by
  have := h.cell j
  rw [List.getElem?_map, List.getElem?_eq_getElem hj] at this
  rw [List.getElem?_eq_getElem hj]
  exact this
end
theorem lit_6 (j : Nat) (hj : j < 6) : -2 ≤ ([0, 0, 0, 1, -1, 2] : List Int)[j]?.getD 0 ∧ ([0, 0, 0, 1, -1, 2] : List Int)[j]?.getD 0 ≤ 2 := by
  rcases j with _ | _ | _ | _ | _ | _ | _ | _ | j <;> first | omega | simp
theorem lit_5 (j : Nat) (hj : j < 5) : -2 ≤ ([0, 0, 1, -1, 2] : List Int)[j]?.getD 0 ∧ ([0, 0, 1, -1, 2] : List Int)[j]?.getD 0 ≤ 2 := by
  rcases j with _ | _ | _ | _ | _ | _ | _ | _ | j <;> first | omega | simp
theorem lit_8 (j : Nat) (hj : j < 8) : -20 ≤ ([0, 0, 1, -1, 5, -5, 20, -20] : List Int)[j]?.getD 0 ∧ ([0, 0, 1, -1, 5, -5, 20, -20] : List Int)[j]?.getD 0 ≤ 20 := by
  rcases j with _ | _ | _ | _ | _ | _ | _ | _ | j <;> first | omega | simp

set_option maxHeartbeats 6400000 in
theorem small_f (R : Nat) (a : Option Addr) (n cap : Nat) (bs : List Int) (p : Int) (w : World) (hR : Rd w R a n cap bs p) (hp : 0 ≤ p) (hp1 : p ≤ 9000000) (ha : 0 < n → ∀ b o, a = some ⟨b, o, none⟩ → b < w.heap.size) :
    Calls Tryz.prog 80 #[.pointer (some ⟨R, 0, none⟩)] w fun e w' => ∃ B1 B2 C D K, e = .returned (formV (some ⟨B1, 0, none⟩) 3 3 (some ⟨B2, 0, none⟩) 2 2 K) ∧ Touch (fun x => x = R) w w' ∧ Rd w' R a n cap bs (p + 6) ∧ F32 w' w.heap.size B1 B2 C D ∧ bnd 2 C ∧ bnd 2 D ∧ -20 ≤ K ∧ K ≤ 20 := by
  have hRl := hR.c.lt
  have bx := Cel.new w [.slice none 0 0, .slice none 0 0, .int .i64 0] 72
  have B0 := (Below.refl w.heap.size w).alloc (Nat.le_refl _) (.cells #[.slice none 0 0, .slice none 0 0, .int .i64 0] 72)
  go_enter Tryz.func80, Tryz.ntmps80
  go_wp2_with fail
  refine (szero_f _).mono ?_
  rintro e w1 ⟨B1, B2, rfl, b1, f1⟩
  have al := (Below.refl w1.heap.size w1).alloc (Nat.le_refl _) (.cells #[.slice (some ⟨B1, 0, none⟩) 3 3, .slice (some ⟨B2, 0, none⟩) 2 2, .int .i64 0] 72)
  have z1 := f1.b1
  have z2 := f1.b2
  rw [World.size_alloc] at z1 z2
  have lt1 := f1.k1.lt
  have lt2 := f1.k2.lt
  have b2 := b1.trans (al.mono b1.size)
  have BW := B0.trans (b2.mono B0.size)
  have hlw : w.heap.size < w1.heap.size := (bx.below b1).lt
  have s0 : SmI w (w1.alloc (.cells #[.slice (some ⟨B1, 0, none⟩) 3 3, .slice (some ⟨B2, 0, none⟩) 2 2, .int .i64 0] 72)) R a n cap bs (p + ((0 : Nat) : Int)) w1.heap.size B1 B2 [0, 0, 0] [0, 0] 0 2 :=
    ⟨Touch.of BW, by have h := hR.below BW; rw [show p + ((0 : Nat) : Int) = p by omega]; exact h, (f1.below al).mono (by rw [World.size_alloc]; omega), Cel.new w1 _ _, bx.below b2, hlw, by omega, by omega, hRl, ha, fun i => by rcases i with _ | _ | _ | i <;> simp, fun i => by rcases i with _ | _ | i <;> simp⟩
  obtain ⟨fb, hfb⟩ : ∃ x, x = w1.heap.size := ⟨_, rfl⟩
  rw [← hfb] at s0
  go_wp2_with fail
  rw [← hfb]
  clear hfb hR bx B0 b1 f1 al b2 BW z1 z2 lt1 lt2 hlw
  go_loopw [4] (fun i wr => ∃ (k : Nat) (C : List Int), k ≤ 3 ∧ i = .int .i64 k ∧ SmI w wr R a n cap bs (p + (k : Int)) fb B1 B2 C [0, 0] 0 2) (fun i _ => 3 - (intOf i).toNat)
  case atStart => exact ⟨0, _, Nat.zero_le _, rfl, s0⟩
  case round =>
    clear s0
    obtain ⟨k, C, hk, rfl, s⟩ := hrel
    by_cases hlt : k < 3
    · have hk3 : (k : Int) < 3 := by omega
      go_upto_region 5 with fail
      refine wp_region_ends (fun X => X.cell? ⟨fb, 0, none⟩ = some (.slice (some ⟨B1, 0, none⟩) 3 3)) (fun _ => True) 9 (by kernel_rfl) ?_
      have sd := s.below ((Below.refl _ _).drew)
      obtain ⟨V0, hV0⟩ : ∃ V, V = wr.drew := ⟨_, rfl⟩
      rw [← hV0] at sd ⊢
      clear hV0 s
      have hS0 : (fun X : World => X.cell? ⟨fb, 0, none⟩ = some (.slice (some ⟨B1, 0, none⟩) 3 3)) V0 ∧ True := ⟨sd.cb.cell 0, trivial⟩
      refine tkL (i := 0) rfl hS0 ?_
      refine tkL (i := 1) rfl hS0 ?_
      refine tkL (i := 2) rfl hS0 ?_
      refine tkL (i := 4) rfl hS0 ?_
      refine wpAnyE_two (i := 3) (j := 5) (by kernel_rfl) rfl rfl (fun Kn hK => ?_) (fun Kn hK => ?_)
      · go_simp
        have al := (Below.refl V0.heap.size V0).alloc (Nat.le_refl _) (.cells #[.int .i64 0, .int .i64 0, .int .i64 0, .int .i64 1, .int .i64 (-1), .int .i64 2] 3)
        have lb0 := Cel.new V0 [.int .i64 0, .int .i64 0, .int .i64 0, .int .i64 1, .int .i64 (-1), .int .i64 2] 3
        have s4 := sd.below al
        refine hK.out _ _ ⟨s4.cb.cell 0, fun _ => trivial⟩ ?_
        clear hK
        refine wpAnyE_one (i := 5) (by kernel_rfl) rfl (fun Kn hK => ?_)
        go_simp
        refine (pick_any R a n cap bs _ 6 _ s4.r (by omega) (by omega) (by omega) (by omega)).mono ?_
        rintro e w5 ⟨r, r0, r1, rfl, t5, R5⟩
        obtain ⟨j, rfl⟩ := Int.eq_ofNat_of_zero_le r0
        have hj : j < 6 := by omega
        have hj' : (j : Int) < 6 := by omega
        have s5 := s4.pick t5 R5
        have lb := lb0.touch t5 (by have h1 := sd.hR; have h2 := sd.t.size; omega)
        dsimp only
        have hS5 : (fun X : World => X.cell? ⟨fb, 0, none⟩ = some (.slice (some ⟨B1, 0, none⟩) 3 3)) w5 ∧ True := ⟨s5.cb.cell 0, trivial⟩
        refine hK.out _ _ ⟨hS5.1, fun _ => trivial⟩ ?_
        clear hK hS0
        refine tkL (i := 6) rfl hS5 ?_
        have hc := lit_cell (xs := [0, 0, 0, 1, -1, 2]) lb hj
        have hy := lit_6 j hj
        generalize ([0, 0, 0, 1, -1, 2] : List Int)[j]?.getD 0 = y at hc hy
        refine wpAnyE_one (i := 7) (by kernel_rfl) rfl (fun Kn hK => ?_)
        go_simp
        refine hK.out _ _ ⟨hS5.1, fun _ => trivial⟩ ?_
        clear hK
        refine tkL (i := 8) rfl hS5 ?_
        have s6 := s5.setC k hy.1 hy.2
        have kc := s5.f.k1.cell k (by rw [s5.f.l1]; omega)
        have kf := s5.f.k1.free k
        have kl := s5.f.k1.lt
        refine wpAnyE_one (i := 9) (by kernel_rfl) rfl (fun Kn hK => ?_)
        go_simp
        refine hK.out _ _ ⟨s6.cb.cell 0, fun _ => trivial⟩ ?_
        clear hK
        refine wpAnyE_done (by kernel_rfl) ?_ _
        clear hS5 hc kc kf
        go_wp2
        go_roundw
        case rel => exact ⟨k + 1, _, by omega, by go_num, by have h := s6; rw [show p + (k : Int) + 1 = p + ((k + 1 : Nat) : Int) by omega] at h; exact h⟩
        case measure => simp [intOf]; omega
      · go_simp
        refine (pick_any R a n cap bs _ 6 _ sd.r (by omega) (by omega) (by omega) (by omega)).mono ?_
        rintro e w5 ⟨r, r0, r1, rfl, t5, R5⟩
        obtain ⟨j, rfl⟩ := Int.eq_ofNat_of_zero_le r0
        have hj : j < 6 := by omega
        have hj' : (j : Int) < 6 := by omega
        have s5a := sd.pick t5 R5
        dsimp only
        refine hK.out _ _ ⟨s5a.cb.cell 0, fun _ => trivial⟩ ?_
        clear hK
        refine wpAnyE_one (i := 3) (by kernel_rfl) rfl (fun Kn hK => ?_)
        go_simp
        have al := (Below.refl w5.heap.size w5).alloc (Nat.le_refl _) (.cells #[.int .i64 0, .int .i64 0, .int .i64 0, .int .i64 1, .int .i64 (-1), .int .i64 2] 3)
        have lb := Cel.new w5 [.int .i64 0, .int .i64 0, .int .i64 0, .int .i64 1, .int .i64 (-1), .int .i64 2] 3
        have s5 := s5a.below al
        have hS5 : (fun X : World => X.cell? ⟨fb, 0, none⟩ = some (.slice (some ⟨B1, 0, none⟩) 3 3)) (w5.alloc (.cells #[.int .i64 0, .int .i64 0, .int .i64 0, .int .i64 1, .int .i64 (-1), .int .i64 2] 3)) ∧ True := ⟨s5.cb.cell 0, trivial⟩
        refine hK.out _ _ ⟨hS5.1, fun _ => trivial⟩ ?_
        clear hK hS0
        refine tkL (i := 6) rfl hS5 ?_
        have hc := lit_cell (xs := [0, 0, 0, 1, -1, 2]) lb hj
        have hy := lit_6 j hj
        generalize ([0, 0, 0, 1, -1, 2] : List Int)[j]?.getD 0 = y at hc hy
        refine wpAnyE_one (i := 7) (by kernel_rfl) rfl (fun Kn hK => ?_)
        go_simp
        refine hK.out _ _ ⟨hS5.1, fun _ => trivial⟩ ?_
        clear hK
        refine tkL (i := 8) rfl hS5 ?_
        have s6 := s5.setC k hy.1 hy.2
        have kc := s5.f.k1.cell k (by rw [s5.f.l1]; omega)
        have kf := s5.f.k1.free k
        have kl := s5.f.k1.lt
        refine wpAnyE_one (i := 9) (by kernel_rfl) rfl (fun Kn hK => ?_)
        go_simp
        refine hK.out _ _ ⟨s6.cb.cell 0, fun _ => trivial⟩ ?_
        clear hK
        refine wpAnyE_done (by kernel_rfl) ?_ _
        clear hS5 hc kc kf
        go_wp2
        go_roundw
        case rel => exact ⟨k + 1, _, by omega, by go_num, by have h := s6; rw [show p + (k : Int) + 1 = p + ((k + 1 : Nat) : Int) by omega] at h; exact h⟩
        case measure => simp [intOf]; omega
    · have HK : Hid (k = 3) := show k = 3 by omega
      have hlt' : ¬ (k : Int) < 3 := by omega
      have s0 : SmI w wr R a n cap bs (p + 3 + ((0 : Nat) : Int)) fb B1 B2 C [0, 0] 0 2 := by have h := s; rw [show p + (k : Int) = p + 3 + ((0 : Nat) : Int) by have := HK.out; omega] at h; exact h
      clear s hk
      go_wp2_with fail
      go_loopw [5] (fun i wx => ∃ (l : Nat) (D : List Int), l ≤ 2 ∧ i = .int .i64 l ∧ SmI w wx R a n cap bs (p + 3 + (l : Int)) fb B1 B2 C D 0 2) (fun i _ => 2 - (intOf i).toNat)
      case atStart => exact ⟨0, _, Nat.zero_le _, rfl, s0⟩
      case round =>
        clear s0 HK
        obtain ⟨l, D, hl, rfl, s⟩ := hrel
        by_cases hl2 : l < 2
        · have hk3 : (l : Int) < 2 := by omega
          go_upto_region 9 with fail
          refine wp_region_ends (fun X => X.cell? ⟨fb, 1, none⟩ = some (.slice (some ⟨B2, 0, none⟩) 2 2)) (fun _ => True) 9 (by kernel_rfl) ?_
          have sd := s.below ((Below.refl _ _).drew)
          obtain ⟨V0, hV0⟩ : ∃ V, V = wr.drew := ⟨_, rfl⟩
          rw [← hV0] at sd ⊢
          clear hV0 s
          have hS0 : (fun X : World => X.cell? ⟨fb, 1, none⟩ = some (.slice (some ⟨B2, 0, none⟩) 2 2)) V0 ∧ True := ⟨sd.cb.cell 1, trivial⟩
          refine tkL (i := 0) rfl hS0 ?_
          refine tkL (i := 1) rfl hS0 ?_
          refine tkL (i := 2) rfl hS0 ?_
          refine tkL (i := 4) rfl hS0 ?_
          refine wpAnyE_two (i := 3) (j := 5) (by kernel_rfl) rfl rfl (fun Kn hK => ?_) (fun Kn hK => ?_)
          · go_simp
            have al := (Below.refl V0.heap.size V0).alloc (Nat.le_refl _) (.cells #[.int .i64 0, .int .i64 0, .int .i64 1, .int .i64 (-1), .int .i64 2] 3)
            have lb0 := Cel.new V0 [.int .i64 0, .int .i64 0, .int .i64 1, .int .i64 (-1), .int .i64 2] 3
            have s4 := sd.below al
            refine hK.out _ _ ⟨s4.cb.cell 1, fun _ => trivial⟩ ?_
            clear hK
            refine wpAnyE_one (i := 5) (by kernel_rfl) rfl (fun Kn hK => ?_)
            go_simp
            refine (pick_any R a n cap bs _ 5 _ s4.r (by omega) (by omega) (by omega) (by omega)).mono ?_
            rintro e w5 ⟨r, r0, r1, rfl, t5, R5⟩
            obtain ⟨j, rfl⟩ := Int.eq_ofNat_of_zero_le r0
            have hj : j < 5 := by omega
            have hj' : (j : Int) < 5 := by omega
            have s5 := s4.pick t5 R5
            have lb := lb0.touch t5 (by have h1 := sd.hR; have h2 := sd.t.size; omega)
            dsimp only
            have hS5 : (fun X : World => X.cell? ⟨fb, 1, none⟩ = some (.slice (some ⟨B2, 0, none⟩) 2 2)) w5 ∧ True := ⟨s5.cb.cell 1, trivial⟩
            refine hK.out _ _ ⟨hS5.1, fun _ => trivial⟩ ?_
            clear hK hS0
            refine tkL (i := 6) rfl hS5 ?_
            have hc := lit_cell (xs := [0, 0, 1, -1, 2]) lb hj
            have hy := lit_5 j hj
            generalize ([0, 0, 1, -1, 2] : List Int)[j]?.getD 0 = y at hc hy
            refine wpAnyE_one (i := 7) (by kernel_rfl) rfl (fun Kn hK => ?_)
            go_simp
            refine hK.out _ _ ⟨hS5.1, fun _ => trivial⟩ ?_
            clear hK
            refine tkL (i := 8) rfl hS5 ?_
            have s6 := s5.setD l hy.1 hy.2
            have kc := s5.f.k2.cell l (by rw [s5.f.l2]; omega)
            have kf := s5.f.k2.free l
            have kl := s5.f.k2.lt
            refine wpAnyE_one (i := 9) (by kernel_rfl) rfl (fun Kn hK => ?_)
            go_simp
            refine hK.out _ _ ⟨s6.cb.cell 1, fun _ => trivial⟩ ?_
            clear hK
            refine wpAnyE_done (by kernel_rfl) ?_ _
            clear hS5 hc kc kf
            go_wp2
            go_roundw
            case rel => exact ⟨l + 1, _, by omega, by go_num, by have h := s6; rw [show p + 3 + (l : Int) + 1 = p + 3 + ((l + 1 : Nat) : Int) by omega] at h; exact h⟩
            case measure => simp [intOf]; omega
          · go_simp
            refine (pick_any R a n cap bs _ 5 _ sd.r (by omega) (by omega) (by omega) (by omega)).mono ?_
            rintro e w5 ⟨r, r0, r1, rfl, t5, R5⟩
            obtain ⟨j, rfl⟩ := Int.eq_ofNat_of_zero_le r0
            have hj : j < 5 := by omega
            have hj' : (j : Int) < 5 := by omega
            have s5a := sd.pick t5 R5
            dsimp only
            refine hK.out _ _ ⟨s5a.cb.cell 1, fun _ => trivial⟩ ?_
            clear hK
            refine wpAnyE_one (i := 3) (by kernel_rfl) rfl (fun Kn hK => ?_)
            go_simp
            have al := (Below.refl w5.heap.size w5).alloc (Nat.le_refl _) (.cells #[.int .i64 0, .int .i64 0, .int .i64 1, .int .i64 (-1), .int .i64 2] 3)
            have lb := Cel.new w5 [.int .i64 0, .int .i64 0, .int .i64 1, .int .i64 (-1), .int .i64 2] 3
            have s5 := s5a.below al
            have hS5 : (fun X : World => X.cell? ⟨fb, 1, none⟩ = some (.slice (some ⟨B2, 0, none⟩) 2 2)) (w5.alloc (.cells #[.int .i64 0, .int .i64 0, .int .i64 1, .int .i64 (-1), .int .i64 2] 3)) ∧ True := ⟨s5.cb.cell 1, trivial⟩
            refine hK.out _ _ ⟨hS5.1, fun _ => trivial⟩ ?_
            clear hK hS0
            refine tkL (i := 6) rfl hS5 ?_
            have hc := lit_cell (xs := [0, 0, 1, -1, 2]) lb hj
            have hy := lit_5 j hj
            generalize ([0, 0, 1, -1, 2] : List Int)[j]?.getD 0 = y at hc hy
            refine wpAnyE_one (i := 7) (by kernel_rfl) rfl (fun Kn hK => ?_)
            go_simp
            refine hK.out _ _ ⟨hS5.1, fun _ => trivial⟩ ?_
            clear hK
            refine tkL (i := 8) rfl hS5 ?_
            have s6 := s5.setD l hy.1 hy.2
            have kc := s5.f.k2.cell l (by rw [s5.f.l2]; omega)
            have kf := s5.f.k2.free l
            have kl := s5.f.k2.lt
            refine wpAnyE_one (i := 9) (by kernel_rfl) rfl (fun Kn hK => ?_)
            go_simp
            refine hK.out _ _ ⟨s6.cb.cell 1, fun _ => trivial⟩ ?_
            clear hK
            refine wpAnyE_done (by kernel_rfl) ?_ _
            clear hS5 hc kc kf
            go_wp2
            go_roundw
            case rel => exact ⟨l + 1, _, by omega, by go_num, by have h := s6; rw [show p + 3 + (l : Int) + 1 = p + 3 + ((l + 1 : Nat) : Int) by omega] at h; exact h⟩
            case measure => simp [intOf]; omega
        · have hl2' : ¬ (l : Int) < 2 := by omega
          have s4 := s.below ((Below.refl wr.heap.size wr).alloc (Nat.le_refl _) (.cells #[.int .i64 0, .int .i64 0, .int .i64 1, .int .i64 (-1), .int .i64 5, .int .i64 (-5), .int .i64 20, .int .i64 (-20)] 3))
          have lb0 := Cel.new wr [.int .i64 0, .int .i64 0, .int .i64 1, .int .i64 (-1), .int .i64 5, .int .i64 (-5), .int .i64 20, .int .i64 (-20)] 3
          have hRR := s.hR
          have hsz := s.t.size
          clear s
          go_wp2_with fail
          refine (pick_any R a n cap bs _ 8 _ s4.r (by omega) (by omega) (by omega) (by omega)).mono ?_
          rintro e w5 ⟨r, r0, r1, rfl, t5, R5⟩
          obtain ⟨j, rfl⟩ := Int.eq_ofNat_of_zero_le r0
          have hj : j < 8 := by omega
          have hj' : (j : Int) < 8 := by omega
          have s5 := s4.pick t5 R5
          have lb := lb0.touch t5 (by omega)
          have hc := lit_cell (xs := [0, 0, 1, -1, 5, -5, 20, -20]) lb hj
          have hy := lit_8 j hj
          generalize ([0, 0, 1, -1, 5, -5, 20, -20] : List Int)[j]?.getD 0 = y at hc hy
          have d0 := s5.cb.cell 0
          have d1 := s5.cb.cell 1
          have d2 := s5.cb.cell 2
          have e2 := s5.cb.free 2
          have r0 := s5.rb.cell 0
          have r1 := s5.rb.cell 1
          have r2 := s5.rb.cell 2
          have g0 := s5.rb.free 0
          have g1 := s5.rb.free 1
          have g2 := s5.rb.free 2
          simp only [List.getElem?_cons_zero, List.getElem?_cons_succ] at d0 d1 d2 r0 r1 r2
          have l1 := s5.cb.lt
          have l2 := s5.rb.lt
          have h4 := s5.hf
          have n3 : ¬ w.heap.size = fb := by omega
          have n4 : ¬ fb = w.heap.size := by omega
          have q1 := s5.f.b1
          have q2 := s5.f.b2
          have F5 := s5.f
          have RR := s5.r
          have TT := s5.t
          have m1 := s5.n1
          have m2 := s5.n2
          have a5 := s5.ha
          have c5 := s5.sC
          have c6 := s5.sD
          clear s4 s5 t5 R5 lb lb0
          go_wp2
          refine bodyPost_ret (v := formV (some ⟨B1, 0, none⟩) 3 3 (some ⟨B2, 0, none⟩) 2 2 y) (by simp [results, Tryz.results80, go_sem, r0, r1, r2]) rfl ⟨B1, B2, C, D, y, rfl, ?_, ?_, ?_, c5, c6, hy.1, hy.2⟩
          · exact (((TT.setNewF (B := fb) (by omega) 2 _).setNewF (B := w.heap.size) (by omega) 0 _).setNewF (B := w.heap.size) (by omega) 1 _).setNewF (B := w.heap.size) (by omega) 2 _
          · have h := (((RR.setNew (B := fb) (by omega) (fun h0 b o e => by have := a5 h0 b o e; omega) 2 (.int .i64 y)).setNew (B := w.heap.size) (by omega) (fun h0 b o e => by have := a5 h0 b o e; omega) 0 (.slice (some ⟨B1, 0, none⟩) 3 3)).setNew (B := w.heap.size) (by omega) (fun h0 b o e => by have := a5 h0 b o e; omega) 1 (.slice (some ⟨B2, 0, none⟩) 2 2)).setNew (B := w.heap.size) (by omega) (fun h0 b o e => by have := a5 h0 b o e; omega) 2 (.int .i64 y)
            rw [show p + 3 + (l : Int) + 1 = p + 6 by omega] at h
            exact h
          · exact ((((F5.setOther m1 m2 2 _).setOther (by omega) (by omega) 0 _).setOther (by omega) (by omega) 1 _).setOther (by omega) (by omega) 2 _).mono (by omega)

end Go.Proofs.YtkpnhclaidcbdaaGreat
namespace Go.Proofs.YtkpnhclaidcbdaaGreat
open Go.RowKit
set_option linter.unusedVariables false
set_option maxRecDepth 100000

/-- A form was drawn: its lists lie in new memory, the reader has gone on. -/
structure FmN (w w' : World) (R : Nat) (a : Option Addr) (n cap : Nat) (bs : List Int) (p q : Int) (B1 nC B2 nD : Nat) (C D : List Int) : Prop where
  t : Touch (fun x => x = R) w w'
  r : Rd w' R a n cap bs q
  c : Ints w' (some ⟨B1, 0, none⟩) nC C
  d : Ints w' (some ⟨B2, 0, none⟩) nD D
  c4 : nC ≤ 4
  d4 : nD ≤ 4
  c1 : 1 ≤ nC
  d1 : 1 ≤ nD
  b1 : w.heap.size ≤ B1
  b2 : w.heap.size ≤ B2
  q0 : p ≤ q
  q1 : q ≤ p + 20
theorem Blk.own {W : World} {B base n : Nat} {zs : List Int} (h : Blk W B zs) (hl : zs.length = n) (hb : base ≤ B) (hn : n ≤ 1000) : W.ownsRow base 3 1 (.slice (some ⟨B, 0, none⟩) n n) n (zs.map (Value.int .i64)) := by
  subst hl
  exact ⟨by simp, .inr ⟨B, zs.length, _, rfl, hb, h, Nat.le_refl _, by unfold maxLen; omega, by simp, by rw [List.take_of_length_le (by simp)]⟩⟩
theorem Ints.setFar {W : World} {a : Option Addr} {n B : Nat} {zs : List Int} (h : Ints W a n zs) (hB : ∀ b o, a = some ⟨b, o, none⟩ → b ≠ B) (i : Nat) (v : Value) : Ints (W.setCell ⟨B, i, none⟩ v) a n zs := by
  refine ⟨h.1, fun k hk => ?_⟩
  obtain ⟨b, off, e, hc⟩ := h.2 k hk
  exact ⟨b, off, e, (World.cell?_of_block (Below.heap_setCell W ⟨B, i, none⟩ v b (hB b off e))).trans hc⟩
theorem Ints.cut {W : World} {a : Option Addr} {n k : Nat} {zs : List Int} (h : Ints W a n zs) (hk : k ≤ n) : Ints W a k (zs.take k) := by
  refine ⟨by rw [List.length_take, h.1]; omega, fun i hi => ?_⟩
  obtain ⟨b, off, e, hc⟩ := h.2 i (by omega)
  exact ⟨b, off, e, by rw [hc]; simp [hi]⟩
theorem FmN.set {w W : World} {R : Nat} {a : Option Addr} {n cap : Nat} {bs : List Int} {p q : Int} {B1 nC B2 nD : Nat} {C D : List Int} (h : FmN w W R a n cap bs p q B1 nC B2 nD C D) {B : Nat} (hB : w.heap.size ≤ B) (h1 : B1 ≠ B) (h2 : B2 ≠ B) (hR : R < w.heap.size) (ha : 0 < n → ∀ b o, a = some ⟨b, o, none⟩ → b < w.heap.size) (i : Nat) (v : Value) : FmN w (W.setCell ⟨B, i, none⟩ v) R a n cap bs p q B1 nC B2 nD C D :=
  ⟨h.t.setNewF hB i v, h.r.setNew (by omega) (fun h0 b o e => by have := ha h0 b o e; omega) i v, h.c.setFar (fun b o e => by simp only [Option.some.injEq, Addr.mk.injEq] at e; omega) i v, h.d.setFar (fun b o e => by simp only [Option.some.injEq, Addr.mk.injEq] at e; omega) i v, h.c4, h.d4, h.c1, h.d1, h.b1, h.b2, h.q0, h.q1⟩
theorem bnd.up {M N : Int} {zs : List Int} (h : bnd M zs) (hM : M ≤ N) : bnd N zs := fun i => by have := h i; omega
theorem litF_4 (j : Nat) (hj : j < 4) : -10000001 ≤ ([10000000, -10000000, 1000, 77] : List Int)[j]?.getD 0 ∧ ([10000000, -10000000, 1000, 77] : List Int)[j]?.getD 0 ≤ 10000001 := by
  rcases j with _ | _ | _ | _ | j <;> first | omega | simp
theorem litF_2 (j : Nat) (hj : j < 2) : -10000001 ≤ ([10000001, -10000001] : List Int)[j]?.getD 0 ∧ ([10000001, -10000001] : List Int)[j]?.getD 0 ≤ 10000001 := by
  rcases j with _ | _ | _ | _ | j <;> first | omega | simp
theorem litF_3 (j : Nat) (hj : j < 3) : -10000001 ≤ ([10000001, -10000001, 10000000] : List Int)[j]?.getD 0 ∧ ([10000001, -10000001, 10000000] : List Int)[j]?.getD 0 ≤ 10000001 := by
  rcases j with _ | _ | _ | _ | j <;> first | omega | simp

set_option maxHeartbeats 12800000 in
theorem form_f (R : Nat) (a : Option Addr) (n cap : Nat) (bs : List Int) (p N : Int) (w : World) (hR : Rd w R a n cap bs p) (hp : 0 ≤ p) (hp1 : p ≤ 8000000) (hN : 1 ≤ N) (hN1 : N ≤ 1000) (ha : 0 < n → ∀ b o, a = some ⟨b, o, none⟩ → b < w.heap.size) :
    Calls Tryz.prog 79 #[.pointer (some ⟨R, 0, none⟩), .int .i64 N] w fun e w' => ∃ B1 nC cC B2 nD cD K C D q, e = .returned (formV (some ⟨B1, 0, none⟩) nC cC (some ⟨B2, 0, none⟩) nD cD K) ∧ FmN w w' R a n cap bs p q B1 nC B2 nD C D := by
  have hRl := hR.c.lt
  have bx := Cel.new w [.slice none 0 0, .slice none 0 0, .int .i64 0] 72
  have B0 := (Below.refl w.heap.size w).alloc (Nat.le_refl _) (.cells #[.slice none 0 0, .slice none 0 0, .int .i64 0] 72)
  obtain ⟨i0, hi, hz0, hz1, hz2⟩ := info_parts Tryz.infoInt
  go_enter Tryz.func79, Tryz.ntmps79
  go_wp2_with fail
  refine (small_f R a n cap bs p _ (hR.below B0) hp (by omega) (fun h0 b o e => by have := ha h0 b o e; have := B0.size; omega)).mono ?_
  rintro e w1 ⟨B1, B2, C, D, K, rfl, t1, R1, f1, s1, s2, s3, s4⟩
  have al := (Below.refl w1.heap.size w1).alloc (Nat.le_refl _) (.cells #[.slice (some ⟨B1, 0, none⟩) 3 3, .slice (some ⟨B2, 0, none⟩) 2 2, .int .i64 K] 72)
  have z1 := f1.b1
  have z2 := f1.b2
  have z3 := t1.size
  rw [World.size_alloc] at z1 z2 z3
  have lt1 := f1.k1.lt
  have lt2 := f1.k2.lt
  have s0 : SmI w (w1.alloc (.cells #[.slice (some ⟨B1, 0, none⟩) 3 3, .slice (some ⟨B2, 0, none⟩) 2 2, .int .i64 K] 72)) R a n cap bs (p + 6) w1.heap.size B1 B2 C D K 10000001 :=
    ⟨((Touch.of B0).trans t1).trans (Touch.of al), R1.below al, (f1.below al).mono (by rw [World.size_alloc]; omega), Cel.new w1 _ _, (bx.touch t1 (by omega)).below al, by omega, by omega, by omega, hRl, ha, s1.up (by omega), s2.up (by omega)⟩
  obtain ⟨fb, hfb⟩ : ∃ x, x = w1.heap.size := ⟨_, rfl⟩
  obtain ⟨W2, hW2⟩ : ∃ W, W = w1.alloc (.cells #[.slice (some ⟨B1, 0, none⟩) 3 3, .slice (some ⟨B2, 0, none⟩) 2 2, .int .i64 K] 72) := ⟨_, rfl⟩
  rw [← hfb, ← hW2] at s0
  go_wp2_with fail
  rw [← hfb, ← hW2]
  clear hfb hW2 hR bx B0 t1 R1 f1 al z1 z2 z3 lt1 lt2 s1 s2
  refine (pick_any R a n cap bs (p + 6) 4 _ s0.r (by omega) (by omega) (by omega) (by omega)).mono ?_
  rintro e w3 ⟨r, r0, r1, rfl, t3, R3⟩
  have s := s0.pick t3 R3
  clear s0 t3 R3
  go_upto_if 10 with fail
  go_cut [] (fun wx => ∃ C q, SmI w wx R a n cap bs q fb B1 B2 C D K 10000001 ∧ p ≤ q ∧ q ≤ p + 9)
  case first =>
    by_cases hr : r = 0
    · have hr' : (r == 0) = true := by simpa using hr
      go_upto_region 3 with fail
      clear hr hr' r0 r1
      refine wp_region_ends (fun X => X.cell? ⟨fb, 0, none⟩ = some (.slice (some ⟨B1, 0, none⟩) 3 3)) (fun _ => True) 10 (by kernel_rfl) ?_
      have sd := s.below ((Below.refl _ _).drew)
      obtain ⟨V0, hV0⟩ : ∃ V, V = w3.drew := ⟨_, rfl⟩
      rw [← hV0] at sd ⊢
      clear hV0 s
      have hS0 : (fun X : World => X.cell? ⟨fb, 0, none⟩ = some (.slice (some ⟨B1, 0, none⟩) 3 3)) V0 ∧ True := ⟨sd.cb.cell 0, trivial⟩
      refine tkL (i := 0) rfl hS0 ?_
      refine tkL (i := 1) rfl hS0 ?_
      refine tkL (i := 2) rfl hS0 ?_
      refine tkL (i := 5) rfl hS0 ?_
      clear hS0
      refine wpAnyE_two (i := 3) (j := 4) (by kernel_rfl) rfl rfl (fun Kn hK => ?_) (fun Kn hK => ?_)
      · go_simp
        refine (pick_any R a n cap bs _ 3 _ sd.r (by omega) (by omega) (by omega) (by omega)).mono ?_
        rintro e wA ⟨ri, r0, r1, rfl, t5, R5⟩
        obtain ⟨i, rfl⟩ := Int.eq_ofNat_of_zero_le r0
        have hi : i < 3 := by omega
        have hi' : (i : Int) < 3 := by omega
        clear r0 r1
        have sa := sd.pick t5 R5
        clear t5 R5
        dsimp only
        refine hK.out _ _ ⟨sa.cb.cell 0, fun _ => trivial⟩ ?_
        clear hK
        refine wpAnyE_two (i := 4) (j := 6) (by kernel_rfl) rfl rfl (fun Kn hK => ?_) (fun Kn hK => ?_)
        · go_simp
          have al := (Below.refl wA.heap.size wA).alloc (Nat.le_refl _) (.cells #[.int .i64 10000000, .int .i64 (-10000000), .int .i64 1000, .int .i64 77] 3)
          have lb := Cel.new wA [.int .i64 10000000, .int .i64 (-10000000), .int .i64 1000, .int .i64 77] 3
          have sb := sa.below al
          clear al
          refine hK.out _ _ ⟨sb.cb.cell 0, fun _ => trivial⟩ ?_
          clear hK
          refine wpAnyE_one (i := 6) (by kernel_rfl) rfl (fun Kn hK => ?_)
          go_simp
          refine (pick_any R a n cap bs _ 4 _ sb.r (by omega) (by omega) (by omega) (by omega)).mono ?_
          rintro e wB ⟨rj, r0, r1, rfl, t5, R5⟩
          obtain ⟨j, rfl⟩ := Int.eq_ofNat_of_zero_le r0
          have hj : j < 4 := by omega
          have hj' : (j : Int) < 4 := by omega
          clear r0 r1
          have sc := sb.pick t5 R5
          replace lb := lb.touch t5 (by have h1 := sa.hR; have h2 := sa.t.size; omega)
          clear t5 R5
          dsimp only
          refine hK.out _ _ ⟨sc.cb.cell 0, fun _ => trivial⟩ ?_
          clear hK
          have hS5 : (fun X : World => X.cell? ⟨fb, 0, none⟩ = some (.slice (some ⟨B1, 0, none⟩) 3 3)) wB ∧ True := ⟨sc.cb.cell 0, trivial⟩
          refine tkL (i := 7) rfl hS5 ?_
          have hc := lit_cell (xs := [10000000, -10000000, 1000, 77]) lb hj
          have hy := litF_4 j hj
          generalize ([10000000, -10000000, 1000, 77] : List Int)[j]?.getD 0 = y at hc hy
          refine wpAnyE_one (i := 8) (by kernel_rfl) rfl (fun Kn hK => ?_)
          go_simp
          refine hK.out _ _ ⟨sc.cb.cell 0, fun _ => trivial⟩ ?_
          clear hK
          refine tkL (i := 9) rfl hS5 ?_
          have s6 := sc.setC i hy.1 hy.2
          have kc := sc.f.k1.cell i (by rw [sc.f.l1]; omega)
          have kf := sc.f.k1.free i
          have kl := sc.f.k1.lt
          refine wpAnyE_one (i := 10) (by kernel_rfl) rfl (fun Kn hK => ?_)
          go_simp
          refine hK.out _ _ ⟨s6.cb.cell 0, fun _ => trivial⟩ ?_
          clear hK
          refine wpAnyE_done (by kernel_rfl) ?_ _
          clear hS5 hc kc kf lb
          go_wp2
          go_meet
          case rel => exact ⟨_, _, s6, by omega, by omega⟩
        · go_simp
          refine (pick_any R a n cap bs _ 4 _ sa.r (by omega) (by omega) (by omega) (by omega)).mono ?_
          rintro e wB ⟨rj, r0, r1, rfl, t5, R5⟩
          obtain ⟨j, rfl⟩ := Int.eq_ofNat_of_zero_le r0
          have hj : j < 4 := by omega
          have hj' : (j : Int) < 4 := by omega
          clear r0 r1
          have sb := sa.pick t5 R5
          clear t5 R5
          dsimp only
          refine hK.out _ _ ⟨sb.cb.cell 0, fun _ => trivial⟩ ?_
          clear hK
          refine wpAnyE_one (i := 4) (by kernel_rfl) rfl (fun Kn hK => ?_)
          go_simp
          have al := (Below.refl wB.heap.size wB).alloc (Nat.le_refl _) (.cells #[.int .i64 10000000, .int .i64 (-10000000), .int .i64 1000, .int .i64 77] 3)
          have lb := Cel.new wB [.int .i64 10000000, .int .i64 (-10000000), .int .i64 1000, .int .i64 77] 3
          have sc := sb.below al
          clear al
          refine hK.out _ _ ⟨sc.cb.cell 0, fun _ => trivial⟩ ?_
          clear hK
          have hS5 : (fun X : World => X.cell? ⟨fb, 0, none⟩ = some (.slice (some ⟨B1, 0, none⟩) 3 3)) (wB.alloc (.cells #[.int .i64 10000000, .int .i64 (-10000000), .int .i64 1000, .int .i64 77] 3)) ∧ True := ⟨sc.cb.cell 0, trivial⟩
          refine tkL (i := 7) rfl hS5 ?_
          have hc := lit_cell (xs := [10000000, -10000000, 1000, 77]) lb hj
          have hy := litF_4 j hj
          generalize ([10000000, -10000000, 1000, 77] : List Int)[j]?.getD 0 = y at hc hy
          refine wpAnyE_one (i := 8) (by kernel_rfl) rfl (fun Kn hK => ?_)
          go_simp
          refine hK.out _ _ ⟨sc.cb.cell 0, fun _ => trivial⟩ ?_
          clear hK
          refine tkL (i := 9) rfl hS5 ?_
          have s6 := sc.setC i hy.1 hy.2
          have kc := sc.f.k1.cell i (by rw [sc.f.l1]; omega)
          have kf := sc.f.k1.free i
          have kl := sc.f.k1.lt
          refine wpAnyE_one (i := 10) (by kernel_rfl) rfl (fun Kn hK => ?_)
          go_simp
          refine hK.out _ _ ⟨s6.cb.cell 0, fun _ => trivial⟩ ?_
          clear hK
          refine wpAnyE_done (by kernel_rfl) ?_ _
          clear hS5 hc kc kf lb
          go_wp2
          go_meet
          case rel => exact ⟨_, _, s6, by omega, by omega⟩
      · go_simp
        have al := (Below.refl V0.heap.size V0).alloc (Nat.le_refl _) (.cells #[.int .i64 10000000, .int .i64 (-10000000), .int .i64 1000, .int .i64 77] 3)
        have lb := Cel.new V0 [.int .i64 10000000, .int .i64 (-10000000), .int .i64 1000, .int .i64 77] 3
        have sa := sd.below al
        clear al
        refine hK.out _ _ ⟨sa.cb.cell 0, fun _ => trivial⟩ ?_
        clear hK
        refine wpAnyE_one (i := 3) (by kernel_rfl) rfl (fun Kn hK => ?_)
        go_simp
        refine (pick_any R a n cap bs _ 3 _ sa.r (by omega) (by omega) (by omega) (by omega)).mono ?_
        rintro e wA ⟨ri, r0, r1, rfl, t5, R5⟩
        obtain ⟨i, rfl⟩ := Int.eq_ofNat_of_zero_le r0
        have hi : i < 3 := by omega
        have hi' : (i : Int) < 3 := by omega
        clear r0 r1
        have sb := sa.pick t5 R5
        replace lb := lb.touch t5 (by have h1 := sd.hR; have h2 := sd.t.size; omega)
        clear t5 R5
        dsimp only
        refine hK.out _ _ ⟨sb.cb.cell 0, fun _ => trivial⟩ ?_
        clear hK
        refine wpAnyE_one (i := 6) (by kernel_rfl) rfl (fun Kn hK => ?_)
        go_simp
        refine (pick_any R a n cap bs _ 4 _ sb.r (by omega) (by omega) (by omega) (by omega)).mono ?_
        rintro e wB ⟨rj, r0, r1, rfl, t5, R5⟩
        obtain ⟨j, rfl⟩ := Int.eq_ofNat_of_zero_le r0
        have hj : j < 4 := by omega
        have hj' : (j : Int) < 4 := by omega
        clear r0 r1
        have sc := sb.pick t5 R5
        replace lb := lb.touch t5 (by have h1 := sd.hR; have h2 := sd.t.size; omega)
        clear t5 R5
        dsimp only
        refine hK.out _ _ ⟨sc.cb.cell 0, fun _ => trivial⟩ ?_
        clear hK
        have hS5 : (fun X : World => X.cell? ⟨fb, 0, none⟩ = some (.slice (some ⟨B1, 0, none⟩) 3 3)) wB ∧ True := ⟨sc.cb.cell 0, trivial⟩
        refine tkL (i := 7) rfl hS5 ?_
        have hc := lit_cell (xs := [10000000, -10000000, 1000, 77]) lb hj
        have hy := litF_4 j hj
        generalize ([10000000, -10000000, 1000, 77] : List Int)[j]?.getD 0 = y at hc hy
        refine wpAnyE_one (i := 8) (by kernel_rfl) rfl (fun Kn hK => ?_)
        go_simp
        refine hK.out _ _ ⟨sc.cb.cell 0, fun _ => trivial⟩ ?_
        clear hK
        refine tkL (i := 9) rfl hS5 ?_
        have s6 := sc.setC i hy.1 hy.2
        have kc := sc.f.k1.cell i (by rw [sc.f.l1]; omega)
        have kf := sc.f.k1.free i
        have kl := sc.f.k1.lt
        refine wpAnyE_one (i := 10) (by kernel_rfl) rfl (fun Kn hK => ?_)
        go_simp
        refine hK.out _ _ ⟨s6.cb.cell 0, fun _ => trivial⟩ ?_
        clear hK
        refine wpAnyE_done (by kernel_rfl) ?_ _
        clear hS5 hc kc kf lb
        go_wp2
        go_meet
        case rel => exact ⟨_, _, s6, by omega, by omega⟩
    · have hr' : (r == 0) = false := by simpa using hr
      go_wp2
      go_meet
      case rel => exact ⟨_, _, s, by omega, by omega⟩
  case rest =>
    clear s r0 r1
    obtain ⟨C, q, s0, q0, q1⟩ := hcut
    go_wp2_with fail
    refine (pick_any R a n cap bs q N _ s0.r (by omega) (by omega) (by omega) (by omega)).mono ?_
    rintro e w4 ⟨u, u0, u1, rfl, t4, R4⟩
    have s := s0.pick t4 R4
    clear s0 t4 R4
    by_cases hu : 0 < u
    · have c0 := s.cb.cell 0
      have c1 := s.cb.cell 1
      have c2 := s.cb.cell 2
      have g0 := s.rb.cell 0
      have g1 := s.rb.cell 1
      have g2 := s.rb.cell 2
      have h0 := s.rb.free 0
      have h1 := s.rb.free 1
      have h2 := s.rb.free 2
      simp only [List.getElem?_cons_zero, List.getElem?_cons_succ] at c0 c1 c2 g0 g1 g2
      have l1 := s.cb.lt
      have l2 := s.rb.lt
      have hf := s.hf
      have b1 := s.f.b1
      have b2 := s.f.b2
      have m1 : ¬ w.heap.size = fb := by omega
      have m2 : ¬ fb = w.heap.size := by omega
      go_wp2
      refine bodyPost_ret (v := formV (some ⟨B1, 0, none⟩) 3 3 (some ⟨B2, 0, none⟩) 2 2 K) (by simp [results, Tryz.results79, go_sem, g0, g1, g2]) rfl ⟨B1, 3, 3, B2, 2, 2, K, C, D, q + 1, rfl, ?_⟩
      exact (((FmN.mk s.t s.r (s.f.k1.ints' s.f.l1) (s.f.k2.ints' s.f.l2) (by omega) (by omega) (by omega) (by omega) (by omega) (by omega) (by omega) (by omega)).set (B := w.heap.size) (Nat.le_refl _) (by omega) (by omega) hRl ha 0 _).set (B := w.heap.size) (Nat.le_refl _) (by omega) (by omega) hRl ha 1 _).set (B := w.heap.size) (Nat.le_refl _) (by omega) (by omega) hRl ha 2 _
    · obtain rfl : u = 0 := by omega
      go_wp2_with fail
      refine (pick_any R a n cap bs (q + 1) 4 _ s.r (by omega) (by omega) (by omega) (by omega)).mono ?_
      rintro e w5 ⟨v, v0, v1, rfl, t5, R5⟩
      have s' := s.pick t5 R5
      clear s t5 R5
      have s := s'
      clear s' u0 u1 hu
      rcases (show v = 0 ∨ v = 1 ∨ v = 2 ∨ v = 3 from by omega) with rfl | rfl | rfl | rfl
      · have c0 := s.cb.cell 0
        have c1 := s.cb.cell 1
        have c2 := s.cb.cell 2
        have e0 := s.cb.free 0
        have g0 := s.rb.cell 0
        have g1 := s.rb.cell 1
        have g2 := s.rb.cell 2
        have h0 := s.rb.free 0
        have h1 := s.rb.free 1
        have h2 := s.rb.free 2
        simp only [List.getElem?_cons_zero, List.getElem?_cons_succ] at c0 c1 c2 g0 g1 g2
        have l1 := s.cb.lt
        have l2 := s.rb.lt
        have hf := s.hf
        have b1 := s.f.b1
        have b2 := s.f.b2
        have m1 : ¬ w.heap.size = fb := by omega
        have m2 : ¬ fb = w.heap.size := by omega
        go_wp2
        refine bodyPost_ret (v := formV (some ⟨B1, 0, none⟩) 2 3 (some ⟨B2, 0, none⟩) 2 2 K) (by simp [results, Tryz.results79, go_sem, g0, g1, g2]) rfl ⟨B1, 2, 3, B2, 2, 2, K, C.take 2, D, q + 1 + 1, rfl, ?_⟩
        exact ((((FmN.mk s.t s.r ((s.f.k1.ints' s.f.l1).cut (by omega)) (s.f.k2.ints' s.f.l2) (by omega) (by omega) (by omega) (by omega) (by omega) (by omega) (by omega) (by omega)).set (B := fb) (by omega) s.n1 s.n2 hRl ha 0 _).set (B := w.heap.size) (Nat.le_refl _) (by omega) (by omega) hRl ha 0 _).set (B := w.heap.size) (Nat.le_refl _) (by omega) (by omega) hRl ha 1 _).set (B := w.heap.size) (Nat.le_refl _) (by omega) (by omega) hRl ha 2 _
      · have al := (Below.refl w5.heap.size w5).alloc (Nat.le_refl _) (.cells #[.int .i64 0] 3)
        have sa := s.below al
        have oD := sa.f.k2.own (base := w.heap.size + 1) sa.f.l2 sa.f.b2 (by omega)
        have hsz := s.t.size
        have c1 := s.cb.cell 1
        simp only [List.getElem?_cons_zero, List.getElem?_cons_succ] at c1
        clear al s
        go_wp2_with (at_builtin; refine wpList_append_own _ rfl (.tmp 47) (.tmp 48) 24 rfl (w.heap.size + 1) 3 i0 (.int .i64 0) 1 8 Tryz.underlying24 hi hz0 hz1 hz2 rfl (by decide) _ _ _ rfl oD ⟨w5.heap.size, 0, none⟩ 1 1 [.int .i64 0] rfl rfl ?d1 ?d2 ?d3 ?d4 ?d5 ?_)
        case d1 =>
          intro i u hu
          match i, hu with
          | 0, hu => simp at hu; subst hu; simp [Addr.add]
        case d2 => intro u hu; simp at hu; subst hu; rfl
        case d3 => unfold maxLen; omega
        case d4 => omega
        case d5 => have := sa.hf; have := sa.cb.lt; omega
        intro v' w6 hown hgrow _
        rcases hown.2 with ⟨_, hh⟩ | ⟨g, cap', cur, rfl, hg, hh, hl, _, _, _⟩
        · omega
        have hI : Ints w6 (some ⟨g, 0, none⟩) 3 (D ++ [0]) := by
          refine ⟨by rw [List.length_append, sa.f.l2]; rfl, fun i hi => ⟨g, 0, rfl, ?_⟩⟩
          have := hown.cellAt i (by omega)
          rw [Nat.zero_add, this]
          have e2 : D.map (Value.int .i64) ++ [Value.int .i64 0] = (D ++ [0]).map (Value.int .i64) := by simp
          rw [e2, List.getElem?_map]
          have hl3 : i < (D ++ [0]).length := by rw [List.length_append, sa.f.l2]; exact hi
          rw [List.getElem?_eq_getElem hl3]
          simp [List.getElem?_eq_getElem hl3]
        have hgr : ∀ k, k < (w5.alloc (.cells #[.int .i64 0] 3)).heap.size → k ≠ B2 → w6.heap[k]? = (w5.alloc (.cells #[.int .i64 0] 3)).heap[k]? := fun k hk hne => hgrow.block k hk (fun e => hne (by simpa [Value.ownBlock] using e))
        have T6 : Touch (fun x => x = B2) (w5.alloc (.cells #[.int .i64 0] 3)) w6 := ⟨hgrow.os, hgrow.tape, hgrow.output, hgrow.size, fun k hk hs => hgr k hk hs⟩
        have b2 := sa.f.b2
        have b1 := sa.f.b1
        have t6 : Touch (fun x => x = R) w w6 := ⟨T6.os.trans sa.t.os, T6.tape.trans sa.t.tape, T6.output.trans sa.t.output, Nat.le_trans sa.t.size T6.size, fun k hk hs => (T6.block k (Nat.lt_of_lt_of_le hk sa.t.size) (by omega)).trans (sa.t.block k hk hs)⟩
        have r6 := sa.r.touch T6 (by omega) (fun h0 b o e => by have := ha h0 b o e; omega)
        have cb6 := sa.cb.touch T6 (fun e => sa.n2 e.symm)
        have rb6 := sa.rb.touch T6 (by omega)
        have C6 := (sa.f.k1.touchF T6 sa.f.ne).ints' sa.f.l1
        have hf := sa.hf
        have n1 := sa.n1
        have gfb : g ≠ fb := fun e => by
          have h1 : w6.heap[fb]? = _ := cb6
          rw [← e, hh] at h1
          simp at h1
        have gr : g ≠ w.heap.size := by omega
        have c0 := cb6.cell 0
        have c1' := cb6.cell 1
        have c2 := cb6.cell 2
        have e1 := cb6.free 1
        have r0 := rb6.cell 0
        have r1 := rb6.cell 1
        have r2 := rb6.cell 2
        have g0 := rb6.free 0
        have g1 := rb6.free 1
        have g2 := rb6.free 2
        simp only [List.getElem?_cons_zero, List.getElem?_cons_succ] at c0 c1' c2 r0 r1 r2
        have l1 := cb6.lt
        have l2 := rb6.lt
        have m1 : ¬ w.heap.size = fb := by omega
        have m2 : ¬ fb = w.heap.size := by omega
        have hq := FmN.mk (p := p) t6 r6 C6 hI (by omega) (by omega) (by omega) (by omega) (by omega) (by omega) (by omega) (by omega)
        clear hown hgrow hgr T6 oD sa c1 C6 hI r6 t6 cb6 rb6
        go_wp2
        refine bodyPost_ret (v := formV (some ⟨B1, 0, none⟩) 3 3 (some ⟨g, 0, none⟩) 3 cap' K) (by simp [results, Tryz.results79, go_sem, r0, r1, r2]) rfl ⟨B1, 3, 3, g, 3, cap', K, C, D ++ [0], q + 1 + 1, rfl, ?_⟩
        exact (((hq.set (B := fb) (by omega) n1 gfb hRl ha 1 _).set (B := w.heap.size) (Nat.le_refl _) (by omega) gr hRl ha 0 _).set (B := w.heap.size) (Nat.le_refl _) (by omega) gr hRl ha 1 _).set (B := w.heap.size) (Nat.le_refl _) (by omega) gr hRl ha 2 _
      · have al := (Below.refl w5.heap.size w5).alloc (Nat.le_refl _) (.cells #[.int .i64 10000001, .int .i64 (-10000001), .int .i64 10000000] 3)
        have lb0 := Cel.new w5 [.int .i64 10000001, .int .i64 (-10000001), .int .i64 10000000] 3
        have sa := s.below al
        have hRR := s.hR
        have hsz := s.t.size
        clear al s
        go_wp2_with fail
        refine (pick_any R a n cap bs _ 3 _ sa.r (by omega) (by omega) (by omega) (by omega)).mono ?_
        rintro e w6 ⟨r, r0, r1, rfl, t6, R6⟩
        obtain ⟨j, rfl⟩ := Int.eq_ofNat_of_zero_le r0
        have hj : j < 3 := by omega
        have hj' : (j : Int) < 3 := by omega
        have s := sa.pick t6 R6
        have lb := lb0.touch t6 (by omega)
        have hc := lit_cell (xs := [10000001, -10000001, 10000000]) lb hj
        generalize ([10000001, -10000001, 10000000] : List Int)[j]?.getD 0 = y at hc
        clear r0 r1 sa t6 R6 lb lb0
        have c0 := s.cb.cell 0
        have c1 := s.cb.cell 1
        have c2 := s.cb.cell 2
        have e2 := s.cb.free 2
        have g0 := s.rb.cell 0
        have g1 := s.rb.cell 1
        have g2 := s.rb.cell 2
        have h0 := s.rb.free 0
        have h1 := s.rb.free 1
        have h2 := s.rb.free 2
        simp only [List.getElem?_cons_zero, List.getElem?_cons_succ] at c0 c1 c2 g0 g1 g2
        have l1 := s.cb.lt
        have l2 := s.rb.lt
        have hf := s.hf
        have b1 := s.f.b1
        have b2 := s.f.b2
        have m1 : ¬ w.heap.size = fb := by omega
        have m2 : ¬ fb = w.heap.size := by omega
        go_wp2
        refine bodyPost_ret (v := formV (some ⟨B1, 0, none⟩) 3 3 (some ⟨B2, 0, none⟩) 2 2 y) (by simp [results, Tryz.results79, go_sem, g0, g1, g2]) rfl ⟨B1, 3, 3, B2, 2, 2, y, C, D, q + 1 + 1 + 1, rfl, ?_⟩
        exact ((((FmN.mk s.t s.r (s.f.k1.ints' s.f.l1) (s.f.k2.ints' s.f.l2) (by omega) (by omega) (by omega) (by omega) (by omega) (by omega) (by omega) (by omega)).set (B := fb) (by omega) s.n1 s.n2 hRl ha 2 _).set (B := w.heap.size) (Nat.le_refl _) (by omega) (by omega) hRl ha 0 _).set (B := w.heap.size) (Nat.le_refl _) (by omega) (by omega) hRl ha 1 _).set (B := w.heap.size) (Nat.le_refl _) (by omega) (by omega) hRl ha 2 _
      · go_upto_region 7 with fail
        refine wp_region_ends (fun X => X.cell? ⟨fb, 0, none⟩ = some (.slice (some ⟨B1, 0, none⟩) 3 3)) (fun _ => True) 10 (by kernel_rfl) ?_
        have sd := s.below ((Below.refl _ _).drew)
        obtain ⟨V0, hV0⟩ : ∃ V, V = w5.drew := ⟨_, rfl⟩
        rw [← hV0] at sd ⊢
        clear hV0 s
        have hS0 : (fun X : World => X.cell? ⟨fb, 0, none⟩ = some (.slice (some ⟨B1, 0, none⟩) 3 3)) V0 ∧ True := ⟨sd.cb.cell 0, trivial⟩
        refine tkL (i := 0) rfl hS0 ?_
        refine tkL (i := 1) rfl hS0 ?_
        refine tkL (i := 2) rfl hS0 ?_
        refine tkL (i := 5) rfl hS0 ?_
        clear hS0
        refine wpAnyE_two (i := 3) (j := 4) (by kernel_rfl) rfl rfl (fun Kn hK => ?_) (fun Kn hK => ?_)
        · go_simp
          refine (pick_any R a n cap bs _ 3 _ sd.r (by omega) (by omega) (by omega) (by omega)).mono ?_
          rintro e wA ⟨ri, r0, r1, rfl, t5, R5⟩
          obtain ⟨i, rfl⟩ := Int.eq_ofNat_of_zero_le r0
          have hi : i < 3 := by omega
          have hi' : (i : Int) < 3 := by omega
          clear r0 r1
          have sa := sd.pick t5 R5
          clear t5 R5
          dsimp only
          refine hK.out _ _ ⟨sa.cb.cell 0, fun _ => trivial⟩ ?_
          clear hK
          refine wpAnyE_two (i := 4) (j := 6) (by kernel_rfl) rfl rfl (fun Kn hK => ?_) (fun Kn hK => ?_)
          · go_simp
            have al := (Below.refl wA.heap.size wA).alloc (Nat.le_refl _) (.cells #[.int .i64 10000001, .int .i64 (-10000001)] 3)
            have lb := Cel.new wA [.int .i64 10000001, .int .i64 (-10000001)] 3
            have sb := sa.below al
            clear al
            refine hK.out _ _ ⟨sb.cb.cell 0, fun _ => trivial⟩ ?_
            clear hK
            refine wpAnyE_one (i := 6) (by kernel_rfl) rfl (fun Kn hK => ?_)
            go_simp
            refine (pick_any R a n cap bs _ 2 _ sb.r (by omega) (by omega) (by omega) (by omega)).mono ?_
            rintro e wB ⟨rj, r0, r1, rfl, t5, R5⟩
            obtain ⟨j, rfl⟩ := Int.eq_ofNat_of_zero_le r0
            have hj : j < 2 := by omega
            have hj' : (j : Int) < 2 := by omega
            clear r0 r1
            have sc := sb.pick t5 R5
            replace lb := lb.touch t5 (by have h1 := sa.hR; have h2 := sa.t.size; omega)
            clear t5 R5
            dsimp only
            refine hK.out _ _ ⟨sc.cb.cell 0, fun _ => trivial⟩ ?_
            clear hK
            have hS5 : (fun X : World => X.cell? ⟨fb, 0, none⟩ = some (.slice (some ⟨B1, 0, none⟩) 3 3)) wB ∧ True := ⟨sc.cb.cell 0, trivial⟩
            refine tkL (i := 7) rfl hS5 ?_
            have hc := lit_cell (xs := [10000001, -10000001]) lb hj
            have hy := litF_2 j hj
            generalize ([10000001, -10000001] : List Int)[j]?.getD 0 = y at hc hy
            refine wpAnyE_one (i := 8) (by kernel_rfl) rfl (fun Kn hK => ?_)
            go_simp
            refine hK.out _ _ ⟨sc.cb.cell 0, fun _ => trivial⟩ ?_
            clear hK
            refine tkL (i := 9) rfl hS5 ?_
            have s6 := sc.setC i hy.1 hy.2
            have kc := sc.f.k1.cell i (by rw [sc.f.l1]; omega)
            have kf := sc.f.k1.free i
            have kl := sc.f.k1.lt
            refine wpAnyE_one (i := 10) (by kernel_rfl) rfl (fun Kn hK => ?_)
            go_simp
            refine hK.out _ _ ⟨s6.cb.cell 0, fun _ => trivial⟩ ?_
            clear hK
            refine wpAnyE_done (by kernel_rfl) ?_ _
            clear hS5 hc kc kf lb
            have s := s6
            clear s6
            have c0 := s.cb.cell 0
            have c1 := s.cb.cell 1
            have c2 := s.cb.cell 2
            have g0 := s.rb.cell 0
            have g1 := s.rb.cell 1
            have g2 := s.rb.cell 2
            have h0 := s.rb.free 0
            have h1 := s.rb.free 1
            have h2 := s.rb.free 2
            simp only [List.getElem?_cons_zero, List.getElem?_cons_succ] at c0 c1 c2 g0 g1 g2
            have l1 := s.cb.lt
            have l2 := s.rb.lt
            have hf := s.hf
            have b1 := s.f.b1
            have b2 := s.f.b2
            have m1 : ¬ w.heap.size = fb := by omega
            have m2 : ¬ fb = w.heap.size := by omega
            go_wp2
            refine bodyPost_ret (v := formV (some ⟨B1, 0, none⟩) 3 3 (some ⟨B2, 0, none⟩) 2 2 K) (by simp [results, Tryz.results79, go_sem, g0, g1, g2]) rfl ⟨B1, 3, 3, B2, 2, 2, K, C.set i y, D, q + 1 + 1 + 1 + 1, rfl, ?_⟩
            exact (((FmN.mk s.t s.r (s.f.k1.ints' s.f.l1) (s.f.k2.ints' s.f.l2) (by omega) (by omega) (by omega) (by omega) (by omega) (by omega) (by omega) (by omega)).set (B := w.heap.size) (Nat.le_refl _) (by omega) (by omega) hRl ha 0 _).set (B := w.heap.size) (Nat.le_refl _) (by omega) (by omega) hRl ha 1 _).set (B := w.heap.size) (Nat.le_refl _) (by omega) (by omega) hRl ha 2 _
          · go_simp
            refine (pick_any R a n cap bs _ 2 _ sa.r (by omega) (by omega) (by omega) (by omega)).mono ?_
            rintro e wB ⟨rj, r0, r1, rfl, t5, R5⟩
            obtain ⟨j, rfl⟩ := Int.eq_ofNat_of_zero_le r0
            have hj : j < 2 := by omega
            have hj' : (j : Int) < 2 := by omega
            clear r0 r1
            have sb := sa.pick t5 R5
            clear t5 R5
            dsimp only
            refine hK.out _ _ ⟨sb.cb.cell 0, fun _ => trivial⟩ ?_
            clear hK
            refine wpAnyE_one (i := 4) (by kernel_rfl) rfl (fun Kn hK => ?_)
            go_simp
            have al := (Below.refl wB.heap.size wB).alloc (Nat.le_refl _) (.cells #[.int .i64 10000001, .int .i64 (-10000001)] 3)
            have lb := Cel.new wB [.int .i64 10000001, .int .i64 (-10000001)] 3
            have sc := sb.below al
            clear al
            refine hK.out _ _ ⟨sc.cb.cell 0, fun _ => trivial⟩ ?_
            clear hK
            have hS5 : (fun X : World => X.cell? ⟨fb, 0, none⟩ = some (.slice (some ⟨B1, 0, none⟩) 3 3)) (wB.alloc (.cells #[.int .i64 10000001, .int .i64 (-10000001)] 3)) ∧ True := ⟨sc.cb.cell 0, trivial⟩
            refine tkL (i := 7) rfl hS5 ?_
            have hc := lit_cell (xs := [10000001, -10000001]) lb hj
            have hy := litF_2 j hj
            generalize ([10000001, -10000001] : List Int)[j]?.getD 0 = y at hc hy
            refine wpAnyE_one (i := 8) (by kernel_rfl) rfl (fun Kn hK => ?_)
            go_simp
            refine hK.out _ _ ⟨sc.cb.cell 0, fun _ => trivial⟩ ?_
            clear hK
            refine tkL (i := 9) rfl hS5 ?_
            have s6 := sc.setC i hy.1 hy.2
            have kc := sc.f.k1.cell i (by rw [sc.f.l1]; omega)
            have kf := sc.f.k1.free i
            have kl := sc.f.k1.lt
            refine wpAnyE_one (i := 10) (by kernel_rfl) rfl (fun Kn hK => ?_)
            go_simp
            refine hK.out _ _ ⟨s6.cb.cell 0, fun _ => trivial⟩ ?_
            clear hK
            refine wpAnyE_done (by kernel_rfl) ?_ _
            clear hS5 hc kc kf lb
            have s := s6
            clear s6
            have c0 := s.cb.cell 0
            have c1 := s.cb.cell 1
            have c2 := s.cb.cell 2
            have g0 := s.rb.cell 0
            have g1 := s.rb.cell 1
            have g2 := s.rb.cell 2
            have h0 := s.rb.free 0
            have h1 := s.rb.free 1
            have h2 := s.rb.free 2
            simp only [List.getElem?_cons_zero, List.getElem?_cons_succ] at c0 c1 c2 g0 g1 g2
            have l1 := s.cb.lt
            have l2 := s.rb.lt
            have hf := s.hf
            have b1 := s.f.b1
            have b2 := s.f.b2
            have m1 : ¬ w.heap.size = fb := by omega
            have m2 : ¬ fb = w.heap.size := by omega
            go_wp2
            refine bodyPost_ret (v := formV (some ⟨B1, 0, none⟩) 3 3 (some ⟨B2, 0, none⟩) 2 2 K) (by simp [results, Tryz.results79, go_sem, g0, g1, g2]) rfl ⟨B1, 3, 3, B2, 2, 2, K, C.set i y, D, q + 1 + 1 + 1 + 1, rfl, ?_⟩
            exact (((FmN.mk s.t s.r (s.f.k1.ints' s.f.l1) (s.f.k2.ints' s.f.l2) (by omega) (by omega) (by omega) (by omega) (by omega) (by omega) (by omega) (by omega)).set (B := w.heap.size) (Nat.le_refl _) (by omega) (by omega) hRl ha 0 _).set (B := w.heap.size) (Nat.le_refl _) (by omega) (by omega) hRl ha 1 _).set (B := w.heap.size) (Nat.le_refl _) (by omega) (by omega) hRl ha 2 _
        · go_simp
          have al := (Below.refl V0.heap.size V0).alloc (Nat.le_refl _) (.cells #[.int .i64 10000001, .int .i64 (-10000001)] 3)
          have lb := Cel.new V0 [.int .i64 10000001, .int .i64 (-10000001)] 3
          have sa := sd.below al
          clear al
          refine hK.out _ _ ⟨sa.cb.cell 0, fun _ => trivial⟩ ?_
          clear hK
          refine wpAnyE_one (i := 3) (by kernel_rfl) rfl (fun Kn hK => ?_)
          go_simp
          refine (pick_any R a n cap bs _ 3 _ sa.r (by omega) (by omega) (by omega) (by omega)).mono ?_
          rintro e wA ⟨ri, r0, r1, rfl, t5, R5⟩
          obtain ⟨i, rfl⟩ := Int.eq_ofNat_of_zero_le r0
          have hi : i < 3 := by omega
          have hi' : (i : Int) < 3 := by omega
          clear r0 r1
          have sb := sa.pick t5 R5
          replace lb := lb.touch t5 (by have h1 := sd.hR; have h2 := sd.t.size; omega)
          clear t5 R5
          dsimp only
          refine hK.out _ _ ⟨sb.cb.cell 0, fun _ => trivial⟩ ?_
          clear hK
          refine wpAnyE_one (i := 6) (by kernel_rfl) rfl (fun Kn hK => ?_)
          go_simp
          refine (pick_any R a n cap bs _ 2 _ sb.r (by omega) (by omega) (by omega) (by omega)).mono ?_
          rintro e wB ⟨rj, r0, r1, rfl, t5, R5⟩
          obtain ⟨j, rfl⟩ := Int.eq_ofNat_of_zero_le r0
          have hj : j < 2 := by omega
          have hj' : (j : Int) < 2 := by omega
          clear r0 r1
          have sc := sb.pick t5 R5
          replace lb := lb.touch t5 (by have h1 := sd.hR; have h2 := sd.t.size; omega)
          clear t5 R5
          dsimp only
          refine hK.out _ _ ⟨sc.cb.cell 0, fun _ => trivial⟩ ?_
          clear hK
          have hS5 : (fun X : World => X.cell? ⟨fb, 0, none⟩ = some (.slice (some ⟨B1, 0, none⟩) 3 3)) wB ∧ True := ⟨sc.cb.cell 0, trivial⟩
          refine tkL (i := 7) rfl hS5 ?_
          have hc := lit_cell (xs := [10000001, -10000001]) lb hj
          have hy := litF_2 j hj
          generalize ([10000001, -10000001] : List Int)[j]?.getD 0 = y at hc hy
          refine wpAnyE_one (i := 8) (by kernel_rfl) rfl (fun Kn hK => ?_)
          go_simp
          refine hK.out _ _ ⟨sc.cb.cell 0, fun _ => trivial⟩ ?_
          clear hK
          refine tkL (i := 9) rfl hS5 ?_
          have s6 := sc.setC i hy.1 hy.2
          have kc := sc.f.k1.cell i (by rw [sc.f.l1]; omega)
          have kf := sc.f.k1.free i
          have kl := sc.f.k1.lt
          refine wpAnyE_one (i := 10) (by kernel_rfl) rfl (fun Kn hK => ?_)
          go_simp
          refine hK.out _ _ ⟨s6.cb.cell 0, fun _ => trivial⟩ ?_
          clear hK
          refine wpAnyE_done (by kernel_rfl) ?_ _
          clear hS5 hc kc kf lb
          have s := s6
          clear s6
          have c0 := s.cb.cell 0
          have c1 := s.cb.cell 1
          have c2 := s.cb.cell 2
          have g0 := s.rb.cell 0
          have g1 := s.rb.cell 1
          have g2 := s.rb.cell 2
          have h0 := s.rb.free 0
          have h1 := s.rb.free 1
          have h2 := s.rb.free 2
          simp only [List.getElem?_cons_zero, List.getElem?_cons_succ] at c0 c1 c2 g0 g1 g2
          have l1 := s.cb.lt
          have l2 := s.rb.lt
          have hf := s.hf
          have b1 := s.f.b1
          have b2 := s.f.b2
          have m1 : ¬ w.heap.size = fb := by omega
          have m2 : ¬ fb = w.heap.size := by omega
          go_wp2
          refine bodyPost_ret (v := formV (some ⟨B1, 0, none⟩) 3 3 (some ⟨B2, 0, none⟩) 2 2 K) (by simp [results, Tryz.results79, go_sem, g0, g1, g2]) rfl ⟨B1, 3, 3, B2, 2, 2, K, C.set i y, D, q + 1 + 1 + 1 + 1, rfl, ?_⟩
          exact (((FmN.mk s.t s.r (s.f.k1.ints' s.f.l1) (s.f.k2.ints' s.f.l2) (by omega) (by omega) (by omega) (by omega) (by omega) (by omega) (by omega) (by omega)).set (B := w.heap.size) (Nat.le_refl _) (by omega) (by omega) hRl ha 0 _).set (B := w.heap.size) (Nat.le_refl _) (by omega) (by omega) hRl ha 1 _).set (B := w.heap.size) (Nat.le_refl _) (by omega) (by omega) hRl ha 2 _

end Go.Proofs.YtkpnhclaidcbdaaGreat
namespace Go.Proofs.YtkpnhclaidcbdaaGreat
open Go.RowKit
set_option linter.unusedVariables false
set_option maxRecDepth 100000

theorem Rd.ha {w : World} {R : Nat} {a : Option Addr} {n cap : Nat} {bs : List Int} {p : Int} (h : Rd w R a n cap bs p) : 0 < n → ∀ b o, a = some ⟨b, o, none⟩ → b < w.heap.size := fun h0 b o hab => by
  obtain ⟨b', o', hab', hcc⟩ := h.b.2.1 0 h0
  rw [hab] at hab'
  simp only [Option.some.injEq, Addr.mk.injEq, and_true] at hab'
  have := block_lt hcc
  omega
theorem Ints.off {S : Nat → Prop} {w w' : World} {a : Option Addr} {n : Nat} {zs : List Int} (h : Ints w a n zs) (t : Touch S w w') (hS : ∀ b o, a = some ⟨b, o, none⟩ → ¬ S b) : Ints w' a n zs := by
  refine ⟨h.1, fun i hi => ?_⟩
  obtain ⟨b, off, hab, hc⟩ := h.2 i hi
  exact ⟨b, off, hab, (World.cell?_of_block (t.block b (block_lt hc) (hS b off hab))).trans hc⟩
theorem FA.off {S : Nat → Prop} {w w' : World} {a c : Option Addr} {n m : Nat} {f : Frm} (h : FA w a n c m f) (t : Touch S w w') (h1 : ∀ b o, a = some ⟨b, o, none⟩ → ¬ S b) (h2 : ∀ b o, c = some ⟨b, o, none⟩ → ¬ S b) : FA w' a n c m f := ⟨h.C.off t h1, h.D.off t h2, h.hn, h.hm⟩
theorem FmN.fa {w W : World} {R : Nat} {a : Option Addr} {n cap : Nat} {bs : List Int} {p q : Int} {B1 nC B2 nD : Nat} {C D : List Int} (h : FmN w W R a n cap bs p q B1 nC B2 nD C D) (K : Int) : FA W (some ⟨B1, 0, none⟩) nC (some ⟨B2, 0, none⟩) nD (C, D, K) := ⟨h.c, h.d, by have := h.c4; omega, by have := h.d4; omega⟩
/-- A form that lies past a place. -/
theorem FA.far {S : Nat → Prop} {w w' : World} {B1 B2 n m lo : Nat} {f : Frm} (h : FA w (some ⟨B1, 0, none⟩) n (some ⟨B2, 0, none⟩) m f) (t : Touch S w w') (hS : ∀ k, S k → k < lo) (h1 : lo ≤ B1) (h2 : lo ≤ B2) : FA w' (some ⟨B1, 0, none⟩) n (some ⟨B2, 0, none⟩) m f :=
  h.off t (fun b o e hs => by simp only [Option.some.injEq, Addr.mk.injEq] at e; have := hS b hs; omega) (fun b o e hs => by simp only [Option.some.injEq, Addr.mk.injEq] at e; have := hS b hs; omega)
theorem FA.setFar {w : World} {B1 B2 n m X : Nat} {f : Frm} (h : FA w (some ⟨B1, 0, none⟩) n (some ⟨B2, 0, none⟩) m f) (h1 : B1 ≠ X) (h2 : B2 ≠ X) (i : Nat) (v : Value) : FA (w.setCell ⟨X, i, none⟩ v) (some ⟨B1, 0, none⟩) n (some ⟨B2, 0, none⟩) m f :=
  ⟨h.C.setFar (fun b o e => by simp only [Option.some.injEq, Addr.mk.injEq] at e; omega) i v, h.D.setFar (fun b o e => by simp only [Option.some.injEq, Addr.mk.injEq] at e; omega) i v, h.hn, h.hm⟩

end Go.Proofs.YtkpnhclaidcbdaaGreat
