/-
  To go the way of a row: what the program's functions answer. Lengths at most 1048576.
-/
import Derived.Test.YtpmihhbgjimpmaaGreatDoorFits
import Derived.Test.YtpmihhbgjimpmaaGreatDoorOwn
namespace Go.Proofs.YtpmihhbgjimpmaaGreatDoor
open Go.RowKit
set_option linter.unusedVariables false
set_option maxRecDepth 100000

/-- What a form is. -/
def atF (V U : List Int) (f : FV) : Int := atV f.C f.D f.K V U
theorem atF_bnd {V U : List Int} {f : FV} (h : f.ok = true) (bV : bnd 10000 V) (bU : bnd 9 U) : -1000000000000 ≤ atF V U f ∧ atF V U f ≤ 1000000000000 := by
  obtain ⟨_, _, bC, bD, k1, k2⟩ := formB_elim (show formB f.n f.m f.C f.D f.K = true from h)
  have h1 := dot_bnd (bndP_of bC bV (by omega) (by omega)) 3
  have h2 := dot_bnd (bndP_of bD bU (by omega) (by omega)) 2
  unfold atF atV
  omega
theorem ats_bnd {V U : List Int} {fs : List FV} (h : fs.all FV.ok = true) (bV : bnd 10000 V) (bU : bnd 9 U) : bnd 1000000000000 (fs.map (atF V U)) := fun i => by
  by_cases hi : i < fs.length
  · have := atF_bnd (List.all_eq_true.1 h _ (List.getElem_mem hi)) bV bU
    rw [List.getElem?_map, List.getElem?_eq_getElem hi]
    simpa using this
  · rw [List.getElem?_eq_none (by simp; omega)]
    simp

/-- What an act came to, as a value. -/
abbrev resV (code : Int) (a : Option Addr) (n cap : Nat) : Value := .agg #[.int .i64 code, .slice a n cap]
/-- What a call has made: a code, what is told, what the pots have then; in new memory. -/
def ResD (w w' : World) (e : Ending) (code : Int) (tl pl : List Int) : Prop :=
  ∃ a n cap B1 b m cap' B2, e = .returned (.tuple #[resV code a n cap, .slice b m cap']) ∧ tl.length = n ∧ pl.length = m ∧ Below w.heap.size w w' ∧ OwnX w' a B1 n tl ∧ OwnX w' b B2 m pl ∧ (0 < n → w.heap.size ≤ B1) ∧ (0 < m → w.heap.size ≤ B2) ∧ (0 < n → 0 < m → B1 ≠ B2)
def endCode (P : List Int) : Int := if okN 3 10000 3 P then 1 else 3
def endTells (P T : List Int) : List Int := if okN 3 10000 3 P then T else []
def endPots (V P : List Int) : List Int := if okN 3 10000 3 P then P else V

set_option maxHeartbeats 1600000 in
theorem done_any (v : Option Addr) (cv : Nat) (p : Option Addr) (cp B2 : Nat) (t : Option Addr) (n ct B1 : Nat) (V P T : List Int) (w : World) (hV : Ints w v 3 V) (hP : OwnX w p B2 3 P) (hT : OwnX w t B1 n T) (hne : 0 < n → B1 ≠ B2) (lo : Nat) (h1 : 0 < n → lo ≤ B1) (h2 : lo ≤ B2) (hlo : lo ≤ w.heap.size) :
    Calls Tryz.prog 71 #[.slice v 3 cv, .slice p 3 cp, .slice t n ct] w fun e w' => ∃ a n' cap B1' b m cap' B2', e = .returned (.tuple #[resV (endCode P) a n' cap, .slice b m cap']) ∧ (endTells P T).length = n' ∧ (endPots V P).length = m ∧ Below w.heap.size w w' ∧ OwnX w' a B1' n' (endTells P T) ∧ OwnX w' b B2' m (endPots V P) ∧ (0 < n' → lo ≤ B1') ∧ (0 < m → lo ≤ B2') ∧ (0 < n' → 0 < m → B1' ≠ B2') := by
  have l1 : 0 < n → B1 < w.heap.size := fun h => hT.lt h
  have l2 : B2 < w.heap.size := hP.lt (by omega)
  obtain ⟨i0, hi, hz0, hz1, hz2⟩ := info_parts Tryz.infoInt
  have al : Below w.heap.size w (w.alloc (.cells #[.int .i64 0, .slice none 0 0] 54)) := (Below.refl _ _).alloc (Nat.le_refl _) _
  cases hok : okN 3 10000 3 P
  · have e1 : endCode P = 3 := by rw [endCode, hok]; rfl
    have e2 : endTells P T = [] := by rw [endTells, hok]; rfl
    have e3 : endPots V P = V := by rw [endPots, hok]; rfl
    rw [e1, e2, e3]
    clear e1 e2 e3
    go_enter Tryz.func71, Tryz.ntmps71
    go_wp2_with fail
    refine (ival_any _ _ _ P _ (hP.alloc _).ints (by omega)).mono ?_
    rintro e w1 ⟨rfl, hw1⟩
    rw [hok, hw1]
    clear hw1
    go_wp2_with fail
    refine (clone_any _ _ _ V _ (hV.alloc _) (by omega) (by omega)).mono ?_
    rintro e w2 ⟨r, rfl, j⟩
    have rc := (Cel.new w [.int .i64 0, .slice none 0 0] 54).below j.b
    obtain ⟨a, cap, B, rfl, hX, hB⟩ := j.ownx hV.1
    rw [World.size_alloc] at hB
    have bb := al.trans (j.b.mono al.size)
    have r0 := rc.cell 0
    have r1 := rc.cell 1
    have f0 := rc.free 0
    have f1 := rc.free 1
    simp only [List.getElem?_cons_zero, List.getElem?_cons_succ] at r0 r1
    have hlt := rc.lt
    clear rc j
    go_wp2
    refine bodyPost_ret (v := .tuple #[resV 3 none 0 0, .slice a 3 cap]) (by simp [results, Tryz.results71, go_sem, r0, r1]) rfl ⟨none, 0, 0, 0, a, 3, cap, B, rfl, rfl, hV.1, ?_, OwnX.nil _ _ _, ?_, fun h => by omega, fun h => by have := hB h; omega, fun h => by omega⟩
    · exact (bb.setCell (Nat.le_refl _) _).setCell (Nat.le_refl _) _
    · exact (hX.setOther (fun h => by have := hB h; omega) _ _).setOther (fun h => by have := hB h; omega) _ _
  · have e1 : endCode P = 1 := by rw [endCode, hok]; rfl
    have e2 : endTells P T = T := by rw [endTells, hok]; rfl
    have e3 : endPots V P = P := by rw [endPots, hok]; rfl
    rw [e1, e2, e3]
    clear e1 e2 e3
    go_enter Tryz.func71, Tryz.ntmps71
    go_wp2_with fail
    refine (ival_any _ _ _ P _ (hP.alloc _).ints (by omega)).mono ?_
    rintro e w1 ⟨rfl, hw1⟩
    rw [hok, hw1]
    clear hw1
    go_wp2
    refine bodyPost_ret (v := .tuple #[resV 1 t n ct, .slice p 3 cp]) (by simp [results, Tryz.results71, go_sem]) rfl ⟨t, n, ct, B1, p, 3, cp, B2, rfl, hT.1, hP.1, ?_, ?_, ?_, h1, fun _ => h2, fun h _ => hne h⟩
    · first | exact (Below.refl _ _).alloc (Nat.le_refl _) _ | exact (((Below.refl _ _).alloc (Nat.le_refl _) _).setCell (Nat.le_refl _) _).setCell (Nat.le_refl _) _
    · first | exact hT.alloc _ | exact ((hT.alloc _).setOther (fun h => by have := l1 h; omega) _ _).setOther (fun h => by have := l1 h; omega) _ _
    · first | exact hP.alloc _ | exact ((hP.alloc _).setOther (fun h => by omega) _ _).setOther (fun h => by omega) _ _

set_option maxHeartbeats 1600000 in
theorem end_any (v : Option Addr) (cv : Nat) (p : Option Addr) (cp B2 : Nat) (t : Option Addr) (n ct B1 : Nat) (V P T : List Int) (w : World) (hV : Ints w v 3 V) (hP : OwnX w p B2 3 P) (hT : OwnX w t B1 n T) (hne : 0 < n → B1 ≠ B2) (lo : Nat) (h1 : 0 < n → lo ≤ B1) (h2 : lo ≤ B2) (hlo : lo ≤ w.heap.size) :
    Calls Tryz.prog 112 #[.slice v 3 cv, .slice p 3 cp, .slice t n ct] w fun e w' => ∃ a n' cap B1' b m cap' B2', e = .returned (.tuple #[resV (endCode P) a n' cap, .slice b m cap']) ∧ (endTells P T).length = n' ∧ (endPots V P).length = m ∧ Below w.heap.size w w' ∧ OwnX w' a B1' n' (endTells P T) ∧ OwnX w' b B2' m (endPots V P) ∧ (0 < n' → lo ≤ B1') ∧ (0 < m → lo ≤ B2') ∧ (0 < n' → 0 < m → B1' ≠ B2') := by
  have l1 : 0 < n → B1 < w.heap.size := fun h => hT.lt h
  have l2 : B2 < w.heap.size := hP.lt (by omega)
  obtain ⟨i0, hi, hz0, hz1, hz2⟩ := info_parts Tryz.infoInt
  have al : Below w.heap.size w (w.alloc (.cells #[.int .i64 0, .slice none 0 0] 54)) := (Below.refl _ _).alloc (Nat.le_refl _) _
  cases hok : okN 3 10000 3 P
  · have e1 : endCode P = 3 := by rw [endCode, hok]; rfl
    have e2 : endTells P T = [] := by rw [endTells, hok]; rfl
    have e3 : endPots V P = V := by rw [endPots, hok]; rfl
    rw [e1, e2, e3]
    clear e1 e2 e3
    go_enter Tryz.func112, Tryz.ntmps112
    go_wp2_with fail
    refine (sval_any _ _ _ P _ (hP.alloc _).ints (by omega)).mono ?_
    rintro e w1 ⟨rfl, hw1⟩
    rw [hok]
    have rc0 : Cel w1 w.heap.size [.int .i64 0, .slice none 0 0] 54 := by rw [hw1]; exact Cel.new w _ _
    have b0 : Below w.heap.size w w1 := by rw [hw1]; exact al
    have hV1 := hV.below b0
    have hlt := rc0.lt
    clear hw1 al
    obtain ⟨vb, vo, rfl, hcell⟩ := hV1.pos (by omega)
    have hcl : ∀ i, i < 3 → (w1.alloc (.cells #[] 3)).cell? ⟨vb, vo + i, none⟩ = some (.int .i64 (V.getD i 0)) := fun i hi => by
      rw [((Below.refl w1.heap.size w1).alloc (Nat.le_refl _) _).cell (p := ⟨vb, vo + i, none⟩) (block_lt (hcell i hi))]; exact hcell i hi
    have HC : Hid _ := newsI hcl hV.1
    have HL : Hid ((V.map (Value.int .i64)).length = 3 * 1) := by show _ = _; rw [List.length_map, hV.1]
    have HJ : Hid _ := (JA.lit w1).o
    clear hcl hcell
    go_wp2_with (at_builtin; go_must (refine wpList_append_lies _ rfl (.tmp 12) (.tmp 13) 24 rfl w1.heap.size 3 i0 (.int .i64 0) 1 8 Tryz.underlying24 hi hz0 hz1 hz2 rfl (by decide) _ 0 [] rfl HJ.out ⟨vb, vo, none⟩ 3 cv (V.map (Value.int .i64)) rfl HL.out HC.out (oneI _) (by omega) (by unfold maxLen; omega) (by omega) (by rw [World.size_alloc]; omega) _ rfl ?_); intro g cp2 w2 hown hgrow hat hlt1; have j := JA.copied hV.1 hown hgrow; have rc := rc0.below j.b; have r0 := rc.cell 0; have r1 := rc.cell 1; have f0 := rc.free 0; have f1 := rc.free 1; simp only [List.getElem?_cons_zero, List.getElem?_cons_succ] at r0 r1; have hlt2 := rc.lt; clear hown hgrow hat)
    obtain ⟨a, cap, B, hv2, hX, hB⟩ := j.ownx hV.1
    simp only [Value.slice.injEq, true_and] at hv2
    obtain ⟨rfl, rfl⟩ := hv2
    have bb := b0.trans (j.b.mono b0.size)
    clear rc j rc0
    refine bodyPost_ret (v := .tuple #[resV 3 none 0 0, .slice (some ⟨g, 0, none⟩) 3 cp2]) (by simp [results, Tryz.results112, go_sem, r0, r1]) rfl ⟨none, 0, 0, 0, some ⟨g, 0, none⟩, 3, cp2, B, rfl, rfl, hV.1, ?_, OwnX.nil _ _ _, ?_, fun h => by omega, fun h => by have := hB h; omega, fun h => by omega⟩
    · exact (bb.setCell (Nat.le_refl _) _).setCell (Nat.le_refl _) _
    · exact (hX.setOther (fun h => by have := hB h; omega) _ _).setOther (fun h => by have := hB h; omega) _ _
  · have e1 : endCode P = 1 := by rw [endCode, hok]; rfl
    have e2 : endTells P T = T := by rw [endTells, hok]; rfl
    have e3 : endPots V P = P := by rw [endPots, hok]; rfl
    rw [e1, e2, e3]
    clear e1 e2 e3
    go_enter Tryz.func112, Tryz.ntmps112
    go_wp2_with fail
    refine (sval_any _ _ _ P _ (hP.alloc _).ints (by omega)).mono ?_
    rintro e w1 ⟨rfl, hw1⟩
    rw [hok, hw1]
    clear hw1
    go_wp2
    refine bodyPost_ret (v := .tuple #[resV 1 t n ct, .slice p 3 cp]) (by simp [results, Tryz.results112, go_sem]) rfl ⟨t, n, ct, B1, p, 3, cp, B2, rfl, hT.1, hP.1, ?_, ?_, ?_, h1, fun _ => h2, fun h _ => hne h⟩
    · first | exact (Below.refl _ _).alloc (Nat.le_refl _) _ | exact (((Below.refl _ _).alloc (Nat.le_refl _) _).setCell (Nat.le_refl _) _).setCell (Nat.le_refl _) _
    · first | exact hT.alloc _ | exact ((hT.alloc _).setOther (fun h => by have := l1 h; omega) _ _).setOther (fun h => by have := l1 h; omega) _ _
    · first | exact hP.alloc _ | exact ((hP.alloc _).setOther (fun h => by omega) _ _).setOther (fun h => by omega) _ _

end Go.Proofs.YtpmihhbgjimpmaaGreatDoor
