/-
  A form, as the specification reads it, at every length.
-/
import Derived.Test.YtkmacleakfbobabGreatDoorRfV
import Derived.Test.YtkmacleakfbobabGreatDoorRdL
namespace Go.Proofs.YtkmacleakfbobabGreatDoor
open Go.RowKit
set_option linter.unusedVariables false
set_option maxRecDepth 100000

/-- The words that are read: none of a text that is too long. -/
def wsF (l : List UInt8) : List (List UInt8) := if l.length ≤ 120 then wordsOf l else []
def preW (l : List UInt8) : FR := (wsF l).foldl partL zeroR
theorem rfF_spec (l : List UInt8) : rfF l = if textF (preW l) ≠ [] ∧ textF (preW l) = l then (preW l, true) else noF := by
  by_cases h : l.length ≤ 120
  · rw [rfF, if_pos h, rf_same, rfS, show preF l = preW l by rw [preW, wsF, if_pos h]; rfl]
  · rw [rfF, if_neg h, if_neg]
    rintro ⟨-, h2⟩
    have e : textF (preW l) = [48] := by
      rw [preW, wsF, if_neg h]
      show formText 3 2 [0, 0, 0] [0, 0] 0 = _
      rw [formText_yes (by rfl), times3, times2, show Lib.itoa 0 = [48] from itoa_small (k := 0) (by omega)]
      rfl
    rw [e] at h2
    rw [← h2] at h
    exact h (by decide)
theorem wsF_len (l : List UInt8) : (wsF l).length ≤ 121 := by
  rw [wsF]
  split
  · have := wordsF_len l []
    rw [show wordsF [] l = wordsOf l from rfl] at this
    omega
  · simp
theorem wsF_short (l : List UInt8) : ∀ x ∈ wsF l, x.length ≤ 120 := by
  intro x hx
  rw [wsF] at hx
  split at hx
  · have := wordsF_short l [] x hx
    simp at this
    omega
  · cases hx
theorem swords_all (l : List UInt8) (w : World) :
    Calls Tryz.prog 15 #[.string ⟨l.toArray⟩] w fun e w' => ∃ g cw, e = .returned (.slice (some ⟨g, 0, none⟩) (wsF l).length cw) ∧ Below w.heap.size w w' ∧ ∀ (i : Nat) (x : List UInt8), (wsF l)[i]? = some x → g < w'.heap.size ∧ w'.cell? ⟨g, i, none⟩ = some (.string ⟨x.toArray⟩) := by
  by_cases h : l.length ≤ 120
  · refine (words_any l w h).mono ?_
    rintro e w' ⟨v, rfl, j⟩
    have hp : 0 < (wordsOf l).length := List.length_pos_iff.2 (words_ne l)
    have hw : wsF l = wordsOf l := by rw [wsF, if_pos h]
    obtain ⟨g, cw, rfl, -, hg, hcs⟩ := j.cells (k := (wordsOf l).length) (by rw [List.length_map]) hp
    refine ⟨g, cw, by rw [hw], j.b, fun i x hx => ⟨hg, ?_⟩⟩
    rw [hw] at hx
    have := hcs i ⟨x.toArray⟩ (by rw [List.getElem?_map, hx]; rfl)
    rwa [Nat.zero_add] at this
  · refine (swords_long l w (by omega)).mono ?_
    rintro e w' ⟨rfl, b⟩
    have hw : wsF l = [] := by rw [wsF, if_neg h]
    exact ⟨_, _, by rw [hw]; rfl, b, fun i x hx => by rw [hw] at hx; cases hx⟩

/-- What the reader holds. -/
structure GB (w : World) (R F B1 B2 : Nat) (p : FR) (W : World) : Prop where
  b : Below w.heap.size w W
  r : Cel W R [.slice none 0 0, .slice none 0 0, .int .i64 0] 24
  f : Cel W F [.slice (some ⟨B1, 0, none⟩) 3 3, .slice (some ⟨B2, 0, none⟩) 2 2, .int .i64 p.2.2] 24
  k1 : Blk W B1 p.1
  k2 : Blk W B2 p.2.1
  l1 : p.1.length = 3
  l2 : p.2.1.length = 2
  h1 : w.heap.size ≤ B1
  h2 : w.heap.size ≤ B2
  h3 : w.heap.size ≤ F
  n12 : B1 ≠ B2
  n1 : R ≠ B1 ∧ R ≠ B2
  n2 : F ≠ B1 ∧ F ≠ B2
  n3 : R ≠ F
theorem GB.below {w W W' : World} {R F B1 B2 : Nat} {f : FR} (s : GB w R F B1 B2 f W) (h : Below W.heap.size W W') : GB w R F B1 B2 f W' :=
  ⟨s.b.trans (h.mono s.b.size), s.r.below h, s.f.below h, s.k1.below h, s.k2.below h, s.l1, s.l2, s.h1, s.h2, s.h3, s.n12, s.n1, s.n2, s.n3⟩
theorem GB.part {w W W' : World} {R F B1 B2 : Nat} {f : FR} {C' D' : List Int} (K' : Int) (s : GB w R F B1 B2 f W) (t : Touch (fun x => x = B1 ∨ x = B2) W W') (k1 : Blk W' B1 C') (k2 : Blk W' B2 D') (l1 : C'.length = 3) (l2 : D'.length = 2) :
    GB w R F B1 B2 (C', D', K') (((W'.setCell ⟨F, 0, none⟩ (.slice (some ⟨B1, 0, none⟩) 3 3)).setCell ⟨F, 1, none⟩ (.slice (some ⟨B2, 0, none⟩) 2 2)).setCell ⟨F, 2, none⟩ (.int .i64 K')) := by
  have b' := s.b.trans (t.below s.b.size (fun k hk => by rcases hk with rfl | rfl; exact s.h1; exact s.h2))
  have r' := s.r.touch t (fun hk => by rcases hk with h | h; exact s.n1.1 h; exact s.n1.2 h)
  have f' := s.f.touch t (fun hk => by rcases hk with h | h; exact s.n2.1 h; exact s.n2.2 h)
  exact ⟨((b'.setCell s.h3 _).setCell s.h3 _).setCell s.h3 _, ((r'.setOther s.n3 _ _).setOther s.n3 _ _).setOther s.n3 _ _, ((f'.set 0 _).set 1 _).set 2 _, ((k1.setOther s.n2.1.symm _ _).setOther s.n2.1.symm _ _).setOther s.n2.1.symm _ _, ((k2.setOther s.n2.2.symm _ _).setOther s.n2.2.symm _ _).setOther s.n2.2.symm _ _, l1, l2, s.h1, s.h2, s.h3, s.n12, s.n1, s.n2, s.n3⟩
theorem touch_drew {S : Nat → Prop} {w w' : World} (h : Touch S w.drew w') : Touch S w w' := ⟨h.os, h.tape, h.output, h.size, h.block⟩

set_option maxHeartbeats 6400000 in
theorem sfread_any (l : List UInt8) (w : World) :
    Calls Tryz.prog 16 #[.string ⟨l.toArray⟩] w fun e w' =>
      (∃ C D K B1 B2, rfF l = ((C, D, K), true) ∧ e = .returned (.tuple #[formV (some ⟨B1, 0, none⟩) 3 3 (some ⟨B2, 0, none⟩) 2 2 K, .bool true]) ∧ C.length = 3 ∧ D.length = 2 ∧ Below w.heap.size w w' ∧ Blk w' B1 C ∧ Blk w' B2 D) ∨
      (rfF l = noF ∧ e = .returned (.tuple #[formV none 0 0 none 0 0 0, .bool false]) ∧ Below w.heap.size w w') := by
  have HF : Hid _ := rfF_spec l
  obtain ⟨ws, hws⟩ : ∃ ws, wsF l = ws := ⟨_, rfl⟩
  have HWS : Hid _ := hws
  obtain ⟨n, hn⟩ : ∃ n, ws.length = n := ⟨_, rfl⟩
  have HN : Hid _ := hn
  have hn121 : n ≤ 121 := by rw [← hn, ← hws]; exact wsF_len l
  have HS : Hid (∀ x ∈ ws, x.length ≤ 120) := by rw [← hws]; exact wsF_short l
  clear hws hn
  have bx := Cel.new w [.slice none 0 0, .slice none 0 0, .int .i64 0] 24
  have B0 := (Below.refl w.heap.size w).alloc (Nat.le_refl _) (.cells #[.slice none 0 0, .slice none 0 0, .int .i64 0] 24)
  go_enter Tryz.func16, Tryz.ntmps16
  go_wp2_with fail
  refine (swords_all l _).mono ?_
  rintro e w1 ⟨g, cw, rfl, b1, hcs⟩
  rw [HWS.out] at hcs ⊢
  rw [HN.out]
  have bx1 := bx.below b1
  have B1 := B0.trans (b1.mono B0.size)
  have lt1 := bx1.lt
  have HCS : Hid _ := hcs
  clear hcs bx b1 B0
  go_wp2_with fail
  refine (szero_any _).mono ?_
  rintro e w2 ⟨A1, A2, rfl, b2, h1, h12, h2, k1, k2⟩
  have bx2 := bx1.below b2
  have s0 : GB w1 w.heap.size w2.heap.size A1 A2 zeroR (w2.alloc (.cells #[.slice (some ⟨A1, 0, none⟩) 3 3, .slice (some ⟨A2, 0, none⟩) 2 2, .int .i64 0] 24)) := by
    have z1 := k1.lt
    have z2 := k2.lt
    have z4 := b2.size
    exact ⟨b2.alloc b2.size _, bx2.below ((Below.refl _ _).alloc (Nat.le_refl _) _), Cel.new w2 _ _, k1.below ((Below.refl _ _).alloc (Nat.le_refl _) _), k2.below ((Below.refl _ _).alloc (Nat.le_refl _) _), rfl, rfl, h1, h2, z4, h12, ⟨by omega, by omega⟩, ⟨by omega, by omega⟩, by omega⟩
  have HC2 : Hid (∀ W, Below w1.heap.size w1 W → ∀ (i : Nat) (x : List UInt8), ws[i]? = some x → W.cell? ⟨g, i, none⟩ = some (.string ⟨x.toArray⟩)) := fun W hW i x hx => by
    obtain ⟨q1, q2⟩ := HCS.out i x hx
    rw [hW.cell (p := ⟨g, i, none⟩) q1]; exact q2
  clear bx1 bx2 b2 h1 h2 h12 k1 k2 HCS
  go_wp2_with fail
  go_loopw [6] (fun i wr => ∃ (k : Nat) (f : FR), k ≤ n ∧ i = .int .i64 k ∧ f = (ws.take k).foldl partL zeroR ∧ GB w1 w.heap.size w2.heap.size A1 A2 f wr) (fun i _ => n - (intOf i).toNat)
  case atStart => exact ⟨0, _, Nat.zero_le _, rfl, rfl, s0⟩
  case round =>
    clear s0
    obtain ⟨k, ⟨C, D, K⟩, hk, rfl, hf, sb⟩ := hrel
    have HFD : Hid _ := hf
    clear hf
    have hsz := sb.b.size
    have f0 := sb.f.cell 0
    have f1 := sb.f.cell 1
    have f2 := sb.f.cell 2
    simp only [List.getElem?_cons_zero, List.getElem?_cons_succ] at f0 f1 f2
    by_cases hlt : k < n
    · obtain ⟨x, hx⟩ : ∃ x, ws[k]? = some x := ⟨_, List.getElem?_eq_getElem (by rw [HN.out]; exact hlt)⟩
      have hck := HC2.out wr sb.b k x hx
      have hxl : x.length ≤ 120 := HS.out x (List.mem_of_getElem? hx)
      have HST : Hid ((ws.take (k + 1)).foldl partL zeroR = partL (C, D, K) x) := by
        show _ = _
        have hl' := (List.getElem?_eq_some_iff.1 hx).1
        have e : ws.take (k + 1) = ws.take k ++ [x] := by
          rw [List.take_succ_eq_append_getElem hl', (List.getElem?_eq_some_iff.1 hx).2]
        rw [e, List.foldl_append, ← HFD.out]
        rfl
      clear hx
      go_wp2_with fail
      go_region_with (first | (go_at_call 32; refine (spart_any x A1 A2 C D K _ hxl (by exact sb.k1.below (Below.refl _ _).drew) (by exact sb.k2.below (Below.refl _ _).drew) sb.l1 sb.l2 sb.n12).mono ?_; rintro ee w3 ⟨C', D', K', hp, rfl, l1', l2', t3, k13, k23⟩; have t3' := touch_drew t3; have s3 := sb.part K' t3' k13 k23 l1' l2'; have fx := sb.f.touch t3' (fun hk => by rcases hk with h | h; exact sb.n2.1 h; exact sb.n2.2 h); have y0 := fx.cell 0; have y1 := fx.cell 1; have y2 := fx.cell 2; have u0 := fx.free 0; have u1 := fx.free 1; have u2 := fx.free 2; simp only [List.getElem?_cons_zero, List.getElem?_cons_succ] at y0 y1 y2; have HPP : Hid _ := hp; clear hp t3 t3' k13 k23 fx))
      all_goals
        go_wp2
        go_roundw
        case rel => exact ⟨k + 1, (C', D', K'), by omega, by go_num, by rw [HST.out, HPP.out], s3⟩
        case measure => simp [intOf]; omega
    · obtain rfl : k = n := by omega
      have HPW : Hid (preW l = (C, D, K)) := by
        show _ = _
        rw [HFD.out, List.take_of_length_le (by rw [HN.out]; exact Nat.le_refl _), preW, HWS.out]
      have HTF : Hid (textF (C, D, K) = formText 3 2 C D K) := by
        show formText C.length D.length C D K = _
        rw [sb.l1, sb.l2]
      obtain ⟨T, hT⟩ : ∃ T, formText 3 2 C D K = T := ⟨_, rfl⟩
      have HT : Hid _ := hT
      have HR : Hid (rfF l = if T ≠ [] ∧ T = l then ((C, D, K), true) else noF) := by
        show _ = _
        rw [HF.out, HPW.out, HTF.out, hT]
      have HL : Hid (C.length = 3 ∧ D.length = 2) := ⟨sb.l1, sb.l2⟩
      clear hT HF HPW HTF HFD
      have i1 : Ints wr (some ⟨A1, 0, none⟩) 3 C := sb.k1.ints' HL.out.1
      have i2 : Ints wr (some ⟨A2, 0, none⟩) 2 D := sb.k2.ints' HL.out.2
      go_wp2_with fail
      refine (sftext_any _ _ _ _ _ _ K C D _ i1 i2 (by omega) (by omega)).mono ?_
      rintro e w6 ⟨rfl, b6⟩
      rw [HT.out]
      have s6 := sb.below b6
      clear sb b6 i1 i2 f0 f1 f2
      cases T with
      | nil =>
        have HR2 : Hid (rfF l = noF) := by show _ = _; rw [HR.out, if_neg (fun h => h.1 rfl)]
        have r0 := s6.r.cell 0
        have r1 := s6.r.cell 1
        have r2 := s6.r.cell 2
        have q0 := s6.r.free 0
        have q1 := s6.r.free 1
        have q2 := s6.r.free 2
        have ltR := s6.r.lt
        simp only [List.getElem?_cons_zero, List.getElem?_cons_succ] at r0 r1 r2
        have BE := B1.trans (s6.b.mono B1.size)
        clear s6 HR
        go_wp2
        exact bodyPost_ret (v := .tuple #[formV none 0 0 none 0 0 0, .bool false]) (by simp [results, Tryz.results16, go_sem, r0, r1, r2]) rfl (Or.inr ⟨HR2.out, rfl, ((BE.setCell (Nat.le_refl _) _).setCell (Nat.le_refl _) _).setCell (Nat.le_refl _) _⟩)
      | cons tb tt =>
        have i1 : Ints w6 (some ⟨A1, 0, none⟩) 3 C := s6.k1.ints' HL.out.1
        have i2 : Ints w6 (some ⟨A2, 0, none⟩) 2 D := s6.k2.ints' HL.out.2
        have f0 := s6.f.cell 0
        have f1 := s6.f.cell 1
        have f2 := s6.f.cell 2
        simp only [List.getElem?_cons_zero, List.getElem?_cons_succ] at f0 f1 f2
        go_wp2_with fail
        refine (sftext_any _ _ _ _ _ _ K C D _ i1 i2 (by omega) (by omega)).mono ?_
        rintro e w7 ⟨rfl, b7⟩
        rw [HT.out]
        have s7 := s6.below b7
        clear s6 b7 i1 i2 f0 f1 f2
        obtain ⟨TT, hTT⟩ : ∃ TT, TT = tb :: tt := ⟨_, rfl⟩
        rw [← hTT]
        have HTT : Hid _ := hTT
        clear hTT
        have f0 := s7.f.cell 0
        have f1 := s7.f.cell 1
        have f2 := s7.f.cell 2
        have r0 := s7.r.cell 0
        have r1 := s7.r.cell 1
        have r2 := s7.r.cell 2
        have q0 := s7.r.free 0
        have q1 := s7.r.free 1
        have q2 := s7.r.free 2
        have ltR := s7.r.lt
        have ltF := s7.f.lt
        have nRF := s7.n3
        simp only [List.getElem?_cons_zero, List.getElem?_cons_succ] at r0 r1 r2 f0 f1 f2
        have BE := B1.trans (s7.b.mono B1.size)
        have K1 := s7.k1
        have K2 := s7.k2
        have m1 := s7.n1.1
        have m2 := s7.n1.2
        clear s7
        by_cases he : TT = l
        · have hE : (TT == l) = true := by rw [he]; simp
          have hE2 : (TT != l) = false := by rw [he]; simp
          have HR2 : Hid (rfF l = ((C, D, K), true)) := by show _ = _; rw [HR.out, if_pos ⟨by simp, by rw [← HTT.out]; exact he⟩]
          clear he HR
          go_wp2
          exact bodyPost_ret (v := .tuple #[formV (some ⟨A1, 0, none⟩) 3 3 (some ⟨A2, 0, none⟩) 2 2 K, .bool true]) (by simp [results, Tryz.results16, go_sem, r0, r1, r2]) rfl (Or.inl ⟨C, D, K, A1, A2, HR2.out, rfl, HL.out.1, HL.out.2, ((BE.setCell (Nat.le_refl _) _).setCell (Nat.le_refl _) _).setCell (Nat.le_refl _) _, ((K1.setOther m1.symm _ _).setOther m1.symm _ _).setOther m1.symm _ _, ((K2.setOther m2.symm _ _).setOther m2.symm _ _).setOther m2.symm _ _⟩)
        · have hE : (TT == l) = false := by simpa using he
          have hE2 : (TT != l) = true := by simpa using he
          have HR2 : Hid (rfF l = noF) := by show _ = _; rw [HR.out, if_neg (fun h => he (HTT.out.trans h.2))]
          clear he HR
          go_wp2
          exact bodyPost_ret (v := .tuple #[formV none 0 0 none 0 0 0, .bool false]) (by simp [results, Tryz.results16, go_sem, r0, r1, r2]) rfl (Or.inr ⟨HR2.out, rfl, ((BE.setCell (Nat.le_refl _) _).setCell (Nat.le_refl _) _).setCell (Nat.le_refl _) _⟩)

end Go.Proofs.YtkmacleakfbobabGreatDoor
