/-
  A form, as the program reads it out of its words. The library's strconv.Atoi and strings.Cut are taken by what they answer (ReadsN, Cuts).
-/
import Derived.Test.YtfkcfjkojfnfnaaDoorRfR
import Derived.Test.YtfkcfjkojfnfnaaDoorPots
namespace Go.Proofs.YtfkcfjkojfnfnaaDoor
open Go.RowKit
set_option linter.unusedVariables false
set_option maxRecDepth 100000

def goW (ws : List (List UInt8)) (last : List UInt8) : Option FR :=
  match wordsR zeroR ws with
  | none => none
  | some f => match Lib.atoiAll last with
    | .ok z => some (f.1, f.2.1, z)
    | _ => none
theorem wordsR_take {ws : List (List UInt8)} {k : Nat} {x : List UInt8} {f g : FR} (hx : ws[k]? = some x) (h : wordsR f (ws.take k) = some g) : wordsR f (ws.take (k + 1)) = wordR g x := by
  have hl := (List.getElem?_eq_some_iff.1 hx).1
  have e : ws.take (k + 1) = ws.take k ++ [x] := by
    rw [List.take_succ_eq_append_getElem hl, (List.getElem?_eq_some_iff.1 hx).2]
  rw [e, wordsR_append, h]
  show wordsR g [x] = _
  rw [wordsR]
  cases wordR g x with
  | none => rfl
  | some y => rfl
theorem wordsR_none {ws : List (List UInt8)} {k : Nat} {x : List UInt8} {f g : FR} (hx : ws[k]? = some x) (h : wordsR f (ws.take k) = some g) (hw : wordR g x = none) : wordsR f ws = none := by
  have h1 := wordsR_take hx h
  rw [hw] at h1
  have e : ws = ws.take (k + 1) ++ ws.drop (k + 1) := (List.take_append_drop _ _).symm
  rw [e, wordsR_append, h1]
  rfl
theorem goW_none {ws : List (List UInt8)} {last : List UInt8} (h : wordsR zeroR ws = none) : goW ws last = none := by rw [goW, h]
theorem goW_bad {ws : List (List UInt8)} {last : List UInt8} {f : FR} (h : wordsR zeroR ws = some f) (hl : ∀ v, Lib.atoiAll last ≠ .ok v) : goW ws last = none := by
  rw [goW, h]
  show (match Lib.atoiAll last with | .ok z => _ | _ => _) = _
  cases e : Lib.atoiAll last with
  | ok v => exact absurd e (hl v)
  | «syntax» => rfl
  | range => rfl
theorem goW_ok {ws : List (List UInt8)} {last : List UInt8} {C D : List Int} {K z : Int} (h : wordsR zeroR ws = some (C, D, K)) (hl : Lib.atoiAll last = .ok z) : goW ws last = some (C, D, z) := by
  rw [goW, h]
  show (match Lib.atoiAll last with | .ok z => _ | _ => _) = _
  rw [hl]

/-- What the reader holds: the result's box, the form's box, its two lists. -/
structure FB (w : World) (R F B1 B2 : Nat) (C D : List Int) (W : World) : Prop where
  b : Below w.heap.size w W
  r : Cel W R [.slice none 0 0, .slice none 0 0, .int .i64 0] 25
  f : Cel W F [.slice (some ⟨B1, 0, none⟩) 3 3, .slice (some ⟨B2, 0, none⟩) 2 2, .int .i64 0] 25
  k1 : Blk W B1 C
  k2 : Blk W B2 D
  l1 : C.length = 3
  l2 : D.length = 2
  h1 : w.heap.size ≤ B1
  h2 : w.heap.size ≤ B2
  n12 : B1 ≠ B2
  n1 : R ≠ B1 ∧ R ≠ B2
  n2 : F ≠ B1 ∧ F ≠ B2
theorem FB.below {w W W' : World} {R F B1 B2 : Nat} {C D : List Int} (s : FB w R F B1 B2 C D W) (h : Below W.heap.size W W') : FB w R F B1 B2 C D W' :=
  ⟨s.b.trans (h.mono s.b.size), s.r.below h, s.f.below h, s.k1.below h, s.k2.below h, s.l1, s.l2, s.h1, s.h2, s.n12, s.n1, s.n2⟩
theorem FB.setC {w W W' : World} {R F B1 B2 : Nat} {C D C' : List Int} (s : FB w R F B1 B2 C D W) (t : Touch (fun k => k = B1) W W') (k : Blk W' B1 C') (hl : C'.length = 3) : FB w R F B1 B2 C' D W' :=
  ⟨s.b.trans (t.below s.b.size (fun k hk => by rw [hk]; exact s.h1)), s.r.touch t s.n1.1, s.f.touch t s.n2.1, k, by have := s.k2; unfold Blk at *; rw [t.block _ s.k2.lt (fun e => s.n12 e.symm)]; exact this, hl, s.l2, s.h1, s.h2, s.n12, s.n1, s.n2⟩
theorem FB.setD {w W W' : World} {R F B1 B2 : Nat} {C D D' : List Int} (s : FB w R F B1 B2 C D W) (t : Touch (fun k => k = B2) W W') (k : Blk W' B2 D') (hl : D'.length = 2) : FB w R F B1 B2 C D' W' :=
  ⟨s.b.trans (t.below s.b.size (fun k hk => by rw [hk]; exact s.h2)), s.r.touch t s.n1.2, s.f.touch t s.n2.2, by have := s.k1; unfold Blk at *; rw [t.block _ s.k1.lt s.n12]; exact this, k, s.l1, hl, s.h1, s.h2, s.n12, s.n1, s.n2⟩

set_option maxHeartbeats 6400000 in
theorem iform_any (ws : List (List UInt8)) (last : List UInt8) (b n cap : Nat) (w : World) (hn : ws.length = n) (hn1 : n ≤ 121) (hcap : n + 1 ≤ cap) (hb : b < w.heap.size) (hW : ∀ (i : Nat) (x : List UInt8), (ws ++ [last])[i]? = some x → w.cell? ⟨b, i, none⟩ = some (.string ⟨x.toArray⟩)) (hws : ∀ x ∈ ws ++ [last], x.length ≤ 120) (hA : ReadsN w) (hC : Cuts w) :
    Calls Tryd.prog 43 #[.slice (some ⟨b, 0, none⟩) (n + 1) cap] w fun e w' =>
      (∃ C D K B1 B2, goW ws last = some (C, D, K) ∧ e = .returned (.tuple #[formV (some ⟨B1, 0, none⟩) 3 3 (some ⟨B2, 0, none⟩) 2 2 K, .bool true]) ∧ C.length = 3 ∧ D.length = 2 ∧ Below w.heap.size w w' ∧ w.heap.size ≤ B1 ∧ B1 ≠ B2 ∧ w.heap.size ≤ B2 ∧ Blk w' B1 C ∧ Blk w' B2 D) ∨
      (goW ws last = none ∧ e = .returned (.tuple #[formV none 0 0 none 0 0 0, .bool false]) ∧ Below w.heap.size w w') := by
  have HN : Hid _ := hn
  have HW : Hid _ := hW
  have HS : Hid _ := hws
  have HA : Hid _ := hA
  have HC : Hid _ := hC
  clear hn hW hws hA hC
  have B0 := (Below.refl w.heap.size w).alloc (Nat.le_refl _) (.cells #[.slice none 0 0, .slice none 0 0, .int .i64 0] 25)
  have x0 := Cel.new w [.slice none 0 0, .slice none 0 0, .int .i64 0] 25
  go_enter Tryd.func43, Tryd.ntmps43
  go_wp2_with fail
  refine (izero_any _).mono ?_
  rintro e w1 ⟨B1, B2, rfl, b1, h1, h12, h2, k1, k2⟩
  rw [World.size_alloc] at h1 h2
  have x1 := x0.below b1
  have lt1 := x1.lt
  have s0 : FB w w.heap.size w1.heap.size B1 B2 [0, 0, 0] [0, 0] (w1.alloc (.cells #[.slice (some ⟨B1, 0, none⟩) 3 3, .slice (some ⟨B2, 0, none⟩) 2 2, .int .i64 0] 25)) := by
    have z1 := k1.lt
    have z2 := k2.lt
    exact ⟨(B0.trans (b1.mono B0.size)).alloc (by omega) _, x1.below ((Below.refl _ _).alloc (Nat.le_refl _) _), Cel.new w1 _ _, k1.below ((Below.refl _ _).alloc (Nat.le_refl _) _), k2.below ((Below.refl _ _).alloc (Nat.le_refl _) _), rfl, rfl, by omega, by omega, h12, ⟨by omega, by omega⟩, ⟨by omega, by omega⟩⟩
  clear B0 x0 x1 b1 h1 h2 h12 k1 k2
  go_wp2_with fail
  go_loopw [7, 18] (fun _ i wr => ∃ (k : Nat) (C D : List Int), k ≤ n ∧ i = .int .i64 k ∧ wordsR zeroR (ws.take k) = some (C, D, 0) ∧ FB w w.heap.size w1.heap.size B1 B2 C D wr) (fun _ i _ => n - (intOf i).toNat)
  case atStart => exact ⟨0, _, _, Nat.zero_le _, rfl, rfl, s0⟩
  case round =>
    clear s0
    obtain ⟨k, C, D, hk, rfl, hwr, sb⟩ := hrel
    have HWR : Hid _ := hwr
    clear hwr
    have hsz := sb.b.size
    have hbr : b < wr.heap.size := by omega
    have f0 := sb.f.cell 0
    have f1 := sb.f.cell 1
    have f2 := sb.f.cell 2
    simp only [List.getElem?_cons_zero, List.getElem?_cons_succ] at f0 f1 f2
    by_cases hlt : k < n
    · obtain ⟨x, hx⟩ : ∃ x, ws[k]? = some x := ⟨_, List.getElem?_eq_getElem (by rw [HN.out]; exact hlt)⟩
      have hx2 : (ws ++ [last])[k]? = some x := by rw [List.getElem?_append_left (by rw [HN.out]; exact hlt)]; exact hx
      have hck : wr.cell? ⟨b, k, none⟩ = some (.string ⟨x.toArray⟩) := by
        rw [sb.b.cell (p := ⟨b, k, none⟩) hb]; exact HW.out k x hx2
      have hxl : x.length ≤ 120 := HS.out x (List.mem_of_getElem? hx2)
      have HX : Hid _ := hx
      clear hx hx2
      go_wp2_with fail
      refine (rtimes_any 120 x B1 3 C wr hxl sb.k1 sb.l1 (by omega) (ReadsN.below HA.out sb.b) (Cuts.below HC.out sb.b)).mono ?_
      rintro e w2 hcase
      rcases hcase with ⟨ys, hy, hyl, rfl, t2, k2⟩ | ⟨hy, rfl, b2⟩
      · have s2 := sb.setC t2 k2 hyl
        have HR : Hid (wordsR zeroR (ws.take (k + 1)) = some (ys, D, 0)) := by
          show _ = _
          rw [wordsR_take HX.out HWR.out, wordR]
          show (match timesR 120 C x with | some C => _ | none => _) = _
          rw [hy]
        clear hy t2 k2 sb f0 f1 f2 hck
        go_wp2
        go_roundw
        case rel => exact ⟨k + 1, ys, D, by omega, by go_num, HR.out, s2⟩
        case measure => simp [intOf]; omega
      · have s2 := sb.below b2
        have HY : Hid _ := hy
        clear hy b2 sb f0 f1 f2 hck
        have f0 := s2.f.cell 0
        have f1 := s2.f.cell 1
        simp only [List.getElem?_cons_zero, List.getElem?_cons_succ] at f0 f1
        go_wp2_with fail
        refine (rtimes_any 97 x B2 2 D w2 hxl s2.k2 s2.l2 (by omega) (ReadsN.below HA.out s2.b) (Cuts.below HC.out s2.b)).mono ?_
        rintro e w3 hcase
        rcases hcase with ⟨ys, hy, hyl, rfl, t2, k2⟩ | ⟨hy, rfl, b2⟩
        · have s3 := s2.setD t2 k2 hyl
          have HR : Hid (wordsR zeroR (ws.take (k + 1)) = some (C, ys, 0)) := by
            show _ = _
            rw [wordsR_take HX.out HWR.out, wordR]
            show (match timesR 120 C x with | some C => _ | none => match timesR 97 D x with | some D => _ | none => _) = _
            rw [HY.out, hy]
          clear hy t2 k2 s2 f0 f1
          go_wp2
          go_roundw
          case rel => exact ⟨k + 1, C, ys, by omega, by go_num, HR.out, s3⟩
          case measure => simp [intOf]; omega
        · have s3 := s2.below b2
          have HR : Hid (goW ws last = none) := by
            refine goW_none (wordsR_none HX.out HWR.out ?_)
            rw [wordR]
            show (match timesR 120 C x with | some C => _ | none => match timesR 97 D x with | some D => _ | none => _) = _
            rw [HY.out, hy]
          clear hy b2 s2 f0 f1
          have r0 := s3.r.cell 0
          have r1 := s3.r.cell 1
          have r2 := s3.r.cell 2
          have q0 := s3.r.free 0
          have q1 := s3.r.free 1
          have q2 := s3.r.free 2
          simp only [List.getElem?_cons_zero, List.getElem?_cons_succ] at r0 r1 r2
          go_wp2
          exact bodyPost_ret (v := .tuple #[formV none 0 0 none 0 0 0, .bool false]) (by simp [results, Tryd.results43, go_sem, r0, r1, r2]) rfl (Or.inr ⟨HR.out, rfl, ((s3.b.setCell (Nat.le_refl _) _).setCell (Nat.le_refl _) _).setCell (Nat.le_refl _) _⟩)
    · obtain rfl : k = n := by omega
      have HWS : Hid (wordsR zeroR ws = some (C, D, 0)) := by
        show _ = _
        rw [← HWR.out, List.take_of_length_le (by rw [HN.out]; exact Nat.le_refl _)]
      have hxl : (ws ++ [last])[k]? = some last := by rw [List.getElem?_append_right (by rw [HN.out]; exact Nat.le_refl _), HN.out]; simp
      have hck : wr.cell? ⟨b, k, none⟩ = some (.string ⟨last.toArray⟩) := by
        rw [sb.b.cell (p := ⟨b, k, none⟩) hb]; exact HW.out k last hxl
      have hll : last.length ≤ 120 := HS.out last (by simp)
      clear HWR hxl
      go_wp2_with fail
      refine (HA.out wr sb.b last hll).mono ?_
      rintro e w2 ⟨b2, hcase⟩
      have s2 := sb.below b2
      clear b2 sb f0 f1 f2 hck
      have r0 := s2.r.cell 0
      have r1 := s2.r.cell 1
      have r2 := s2.r.cell 2
      have q0 := s2.r.free 0
      have q1 := s2.r.free 1
      have q2 := s2.r.free 2
      simp only [List.getElem?_cons_zero, List.getElem?_cons_succ] at r0 r1 r2
      rcases hcase with ⟨v, hv, rfl⟩ | ⟨hv, z, t, bb, rfl⟩
      · have HR : Hid _ := goW_ok HWS.out hv
        clear hv
        have f2 := s2.f.cell 2
        have p2 := s2.f.free 2
        simp only [List.getElem?_cons_zero, List.getElem?_cons_succ] at f2
        have ltF := s2.f.lt
        have ltR := s2.r.lt
        have nRF : w.heap.size ≠ w1.heap.size := by omega
        have F' := s2.f.set 2 (.int .i64 v)
        have R' := s2.r.setOther nRF 2 (.int .i64 v)
        have g0 := F'.cell 0
        have g1 := F'.cell 1
        have g2 := F'.cell 2
        have d0 := R'.cell 0
        have d1 := R'.cell 1
        have d2 := R'.cell 2
        have e0 := R'.free 0
        have e1 := R'.free 1
        have e2 := R'.free 2
        simp only [List.set_cons_zero, List.set_cons_succ, List.getElem?_cons_zero, List.getElem?_cons_succ] at g0 g1 g2 d0 d1 d2
        have B' := s2.b.setCell (p := ⟨w1.heap.size, 2, none⟩) (by show w.heap.size ≤ w1.heap.size; omega) (.int .i64 v)
        obtain ⟨m1, m2⟩ := s2.n1
        obtain ⟨m3, m4⟩ := s2.n2
        have K1 := s2.k1.setOther (Ne.symm m3) 2 (.int .i64 v)
        have K2 := s2.k2.setOther (Ne.symm m4) 2 (.int .i64 v)
        have l1 := s2.l1
        have l2 := s2.l2
        have o1 := s2.h1
        have o2 := s2.h2
        have o3 := s2.n12
        have HL : Hid (C.length = 3 ∧ D.length = 2) := ⟨l1, l2⟩
        have HL2 : Hid (w.heap.size ≤ B1 ∧ B1 ≠ B2 ∧ w.heap.size ≤ B2) := ⟨o1, o3, o2⟩
        clear s2 F' R' l1 l2 o1 o2 o3 r0 r1 r2 q0 q1 q2
        go_wp2
        exact bodyPost_ret (v := .tuple #[formV (some ⟨B1, 0, none⟩) 3 3 (some ⟨B2, 0, none⟩) 2 2 v, .bool true]) (by simp [results, Tryd.results43, go_sem, d0, d1, d2]) rfl (Or.inl ⟨C, D, v, B1, B2, HR.out, rfl, HL.out.1, HL.out.2, ((B'.setCell (Nat.le_refl _) _).setCell (Nat.le_refl _) _).setCell (Nat.le_refl _) _, HL2.out.1, HL2.out.2.1, HL2.out.2.2, ((K1.setOther (Ne.symm m1) _ _).setOther (Ne.symm m1) _ _).setOther (Ne.symm m1) _ _, ((K2.setOther (Ne.symm m2) _ _).setOther (Ne.symm m2) _ _).setOther (Ne.symm m2) _ _⟩)
      · have HR : Hid _ := goW_bad HWS.out hv
        clear hv
        go_wp2
        exact bodyPost_ret (v := .tuple #[formV none 0 0 none 0 0 0, .bool false]) (by simp [results, Tryd.results43, go_sem, r0, r1, r2]) rfl (Or.inr ⟨HR.out, rfl, ((s2.b.setCell (Nat.le_refl _) _).setCell (Nat.le_refl _) _).setCell (Nat.le_refl _) _⟩)

end Go.Proofs.YtfkcfjkojfnfnaaDoor
