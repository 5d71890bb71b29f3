/-
  A line, as the specification reads it, of whatever length.
-/
import Derived.Test.YtkmacleakfbobabGreatDoorAcP
import Derived.Test.YtkmacleakfbobabGreatDoorRdW
import Derived.Test.YtkmacleakfbobabGreatDoorAcT
import Derived.Test.YtkmacleakfbobabGreatDoorRfW
namespace Go.Proofs.YtkmacleakfbobabGreatDoor
open Go.RowKit
set_option linter.unusedVariables false
set_option maxRecDepth 100000

theorem rest_at {l : List UInt8} {k n : Nat} (h : k < l.length) (hb : l[k]?.getD 0 = 32) : restL n (l.drop k) = if n = 1 then l.drop (k + 1) else restL (n - 1) (l.drop (k + 1)) := by
  rw [List.getElem?_eq_getElem h] at hb
  rw [List.drop_eq_getElem_cons h, restL, if_pos (by simpa using hb)]
theorem rest_by {l : List UInt8} {k n : Nat} (h : k < l.length) (hb : ¬ l[k]?.getD 0 = 32) : restL n (l.drop k) = restL n (l.drop (k + 1)) := by
  rw [List.getElem?_eq_getElem h] at hb
  rw [List.drop_eq_getElem_cons h, restL, if_neg (by simpa using hb)]
theorem rest_end {l : List UInt8} {k n : Nat} (h : l.length ≤ k) : restL n (l.drop k) = [] := by
  rw [List.drop_eq_nil_of_le h]; rw [restL]

set_option maxHeartbeats 1600000 in
theorem srest_any (l : List UInt8) (n0 : Nat) (w : World) (hn1 : 1 ≤ n0) (hn2 : n0 ≤ 2) (hl : l.length ≤ 120) :
    Calls Tryz.prog 17 #[.string ⟨l.toArray⟩, .int .i64 n0] w fun e w' => e = .returned (.string ⟨(restL n0 l).toArray⟩) ∧ Below w.heap.size w w' := by
  go_enter Tryz.func17, Tryz.ntmps17
  go_wp2_with fail
  go_loopw [1, 5] (fun nv i wr => ∃ k n : Nat, k ≤ l.length ∧ i = .int .i64 k ∧ nv = .int .i64 n ∧ 1 ≤ n ∧ n ≤ 2 ∧ restL n0 l = restL n (l.drop k) ∧ Below w.heap.size w wr) (fun _ i _ => l.length - (intOf i).toNat)
  case atStart => exact ⟨0, n0, Nat.zero_le _, rfl, rfl, hn1, hn2, rfl, Below.refl _ _⟩
  case round =>
    obtain ⟨k, n, hk, rfl, rfl, h1, h2, hr, hb⟩ := hrel
    have HR : Hid _ := hr
    clear hr
    by_cases hlt : k < l.length
    · have hlt' : (k : Int) < (l.length : Int) := by omega
      have hgt : (0 : Int) < (n : Int) := by omega
      have hB := str_at hlt
      by_cases hb32 : l[k]?.getD 0 = 32
      · have HA : Hid _ := rest_at (n := n) hlt hb32
        rw [hb32] at hB
        have hB' : ((⟨l.toArray⟩ : ByteArray)[k]'(str_lt hlt)).toNat = 32 := by rw [hB]; rfl
        clear hB
        by_cases hn : n = 1
        · subst hn
          have HA2 : Hid (restL 1 (l.drop k) = l.drop (k + 1)) := by show _ = _; rw [HA.out, if_pos rfl]
          have hk1 : (k : Int) + 1 ≤ (l.length : Int) := by omega
          have hex : (⟨l.toArray⟩ : ByteArray).extract (k + 1) l.length = ⟨(l.drop (k + 1)).toArray⟩ := by
            apply ByteArray.ext
            apply Array.toList_inj.1
            rw [Lib.extract_data]
            simp
            exact List.take_of_length_le (by simp)
          clear HA hb32
          go_wp2
          go_ret
          refine ⟨?_, hb⟩
          rw [HR.out, HA2.out]
          first | rfl | (simp [hex]; done) | trace_state
        · have hn' : n = 2 := by omega
          subst hn'
          have HA2 : Hid (restL 2 (l.drop k) = restL 1 (l.drop (k + 1))) := by show _ = _; rw [HA.out, if_neg (by decide)]
          clear HA hb32 hn
          go_wp2
          go_roundw
          case rel => exact ⟨k + 1, 1, by omega, by go_num, by go_num, by omega, by omega, by rw [HR.out, HA2.out], hb⟩
          case measure => simp [intOf]; omega
      · have HA : Hid _ := rest_by (n := n) hlt hb32
        obtain ⟨x, hx⟩ : ∃ x, l[k]?.getD 0 = x := ⟨_, rfl⟩
        rw [hx] at hB hb32
        have hxn : ¬ x.toNat = 32 := fun e => hb32 (UInt8.toNat_inj.1 (by rw [e]; rfl))
        have hne : ((x.toNat : Int) == 32) = false := by simp; omega
        have hx8 := x.toNat_lt
        clear hb32 hxn hx
        go_wp2
        go_roundw
        case rel => exact ⟨k + 1, n, by omega, by go_num, rfl, h1, h2, by rw [HR.out, HA.out], hb⟩
        case measure => simp [intOf]; omega
    · have hge : (l.length : Int) ≤ (k : Int) := by omega
      have HE : Hid _ := rest_end (n := n) (by omega : l.length ≤ k)
      go_wp2
      go_ret
      exact ⟨by rw [HR.out, HE.out]; rfl, hb⟩

end Go.Proofs.YtkmacleakfbobabGreatDoor

namespace Go.Proofs.YtkmacleakfbobabGreatDoor
open Go.RowKit
set_option linter.unusedVariables false
set_option maxRecDepth 100000

theorem no_ints (W : World) (a : Option Addr) : Ints W a 0 [] := ⟨rfl, fun i hi => absurd hi (by omega)⟩
theorem blk_ne {W : World} {B X : Nat} {zs : List Int} {vs : List Value} {t : TypeId} (h : Blk W B zs) (c : Cel W X vs t) (hl : zs.length ≠ vs.length) : B ≠ X := fun e => by
  subst e
  have h1 := h.cell
  unfold Blk at h
  unfold Cel at c
  rw [h] at c
  apply hl
  have := congrArg (fun o => match o with | some (Obj.cells a _ _) => a.size | _ => 0) c
  simpa using this
theorem atW_no {ws : List (List UInt8)} {k : Nat} (h : ws.length ≤ k) : atW ws k = -1 := by rw [atW, List.getElem?_eq_none h]
theorem atW_some {ws : List (List UInt8)} {k : Nat} {x : List UInt8} (h : ws[k]? = some x) : atW ws k = if (numL x).2 = true then (numL x).1 else -1 := by rw [atW, h]
theorem l2at_all (ws : List (List UInt8)) (g n cap k : Nat) (w : World) (hn : ws.length = n) (hs : ∀ x, ws[k]? = some x → x.length ≤ 120) (hc : ∀ x, ws[k]? = some x → w.cell? ⟨g, k, none⟩ = some (.string ⟨x.toArray⟩)) :
    Calls Tryz.prog 18 #[.slice (some ⟨g, 0, none⟩) n cap, .int .i64 k] w fun e w' => e = .returned (.int .i64 (atW ws k)) ∧ w' = w := by
  by_cases hk : k < n
  · obtain ⟨x, hx⟩ : ∃ x, ws[k]? = some x := ⟨_, List.getElem?_eq_getElem (by omega)⟩
    have hxl := hs x hx
    have hxc := hc x hx
    have HA : Hid _ := atW_some hx
    have hkn' : (k : Int) < (n : Int) := by omega
    have hc' : w.cell? ⟨g, 0 + k, none⟩ = some (.string ⟨x.toArray⟩) := by rw [Nat.zero_add]; exact hxc
    clear hs hc hx
    cases hb : (numL x).2
    all_goals
      have HB : Hid _ := hb
      clear hb
      go_enter Tryz.func18, Tryz.ntmps18
      go_wp2_with fail
      refine (num_any x _ hxl).mono ?_
      rintro e w1 ⟨rfl, rfl⟩
      rw [HB.out]
      go_wp2
      go_ret
      exact ⟨ret_int (by rw [HA.out, HB.out]; rfl), rfl⟩
  · have HA : Hid _ := atW_no (ws := ws) (k := k) (by omega)
    have hkn' : (n : Int) ≤ (k : Int) := by omega
    go_enter Tryz.func18, Tryz.ntmps18
    go_wp2
    go_ret
    exact ⟨ret_int (by rw [HA.out]), rfl⟩
theorem ls_one {l x : List UInt8} {t : List (List UInt8)} {w : List UInt8} {r : FR × Bool} (hl : l.length ≤ 120) (hw : wordsOf l = x :: t) (h : x = testW) (hr : rfF (restL 2 l) = r) : lineS l = (1, 0, atW (wordsOf l) 1, r.1) := by
  rw [lineS, wsF, if_pos hl, hw]; show (if x = testW then _ else _) = _; rw [if_pos h, hr]
theorem ls_two {l x : List UInt8} {t : List (List UInt8)} {r : FR × Bool} (hl : l.length ≤ 120) (hw : wordsOf l = x :: t) (h0 : ¬ x = testW) (h : x = addW) (hr : rfF (restL 2 l) = r) : lineS l = (2, atW (wordsOf l) 1, 0, r.1) := by
  rw [lineS, wsF, if_pos hl, hw]; show (if x = testW then _ else if x = addW then _ else _) = _; rw [if_neg h0, if_pos h, hr]
theorem ls_three {l x : List UInt8} {t : List (List UInt8)} {r : FR × Bool} (hl : l.length ≤ 120) (hw : wordsOf l = x :: t) (h0 : ¬ x = testW) (h1 : ¬ x = addW) (h : x = printW) (hr : rfF (restL 1 l) = r) : lineS l = (3, 0, 0, r.1) := by
  rw [lineS, wsF, if_pos hl, hw]; show (if x = testW then _ else if x = addW then _ else if x = printW then _ else _) = _; rw [if_neg h0, if_neg h1, if_pos h, hr]
theorem ls_four {l x : List UInt8} {t : List (List UInt8)} (hl : l.length ≤ 120) (hw : wordsOf l = x :: t) (h0 : ¬ x = testW) (h1 : ¬ x = addW) (h2 : ¬ x = printW) : lineS l = (4, 0, 0, [], [], 0) := by
  rw [lineS, wsF, if_pos hl, hw]; show (if x = testW then _ else if x = addW then _ else if x = printW then _ else _) = _; rw [if_neg h0, if_neg h1, if_neg h2]; rfl
theorem rest_len : ∀ (l : List UInt8) (n : Nat), (restL n l).length ≤ l.length
  | [], n => by rw [restL]; exact Nat.le_refl _
  | b :: t, n => by
    rw [restL]
    split
    · split
      · simp
      · have := rest_len t (n - 1); rw [List.length_cons]; omega
    · have := rest_len t n; rw [List.length_cons]; omega
theorem awords_long (l : List UInt8) (w : World) (hl : 120 < l.length) :
    Calls Tryz.prog 15 #[.string ⟨l.toArray⟩] w fun e w' => e = .returned (.slice (some ⟨w.heap.size, 0, none⟩) 0 0) ∧ Below w.heap.size w w' := by
  have hi : (120 : Int) < (l.length : Int) := by omega
  have B0 := (Below.refl w.heap.size w).alloc (Nat.le_refl _) (.cells #[] 9)
  go_enter Tryz.func15, Tryz.ntmps15
  go_wp2
  go_ret
  exact ⟨rfl, B0⟩

set_option maxHeartbeats 12800000 in
theorem saread_any (l : List UInt8) (w : World) :
    Calls Tryz.prog 5 #[.string ⟨l.toArray⟩] w fun e w' =>
      ∃ (k p z : Int) (C D : List Int) (K : Int) (a : Option Addr) (n cap : Nat) (c : Option Addr) (m cap' : Nat) (ok : Bool), e = .returned (.tuple #[lineV k p z a n cap c m cap' K, .bool ok]) ∧ Below w.heap.size w w' ∧ Ints w' a n C ∧ Ints w' c m D ∧ raS l = ((k, p, z, C, D, K), ok) := by
  have bx := Cel.new w [.int .i64 0, .int .i64 0, .int .i64 0, .slice none 0 0, .slice none 0 0, .int .i64 0] 26
  have B0 := (Below.refl w.heap.size w).alloc (Nat.le_refl _) (.cells #[.int .i64 0, .int .i64 0, .int .i64 0, .slice none 0 0, .slice none 0 0, .int .i64 0] 26)
  by_cases h120 : l.length ≤ 120
  case neg =>
    have HLS : Hid (lineS l = (4, 0, 0, [], [], 0)) := by show _ = _; rw [lineS, wsF, if_neg h120]; rfl
    go_enter Tryz.func5, Tryz.ntmps5
    go_wp2_with fail
    refine (awords_long l _ (by omega)).mono ?_
    rintro e w1 ⟨rfl, b1⟩
    have bxa := (bx.below b1).alloc (.cells #[.int .i64 4, .int .i64 0, .int .i64 0, .slice none 0 0, .slice none 0 0, .int .i64 0] 26)
    have BW1 := B0.trans (b1.mono B0.size)
    have BWa := BW1.alloc BW1.size (.cells #[.int .i64 4, .int .i64 0, .int .i64 0, .slice none 0 0, .slice none 0 0, .int .i64 0] 26)
    have cba := Cel.new w1 [.int .i64 4, .int .i64 0, .int .i64 0, .slice none 0 0, .slice none 0 0, .int .i64 0] 26
    clear bx B0 b1 BW1
    obtain ⟨T, hT⟩ : ∃ T, actText (4, 0, 0, [], [], 0) = T := ⟨_, rfl⟩
    have HT : Hid _ := hT
    clear hT
    obtain ⟨d0, d1, d2, d3, d4, d5⟩ := cba.six
    go_wp2_with fail
    refine (satext_any _ _ _ _ _ _ _ _ _ _ [] [] _ (no_ints _ _) (no_ints _ _) (by omega) (by omega)).mono ?_
    rintro e wb ⟨rfl, bb⟩
    rw [HT.out]
    have bxb := bxa.below bb
    have cbb := cba.below bb
    have BWb := BWa.trans (bb.mono BWa.size)
    clear bxa cba BWa bb d0 d1 d2 d3 d4 d5
    obtain ⟨r0, r1, r2, r3, r4, r5⟩ := bxb.six
    obtain ⟨f0, f1, f2, f3, f4, f5⟩ := bxb.frees
    have lt_bxb := bxb.lt
    obtain ⟨d0, d1, d2, d3, d4, d5⟩ := cbb.six
    by_cases h0 : T = []
    · have hm : T.isEmpty = true := by rw [h0]; rfl
      have HR : Hid (raS l = noA) := by show _ = _; rw [raS, HLS.out, if_neg (fun h => h.1 (by rw [HT.out]; exact h0))]
      clear h0
      go_wp2
      refine bodyPost_ret (v := .tuple #[lineV 0 0 0 none 0 0 none 0 0 0, .bool false]) (by simp [results, Tryz.results5, go_sem, r0, r1, r2, r3, r4, r5]) rfl ⟨0, 0, 0, [], [], 0, none, 0, 0, none, 0, 0, false, rfl, ?_, no_ints _ _, no_ints _ _, HR.out⟩
      exact (((((BWb.setCell (Nat.le_refl _) _).setCell (Nat.le_refl _) _).setCell (Nat.le_refl _) _).setCell (Nat.le_refl _) _).setCell (Nat.le_refl _) _).setCell (Nat.le_refl _) _
    have hm : T.isEmpty = false := by cases T with | nil => exact absurd rfl h0 | cons a b => rfl
    have H0 : Hid _ := h0
    clear h0
    go_wp2_with fail
    refine (satext_any _ _ _ _ _ _ _ _ _ _ [] [] _ (no_ints _ _) (no_ints _ _) (by omega) (by omega)).mono ?_
    rintro e wq ⟨rfl, bc⟩
    rw [HT.out]
    have bxc := bxb.below bc
    have cbc := cbb.below bc
    have BWc := BWb.trans (bc.mono BWb.size)
    clear bxb cbb BWb bc d0 d1 d2 d3 d4 d5 r0 r1 r2 r3 r4 r5 f0 f1 f2 f3 f4 f5 lt_bxb
    obtain ⟨r0, r1, r2, r3, r4, r5⟩ := bxc.six
    obtain ⟨f0, f1, f2, f3, f4, f5⟩ := bxc.frees
    have lt_bxc := bxc.lt
    obtain ⟨d0, d1, d2, d3, d4, d5⟩ := cbc.six
    have lt_cbc := cbc.lt
    by_cases he : T = l
    · have hE : (T == l) = true := by rw [he]; simp
      have hE2 : (T != l) = false := by rw [he]; simp
      have HR : Hid (raS l = ((4, 0, 0, [], [], 0), true)) := by show _ = _; rw [raS, HLS.out, if_pos ⟨by rw [HT.out]; exact H0.out, by rw [HT.out]; exact he⟩]
      clear he
      go_wp2
      refine bodyPost_ret (v := .tuple #[lineV 4 0 0 none 0 0 none 0 0 0, .bool true]) (by simp [results, Tryz.results5, go_sem, r0, r1, r2, r3, r4, r5]) rfl ⟨4, 0, 0, [], [], 0, _, _, _, _, _, _, true, rfl, ?_, ?_, ?_, HR.out⟩
      · exact (((((BWc.setCell (Nat.le_refl _) _).setCell (Nat.le_refl _) _).setCell (Nat.le_refl _) _).setCell (Nat.le_refl _) _).setCell (Nat.le_refl _) _).setCell (Nat.le_refl _) _
      · exact no_ints _ _
      · exact no_ints _ _
    · have hE : (T == l) = false := by simpa using he
      have hE2 : (T != l) = true := by simpa using he
      have HR : Hid (raS l = noA) := by show _ = _; rw [raS, HLS.out, if_neg (fun h => he (by rw [← HT.out]; exact h.2))]
      clear he
      go_wp2
      refine bodyPost_ret (v := .tuple #[lineV 0 0 0 none 0 0 none 0 0 0, .bool false]) (by simp [results, Tryz.results5, go_sem, r0, r1, r2, r3, r4, r5]) rfl ⟨0, 0, 0, [], [], 0, none, 0, 0, none, 0, 0, false, rfl, ?_, no_ints _ _, no_ints _ _, HR.out⟩
      exact (((((BWc.setCell (Nat.le_refl _) _).setCell (Nat.le_refl _) _).setCell (Nat.le_refl _) _).setCell (Nat.le_refl _) _).setCell (Nat.le_refl _) _).setCell (Nat.le_refl _) _
  obtain ⟨x0, ws, hws⟩ : ∃ x0 ws, wordsOf l = x0 :: ws := by
    cases h : wordsOf l with
    | nil => exact absurd h (words_ne l)
    | cons a b => exact ⟨a, b, rfl⟩
  obtain ⟨q, hq⟩ : ∃ q, (wordsOf l).length = q := ⟨_, rfl⟩
  have HQ : Hid _ := hq
  have hq0 : 0 < q := by rw [← hq, hws]; simp
  have hq0' : (0 : Int) < (q : Int) := by omega
  have HWS : Hid _ := hws
  have HS1 : Hid (∀ x, (wordsOf l)[1]? = some x → x.length ≤ 120) := fun x hx => by
    rw [hws, List.getElem?_cons_succ] at hx
    exact Nat.le_trans (words_short hws x (List.mem_of_getElem? hx)) h120
  have hr2 : (restL 2 l).length ≤ 120 := Nat.le_trans (rest_len l 2) h120
  have hr1 : (restL 1 l).length ≤ 120 := Nat.le_trans (rest_len l 1) h120
  clear hq hws
  go_enter Tryz.func5, Tryz.ntmps5
  go_wp2_with fail
  refine (words_any l _ h120).mono ?_
  rintro e w1 ⟨v, rfl, j1⟩
  have bx1 := bx.below j1.b
  have BW1 := B0.trans (j1.b.mono B0.size)
  obtain ⟨g, gc, rfl, -, hg, hcs⟩ := j1.cells (k := q) (by rw [bytesW, List.length_map]; exact HQ.out) hq0
  have HCS : Hid (∀ (i : Nat) (x : List UInt8), (wordsOf l)[i]? = some x → w1.cell? ⟨g, i, none⟩ = some (.string ⟨x.toArray⟩)) := fun i x hx => by
    have := hcs i ⟨x.toArray⟩ (by rw [bytesW, List.getElem?_map, hx]; rfl)
    rwa [Nat.zero_add] at this
  have al := (Below.refl w1.heap.size w1).alloc (Nat.le_refl _) (.cells #[.int .i64 4, .int .i64 0, .int .i64 0, .slice none 0 0, .slice none 0 0, .int .i64 0] 26)
  have g0 : (w1.alloc (.cells #[.int .i64 4, .int .i64 0, .int .i64 0, .slice none 0 0, .slice none 0 0, .int .i64 0] 26)).cell? ⟨g, 0, none⟩ = some (.string ⟨x0.toArray⟩) := by rw [al.cell (p := ⟨g, 0, none⟩) hg]; exact HCS.out 0 x0 (by rw [HWS.out]; rfl)
  have bxs := bx1.alloc (.cells #[.int .i64 4, .int .i64 0, .int .i64 0, .slice none 0 0, .slice none 0 0, .int .i64 0] 26)
  have BWs := BW1.alloc BW1.size (.cells #[.int .i64 4, .int .i64 0, .int .i64 0, .slice none 0 0, .slice none 0 0, .int .i64 0] 26)
  have cbs := Cel.new w1 [.int .i64 4, .int .i64 0, .int .i64 0, .slice none 0 0, .slice none 0 0, .int .i64 0] 26
  have ltw : w.heap.size < w1.heap.size := bx1.lt
  clear hcs j1 bx B0 bx1 BW1
  by_cases h_testW : x0 = testW
  · have HE : Hid _ := h_testW
    have hp_testW : x0 = [116, 101, 115, 116] := h_testW
    have hq_testW : (x0 == [116, 101, 115, 116]) = true := by rw [hp_testW]; rfl
    clear h_testW
    obtain ⟨Ws, hWs⟩ : ∃ W, W = w1.alloc (.cells #[.int .i64 4, .int .i64 0, .int .i64 0, .slice none 0 0, .slice none 0 0, .int .i64 0] 26) := ⟨_, rfl⟩
    go_wp2_with fail
    rw [← hWs]
    rw [← hWs] at bxs BWs cbs al g0
    clear hWs
    refine (srest_any l 2 _ (by omega) (by omega) h120).mono ?_
    rintro e w2 ⟨rfl, b2⟩
    go_wp2_with fail
    refine (sfread_any (restL 2 l) _).mono ?_
    rintro e w3 (⟨C, D, K, B1, B2, hF, rfl, l1, l2, b3, k1, k2⟩ | ⟨hF, rfl, b3⟩)
    · have b23 := b2.trans (b3.mono b2.size)
      have lw3 : w1.heap.size < w3.heap.size := Nat.lt_of_lt_of_le cbs.lt b23.size
      have HLS : Hid (lineS l = (1, 0, atW (wordsOf l) 1, C, D, K)) := ls_one (w := []) h120 HWS.out HE.out hF
      have HL1 : Hid _ := l1
      have HL2 : Hid _ := l2
      obtain ⟨zz, hzz⟩ : ∃ z, z = atW (wordsOf l) 1 := ⟨_, rfl⟩
      rw [← hzz] at HLS
      have HZZ : Hid _ := hzz
      clear hzz hF l1 l2
      have bx4 := (bxs.below b23).alloc (.cells #[.slice (some ⟨B1, 0, none⟩) 3 3, .slice (some ⟨B2, 0, none⟩) 2 2, .int .i64 K] 24)
      have cb4 := (cbs.below b23).alloc (.cells #[.slice (some ⟨B1, 0, none⟩) 3 3, .slice (some ⟨B2, 0, none⟩) 2 2, .int .i64 K] 24)
      have B3a := BWs.trans (b23.mono BWs.size)
      have BW4 := B3a.alloc B3a.size (.cells #[.slice (some ⟨B1, 0, none⟩) 3 3, .slice (some ⟨B2, 0, none⟩) 2 2, .int .i64 K] 24)
      have fb4 := Cel.new w3 [.slice (some ⟨B1, 0, none⟩) 3 3, .slice (some ⟨B2, 0, none⟩) 2 2, .int .i64 K] 24
      have al4 : Below w1.heap.size w1 (w3.alloc (.cells #[.slice (some ⟨B1, 0, none⟩) 3 3, .slice (some ⟨B2, 0, none⟩) 2 2, .int .i64 K] 24)) := (al.trans (b23.mono al.size)).alloc (al.trans (b23.mono al.size)).size (.cells #[.slice (some ⟨B1, 0, none⟩) 3 3, .slice (some ⟨B2, 0, none⟩) 2 2, .int .i64 K] 24)
      have kk1 := k1.alloc (.cells #[.slice (some ⟨B1, 0, none⟩) 3 3, .slice (some ⟨B2, 0, none⟩) 2 2, .int .i64 K] 24)
      have kk2 := k2.alloc (.cells #[.slice (some ⟨B1, 0, none⟩) 3 3, .slice (some ⟨B2, 0, none⟩) 2 2, .int .i64 K] 24)
      obtain ⟨W4, hW4⟩ : ∃ W, W = w3.alloc (.cells #[.slice (some ⟨B1, 0, none⟩) 3 3, .slice (some ⟨B2, 0, none⟩) 2 2, .int .i64 K] 24) := ⟨_, rfl⟩
      go_upto_region 7 with fail
      rw [← hW4] at bx4 cb4 BW4 fb4 al4 kk1 kk2 ⊢
      clear hW4 b2 b3 b23 B3a bxs cbs BWs k1 k2
      have hS0 : (W4.drew.cell? ⟨w3.heap.size, 0, none⟩ = some (.slice (some ⟨B1, 0, none⟩) 3 3) ∧ W4.drew.cell? ⟨w3.heap.size, 1, none⟩ = some (.slice (some ⟨B2, 0, none⟩) 2 2) ∧ W4.drew.cell? ⟨w3.heap.size, 2, none⟩ = some (.int .i64 K)) ∧ True := ⟨⟨fb4.cell 0, fb4.cell 1, fb4.cell 2⟩, trivial⟩
      refine wp_region_ends (fun X => X.cell? ⟨w3.heap.size, 0, none⟩ = some (.slice (some ⟨B1, 0, none⟩) 3 3) ∧ X.cell? ⟨w3.heap.size, 1, none⟩ = some (.slice (some ⟨B2, 0, none⟩) 2 2) ∧ X.cell? ⟨w3.heap.size, 2, none⟩ = some (.int .i64 K)) (fun _ => True) 4 (by kernel_rfl) ?_
      refine wpAnyE_take0 (i := 0) (v := ?tafv0) rfl (by kernel_rfl) (by kernel_rfl) (by kernel_rfl) (by decide) (fun _ _ _ h => h) (Or.inl ⟨by rfl, ?tafhy0⟩) hS0 ?_
      case tafhy0 => (intro wz hSw; (try dsimp only at hSw); go_simp; try (with_reducible rfl))
      refine wpAnyE_take0 (i := 2) (v := ?tafv2) rfl (by kernel_rfl) (by kernel_rfl) (by kernel_rfl) (by decide) (fun _ _ _ h => h) (Or.inl ⟨by rfl, ?tafhy2⟩) hS0 ?_
      case tafhy2 => (intro wz hSw; (try dsimp only at hSw); go_simp; try (with_reducible rfl))
      refine wpAnyE_one (i := 1) (by kernel_rfl) rfl (fun Kn hK => ?_)
      go_simp
      refine (l2at_all (wordsOf l) g q gc 1 _ HQ.out HS1.out (fun x hx => by
        show W4.cell? ⟨g, 1, none⟩ = _
        rw [al4.cell (p := ⟨g, 1, none⟩) hg]; exact HCS.out 1 x hx)).mono ?_
      rintro ee w5 ⟨rfl, rfl⟩
      rw [← HZZ.out]
      dsimp only
      refine hK.out _ _ ⟨hS0.1, fun _ => trivial⟩ ?_
      clear hK
      refine wpAnyE_take0 (i := 3) (v := ?tafv3) rfl (by kernel_rfl) (by kernel_rfl) (by kernel_rfl) (by decide) (fun _ _ _ h => h) (Or.inl ⟨by rfl, ?tafhy3⟩) hS0 ?_
      case tafhy3 => (intro wz hSw; (try dsimp only at hSw); go_simp; try (with_reducible rfl))
      obtain ⟨c0, c1, c2, c3, c4, c5⟩ := cb4.six
      obtain ⟨y0, y1, y2, y3, y4, y5⟩ := cb4.frees
      have lt_cb4 := cb4.lt
      have lt_fb4 := fb4.lt
      have hX0 : w.heap.size ≠ w1.heap.size := by omega
      have hX3 : w3.heap.size ≠ w1.heap.size := by omega
      have bxa := (((((((bx4.setOther hX0 0 (.int .i64 1)).setOther hX0 1 (.int .i64 0)).setOther hX0 2 (.int .i64 zz)).setOther hX0 3 (.slice (some ⟨B1, 0, none⟩) 3 3)).setOther hX0 4 (.slice (some ⟨B2, 0, none⟩) 2 2)).setOther hX0 5 (.int .i64 K))).below ((Below.refl _ _).drew)
      have fba := (((((((fb4.setOther hX3 0 (.int .i64 1)).setOther hX3 1 (.int .i64 0)).setOther hX3 2 (.int .i64 zz)).setOther hX3 3 (.slice (some ⟨B1, 0, none⟩) 3 3)).setOther hX3 4 (.slice (some ⟨B2, 0, none⟩) 2 2)).setOther hX3 5 (.int .i64 K))).below ((Below.refl _ _).drew)
      have cba := (((((((cb4.set 0 (.int .i64 1)).set 1 (.int .i64 0)).set 2 (.int .i64 zz)).set 3 (.slice (some ⟨B1, 0, none⟩) 3 3)).set 4 (.slice (some ⟨B2, 0, none⟩) 2 2)).set 5 (.int .i64 K))).below ((Below.refl _ _).drew)
      simp only [List.set_cons_zero, List.set_cons_succ] at cba
      have BWa := (((((((BW4.setCell (p := ⟨w1.heap.size, 0, none⟩) (Nat.le_of_lt ltw) (.int .i64 1)).setCell (p := ⟨w1.heap.size, 1, none⟩) (Nat.le_of_lt ltw) (.int .i64 0)).setCell (p := ⟨w1.heap.size, 2, none⟩) (Nat.le_of_lt ltw) (.int .i64 zz)).setCell (p := ⟨w1.heap.size, 3, none⟩) (Nat.le_of_lt ltw) (.slice (some ⟨B1, 0, none⟩) 3 3)).setCell (p := ⟨w1.heap.size, 4, none⟩) (Nat.le_of_lt ltw) (.slice (some ⟨B2, 0, none⟩) 2 2)).setCell (p := ⟨w1.heap.size, 5, none⟩) (Nat.le_of_lt ltw) (.int .i64 K))).drew
      have n1 := blk_ne kk1 cb4 (by rw [HL1.out]; decide)
      have n2 := blk_ne kk2 cb4 (by rw [HL2.out]; decide)
      have kd1 := (((((((kk1.setOther n1 0 (.int .i64 1)).setOther n1 1 (.int .i64 0)).setOther n1 2 (.int .i64 zz)).setOther n1 3 (.slice (some ⟨B1, 0, none⟩) 3 3)).setOther n1 4 (.slice (some ⟨B2, 0, none⟩) 2 2)).setOther n1 5 (.int .i64 K))).below ((Below.refl _ _).drew)
      have kd2 := (((((((kk2.setOther n2 0 (.int .i64 1)).setOther n2 1 (.int .i64 0)).setOther n2 2 (.int .i64 zz)).setOther n2 3 (.slice (some ⟨B1, 0, none⟩) 3 3)).setOther n2 4 (.slice (some ⟨B2, 0, none⟩) 2 2)).setOther n2 5 (.int .i64 K))).below ((Below.refl _ _).drew)
      clear kk1 kk2
      refine wpAnyE_one (i := 4) (by kernel_rfl) rfl (fun Kn hK => ?_)
      go_simp
      obtain ⟨wa, hwa⟩ : ∃ W, W = ((((((W4.setCell ⟨w1.heap.size, 0, none⟩ (.int .i64 1)).setCell ⟨w1.heap.size, 1, none⟩ (.int .i64 0)).setCell ⟨w1.heap.size, 2, none⟩ (.int .i64 zz)).setCell ⟨w1.heap.size, 3, none⟩ (.slice (some ⟨B1, 0, none⟩) 3 3)).setCell ⟨w1.heap.size, 4, none⟩ (.slice (some ⟨B2, 0, none⟩) 2 2)).setCell ⟨w1.heap.size, 5, none⟩ (.int .i64 K)).drew := ⟨_, rfl⟩
      rw [← hwa] at bxa fba cba BWa kd1 kd2 ⊢
      clear hwa bx4 cb4 BW4 fb4 c0 c1 c2 c3 c4 c5 y0 y1 y2 y3 y4 y5 lt_cb4 lt_fb4
      refine hK.out _ _ ⟨⟨fba.cell 0, fba.cell 1, fba.cell 2⟩, fun _ => trivial⟩ ?_
      clear hK hS0
      refine wpAnyE_done (by kernel_rfl) ?_ _
      clear fba al4
      have kk1 := kd1
      have kk2 := kd2
      clear kd1 kd2
      obtain ⟨T, hT⟩ : ∃ T, actText (1, 0, zz, C, D, K) = T := ⟨_, rfl⟩
      have HT : Hid _ := hT
      clear hT
      obtain ⟨d0, d1, d2, d3, d4, d5⟩ := cba.six
      go_wp2_with fail
      refine (satext_any _ _ _ _ _ _ _ _ _ _ C D _ (kk1.ints' HL1.out) (kk2.ints' HL2.out) (by omega) (by omega)).mono ?_
      rintro e wb ⟨rfl, bb⟩
      rw [HT.out]
      have bxb := bxa.below bb
      have cbb := cba.below bb
      have BWb := BWa.trans (bb.mono BWa.size)
      have kb1 := kk1.below bb
      have kb2 := kk2.below bb
      clear bxa cba BWa bb d0 d1 d2 d3 d4 d5 kk1 kk2
      obtain ⟨r0, r1, r2, r3, r4, r5⟩ := bxb.six
      obtain ⟨f0, f1, f2, f3, f4, f5⟩ := bxb.frees
      have lt_bxb := bxb.lt
      obtain ⟨d0, d1, d2, d3, d4, d5⟩ := cbb.six
      by_cases h0 : T = []
      · have hm : T.isEmpty = true := by rw [h0]; rfl
        have HR : Hid (raS l = noA) := by show _ = _; rw [raS, HLS.out, if_neg (fun h => h.1 (by rw [HT.out]; exact h0))]
        clear h0
        go_wp2
        refine bodyPost_ret (v := .tuple #[lineV 0 0 0 none 0 0 none 0 0 0, .bool false]) (by simp [results, Tryz.results5, go_sem, r0, r1, r2, r3, r4, r5]) rfl ⟨0, 0, 0, [], [], 0, none, 0, 0, none, 0, 0, false, rfl, ?_, no_ints _ _, no_ints _ _, HR.out⟩
        exact (((((BWb.setCell (Nat.le_refl _) _).setCell (Nat.le_refl _) _).setCell (Nat.le_refl _) _).setCell (Nat.le_refl _) _).setCell (Nat.le_refl _) _).setCell (Nat.le_refl _) _
      have hm : T.isEmpty = false := by cases T with | nil => exact absurd rfl h0 | cons a b => rfl
      have H0 : Hid _ := h0
      clear h0
      go_wp2_with fail
      refine (satext_any _ _ _ _ _ _ _ _ _ _ C D _ (kb1.ints' HL1.out) (kb2.ints' HL2.out) (by omega) (by omega)).mono ?_
      rintro e wq ⟨rfl, bc⟩
      rw [HT.out]
      have bxc := bxb.below bc
      have cbc := cbb.below bc
      have BWc := BWb.trans (bc.mono BWb.size)
      have kc1 := kb1.below bc
      have kc2 := kb2.below bc
      clear bxb cbb BWb bc d0 d1 d2 d3 d4 d5 r0 r1 r2 r3 r4 r5 f0 f1 f2 f3 f4 f5 lt_bxb kb1 kb2
      obtain ⟨r0, r1, r2, r3, r4, r5⟩ := bxc.six
      obtain ⟨f0, f1, f2, f3, f4, f5⟩ := bxc.frees
      have lt_bxc := bxc.lt
      obtain ⟨d0, d1, d2, d3, d4, d5⟩ := cbc.six
      have lt_cbc := cbc.lt
      by_cases he : T = l
      · have hE : (T == l) = true := by rw [he]; simp
        have hE2 : (T != l) = false := by rw [he]; simp
        have HR : Hid (raS l = ((1, 0, zz, C, D, K), true)) := by show _ = _; rw [raS, HLS.out, if_pos ⟨by rw [HT.out]; exact H0.out, by rw [HT.out]; exact he⟩]
        clear he
        go_wp2
        refine bodyPost_ret (v := .tuple #[lineV 1 0 zz (some ⟨B1, 0, none⟩) 3 3 (some ⟨B2, 0, none⟩) 2 2 K, .bool true]) (by simp [results, Tryz.results5, go_sem, r0, r1, r2, r3, r4, r5]) rfl ⟨1, 0, zz, C, D, K, _, _, _, _, _, _, true, rfl, ?_, ?_, ?_, HR.out⟩
        · exact (((((BWc.setCell (Nat.le_refl _) _).setCell (Nat.le_refl _) _).setCell (Nat.le_refl _) _).setCell (Nat.le_refl _) _).setCell (Nat.le_refl _) _).setCell (Nat.le_refl _) _
        · have hX := blk_ne kc1 bxc (by rw [HL1.out]; decide)
          exact ((((((kc1.setOther hX _ _).setOther hX _ _).setOther hX _ _).setOther hX _ _).setOther hX _ _).setOther hX _ _).ints' HL1.out
        · have hX := blk_ne kc2 bxc (by rw [HL2.out]; decide)
          exact ((((((kc2.setOther hX _ _).setOther hX _ _).setOther hX _ _).setOther hX _ _).setOther hX _ _).setOther hX _ _).ints' HL2.out
      · have hE : (T == l) = false := by simpa using he
        have hE2 : (T != l) = true := by simpa using he
        have HR : Hid (raS l = noA) := by show _ = _; rw [raS, HLS.out, if_neg (fun h => he (by rw [← HT.out]; exact h.2))]
        clear he
        go_wp2
        refine bodyPost_ret (v := .tuple #[lineV 0 0 0 none 0 0 none 0 0 0, .bool false]) (by simp [results, Tryz.results5, go_sem, r0, r1, r2, r3, r4, r5]) rfl ⟨0, 0, 0, [], [], 0, none, 0, 0, none, 0, 0, false, rfl, ?_, no_ints _ _, no_ints _ _, HR.out⟩
        exact (((((BWc.setCell (Nat.le_refl _) _).setCell (Nat.le_refl _) _).setCell (Nat.le_refl _) _).setCell (Nat.le_refl _) _).setCell (Nat.le_refl _) _).setCell (Nat.le_refl _) _
    · have b23 := b2.trans (b3.mono b2.size)
      have lw3 : w1.heap.size < w3.heap.size := Nat.lt_of_lt_of_le cbs.lt b23.size
      have HLS : Hid (lineS l = (1, 0, atW (wordsOf l) 1, [], [], 0)) := ls_one (w := []) h120 HWS.out HE.out hF
      obtain ⟨zz, hzz⟩ : ∃ z, z = atW (wordsOf l) 1 := ⟨_, rfl⟩
      rw [← hzz] at HLS
      have HZZ : Hid _ := hzz
      clear hzz hF
      have bx4 := (bxs.below b23).alloc (.cells #[.slice none 0 0, .slice none 0 0, .int .i64 0] 24)
      have cb4 := (cbs.below b23).alloc (.cells #[.slice none 0 0, .slice none 0 0, .int .i64 0] 24)
      have B3a := BWs.trans (b23.mono BWs.size)
      have BW4 := B3a.alloc B3a.size (.cells #[.slice none 0 0, .slice none 0 0, .int .i64 0] 24)
      have fb4 := Cel.new w3 [.slice none 0 0, .slice none 0 0, .int .i64 0] 24
      have al4 : Below w1.heap.size w1 (w3.alloc (.cells #[.slice none 0 0, .slice none 0 0, .int .i64 0] 24)) := (al.trans (b23.mono al.size)).alloc (al.trans (b23.mono al.size)).size (.cells #[.slice none 0 0, .slice none 0 0, .int .i64 0] 24)
      obtain ⟨W4, hW4⟩ : ∃ W, W = w3.alloc (.cells #[.slice none 0 0, .slice none 0 0, .int .i64 0] 24) := ⟨_, rfl⟩
      go_upto_region 7 with fail
      rw [← hW4] at bx4 cb4 BW4 fb4 al4 ⊢
      clear hW4 b2 b3 b23 B3a bxs cbs BWs
      have hS0 : (W4.drew.cell? ⟨w3.heap.size, 0, none⟩ = some (.slice none 0 0) ∧ W4.drew.cell? ⟨w3.heap.size, 1, none⟩ = some (.slice none 0 0) ∧ W4.drew.cell? ⟨w3.heap.size, 2, none⟩ = some (.int .i64 0)) ∧ True := ⟨⟨fb4.cell 0, fb4.cell 1, fb4.cell 2⟩, trivial⟩
      refine wp_region_ends (fun X => X.cell? ⟨w3.heap.size, 0, none⟩ = some (.slice none 0 0) ∧ X.cell? ⟨w3.heap.size, 1, none⟩ = some (.slice none 0 0) ∧ X.cell? ⟨w3.heap.size, 2, none⟩ = some (.int .i64 0)) (fun _ => True) 4 (by kernel_rfl) ?_
      refine wpAnyE_take0 (i := 0) (v := ?tanv0) rfl (by kernel_rfl) (by kernel_rfl) (by kernel_rfl) (by decide) (fun _ _ _ h => h) (Or.inl ⟨by rfl, ?tanhy0⟩) hS0 ?_
      case tanhy0 => (intro wz hSw; (try dsimp only at hSw); go_simp; try (with_reducible rfl))
      refine wpAnyE_take0 (i := 2) (v := ?tanv2) rfl (by kernel_rfl) (by kernel_rfl) (by kernel_rfl) (by decide) (fun _ _ _ h => h) (Or.inl ⟨by rfl, ?tanhy2⟩) hS0 ?_
      case tanhy2 => (intro wz hSw; (try dsimp only at hSw); go_simp; try (with_reducible rfl))
      refine wpAnyE_one (i := 1) (by kernel_rfl) rfl (fun Kn hK => ?_)
      go_simp
      refine (l2at_all (wordsOf l) g q gc 1 _ HQ.out HS1.out (fun x hx => by
        show W4.cell? ⟨g, 1, none⟩ = _
        rw [al4.cell (p := ⟨g, 1, none⟩) hg]; exact HCS.out 1 x hx)).mono ?_
      rintro ee w5 ⟨rfl, rfl⟩
      rw [← HZZ.out]
      dsimp only
      refine hK.out _ _ ⟨hS0.1, fun _ => trivial⟩ ?_
      clear hK
      refine wpAnyE_take0 (i := 3) (v := ?tanv3) rfl (by kernel_rfl) (by kernel_rfl) (by kernel_rfl) (by decide) (fun _ _ _ h => h) (Or.inl ⟨by rfl, ?tanhy3⟩) hS0 ?_
      case tanhy3 => (intro wz hSw; (try dsimp only at hSw); go_simp; try (with_reducible rfl))
      obtain ⟨c0, c1, c2, c3, c4, c5⟩ := cb4.six
      obtain ⟨y0, y1, y2, y3, y4, y5⟩ := cb4.frees
      have lt_cb4 := cb4.lt
      have lt_fb4 := fb4.lt
      have hX0 : w.heap.size ≠ w1.heap.size := by omega
      have hX3 : w3.heap.size ≠ w1.heap.size := by omega
      have bxa := (((((((bx4.setOther hX0 0 (.int .i64 1)).setOther hX0 1 (.int .i64 0)).setOther hX0 2 (.int .i64 zz)).setOther hX0 3 (.slice none 0 0)).setOther hX0 4 (.slice none 0 0)).setOther hX0 5 (.int .i64 0))).below ((Below.refl _ _).drew)
      have fba := (((((((fb4.setOther hX3 0 (.int .i64 1)).setOther hX3 1 (.int .i64 0)).setOther hX3 2 (.int .i64 zz)).setOther hX3 3 (.slice none 0 0)).setOther hX3 4 (.slice none 0 0)).setOther hX3 5 (.int .i64 0))).below ((Below.refl _ _).drew)
      have cba := (((((((cb4.set 0 (.int .i64 1)).set 1 (.int .i64 0)).set 2 (.int .i64 zz)).set 3 (.slice none 0 0)).set 4 (.slice none 0 0)).set 5 (.int .i64 0))).below ((Below.refl _ _).drew)
      simp only [List.set_cons_zero, List.set_cons_succ] at cba
      have BWa := (((((((BW4.setCell (p := ⟨w1.heap.size, 0, none⟩) (Nat.le_of_lt ltw) (.int .i64 1)).setCell (p := ⟨w1.heap.size, 1, none⟩) (Nat.le_of_lt ltw) (.int .i64 0)).setCell (p := ⟨w1.heap.size, 2, none⟩) (Nat.le_of_lt ltw) (.int .i64 zz)).setCell (p := ⟨w1.heap.size, 3, none⟩) (Nat.le_of_lt ltw) (.slice none 0 0)).setCell (p := ⟨w1.heap.size, 4, none⟩) (Nat.le_of_lt ltw) (.slice none 0 0)).setCell (p := ⟨w1.heap.size, 5, none⟩) (Nat.le_of_lt ltw) (.int .i64 0))).drew
      refine wpAnyE_one (i := 4) (by kernel_rfl) rfl (fun Kn hK => ?_)
      go_simp
      obtain ⟨wa, hwa⟩ : ∃ W, W = ((((((W4.setCell ⟨w1.heap.size, 0, none⟩ (.int .i64 1)).setCell ⟨w1.heap.size, 1, none⟩ (.int .i64 0)).setCell ⟨w1.heap.size, 2, none⟩ (.int .i64 zz)).setCell ⟨w1.heap.size, 3, none⟩ (.slice none 0 0)).setCell ⟨w1.heap.size, 4, none⟩ (.slice none 0 0)).setCell ⟨w1.heap.size, 5, none⟩ (.int .i64 0)).drew := ⟨_, rfl⟩
      rw [← hwa] at bxa fba cba BWa ⊢
      clear hwa bx4 cb4 BW4 fb4 c0 c1 c2 c3 c4 c5 y0 y1 y2 y3 y4 y5 lt_cb4 lt_fb4
      refine hK.out _ _ ⟨⟨fba.cell 0, fba.cell 1, fba.cell 2⟩, fun _ => trivial⟩ ?_
      clear hK hS0
      refine wpAnyE_done (by kernel_rfl) ?_ _
      clear fba al4
      obtain ⟨T, hT⟩ : ∃ T, actText (1, 0, zz, [], [], 0) = T := ⟨_, rfl⟩
      have HT : Hid _ := hT
      clear hT
      obtain ⟨d0, d1, d2, d3, d4, d5⟩ := cba.six
      go_wp2_with fail
      refine (satext_any _ _ _ _ _ _ _ _ _ _ [] [] _ (no_ints _ _) (no_ints _ _) (by omega) (by omega)).mono ?_
      rintro e wb ⟨rfl, bb⟩
      rw [HT.out]
      have bxb := bxa.below bb
      have cbb := cba.below bb
      have BWb := BWa.trans (bb.mono BWa.size)
      clear bxa cba BWa bb d0 d1 d2 d3 d4 d5
      obtain ⟨r0, r1, r2, r3, r4, r5⟩ := bxb.six
      obtain ⟨f0, f1, f2, f3, f4, f5⟩ := bxb.frees
      have lt_bxb := bxb.lt
      obtain ⟨d0, d1, d2, d3, d4, d5⟩ := cbb.six
      by_cases h0 : T = []
      · have hm : T.isEmpty = true := by rw [h0]; rfl
        have HR : Hid (raS l = noA) := by show _ = _; rw [raS, HLS.out, if_neg (fun h => h.1 (by rw [HT.out]; exact h0))]
        clear h0
        go_wp2
        refine bodyPost_ret (v := .tuple #[lineV 0 0 0 none 0 0 none 0 0 0, .bool false]) (by simp [results, Tryz.results5, go_sem, r0, r1, r2, r3, r4, r5]) rfl ⟨0, 0, 0, [], [], 0, none, 0, 0, none, 0, 0, false, rfl, ?_, no_ints _ _, no_ints _ _, HR.out⟩
        exact (((((BWb.setCell (Nat.le_refl _) _).setCell (Nat.le_refl _) _).setCell (Nat.le_refl _) _).setCell (Nat.le_refl _) _).setCell (Nat.le_refl _) _).setCell (Nat.le_refl _) _
      have hm : T.isEmpty = false := by cases T with | nil => exact absurd rfl h0 | cons a b => rfl
      have H0 : Hid _ := h0
      clear h0
      go_wp2_with fail
      refine (satext_any _ _ _ _ _ _ _ _ _ _ [] [] _ (no_ints _ _) (no_ints _ _) (by omega) (by omega)).mono ?_
      rintro e wq ⟨rfl, bc⟩
      rw [HT.out]
      have bxc := bxb.below bc
      have cbc := cbb.below bc
      have BWc := BWb.trans (bc.mono BWb.size)
      clear bxb cbb BWb bc d0 d1 d2 d3 d4 d5 r0 r1 r2 r3 r4 r5 f0 f1 f2 f3 f4 f5 lt_bxb
      obtain ⟨r0, r1, r2, r3, r4, r5⟩ := bxc.six
      obtain ⟨f0, f1, f2, f3, f4, f5⟩ := bxc.frees
      have lt_bxc := bxc.lt
      obtain ⟨d0, d1, d2, d3, d4, d5⟩ := cbc.six
      have lt_cbc := cbc.lt
      by_cases he : T = l
      · have hE : (T == l) = true := by rw [he]; simp
        have hE2 : (T != l) = false := by rw [he]; simp
        have HR : Hid (raS l = ((1, 0, zz, [], [], 0), true)) := by show _ = _; rw [raS, HLS.out, if_pos ⟨by rw [HT.out]; exact H0.out, by rw [HT.out]; exact he⟩]
        clear he
        go_wp2
        refine bodyPost_ret (v := .tuple #[lineV 1 0 zz none 0 0 none 0 0 0, .bool true]) (by simp [results, Tryz.results5, go_sem, r0, r1, r2, r3, r4, r5]) rfl ⟨1, 0, zz, [], [], 0, _, _, _, _, _, _, true, rfl, ?_, ?_, ?_, HR.out⟩
        · exact (((((BWc.setCell (Nat.le_refl _) _).setCell (Nat.le_refl _) _).setCell (Nat.le_refl _) _).setCell (Nat.le_refl _) _).setCell (Nat.le_refl _) _).setCell (Nat.le_refl _) _
        · exact no_ints _ _
        · exact no_ints _ _
      · have hE : (T == l) = false := by simpa using he
        have hE2 : (T != l) = true := by simpa using he
        have HR : Hid (raS l = noA) := by show _ = _; rw [raS, HLS.out, if_neg (fun h => he (by rw [← HT.out]; exact h.2))]
        clear he
        go_wp2
        refine bodyPost_ret (v := .tuple #[lineV 0 0 0 none 0 0 none 0 0 0, .bool false]) (by simp [results, Tryz.results5, go_sem, r0, r1, r2, r3, r4, r5]) rfl ⟨0, 0, 0, [], [], 0, none, 0, 0, none, 0, 0, false, rfl, ?_, no_ints _ _, no_ints _ _, HR.out⟩
        exact (((((BWc.setCell (Nat.le_refl _) _).setCell (Nat.le_refl _) _).setCell (Nat.le_refl _) _).setCell (Nat.le_refl _) _).setCell (Nat.le_refl _) _).setCell (Nat.le_refl _) _
  have N1 : Hid _ := h_testW
  have hp_testW : ¬ x0 = [116, 101, 115, 116] := h_testW
  have hq_testW : (x0 == [116, 101, 115, 116]) = false := by simpa using hp_testW
  clear h_testW
  by_cases h_addW : x0 = addW
  · have HE : Hid _ := h_addW
    have hp_addW : x0 = [97, 100, 100] := h_addW
    have hq_addW : (x0 == [97, 100, 100]) = true := by rw [hp_addW]; rfl
    clear h_addW
    obtain ⟨Ws, hWs⟩ : ∃ W, W = w1.alloc (.cells #[.int .i64 4, .int .i64 0, .int .i64 0, .slice none 0 0, .slice none 0 0, .int .i64 0] 26) := ⟨_, rfl⟩
    go_wp2_with fail
    rw [← hWs]
    rw [← hWs] at bxs BWs cbs al g0
    clear hWs
    refine (srest_any l 2 _ (by omega) (by omega) h120).mono ?_
    rintro e w2 ⟨rfl, b2⟩
    go_wp2_with fail
    refine (sfread_any (restL 2 l) _).mono ?_
    rintro e w3 (⟨C, D, K, B1, B2, hF, rfl, l1, l2, b3, k1, k2⟩ | ⟨hF, rfl, b3⟩)
    · have b23 := b2.trans (b3.mono b2.size)
      have lw3 : w1.heap.size < w3.heap.size := Nat.lt_of_lt_of_le cbs.lt b23.size
      have HLS : Hid (lineS l = (2, atW (wordsOf l) 1, 0, C, D, K)) := ls_two h120 HWS.out N1.out HE.out hF
      have HL1 : Hid _ := l1
      have HL2 : Hid _ := l2
      obtain ⟨zz, hzz⟩ : ∃ z, z = atW (wordsOf l) 1 := ⟨_, rfl⟩
      rw [← hzz] at HLS
      have HZZ : Hid _ := hzz
      clear hzz hF l1 l2
      have bx4 := (bxs.below b23).alloc (.cells #[.slice (some ⟨B1, 0, none⟩) 3 3, .slice (some ⟨B2, 0, none⟩) 2 2, .int .i64 K] 24)
      have cb4 := (cbs.below b23).alloc (.cells #[.slice (some ⟨B1, 0, none⟩) 3 3, .slice (some ⟨B2, 0, none⟩) 2 2, .int .i64 K] 24)
      have B3a := BWs.trans (b23.mono BWs.size)
      have BW4 := B3a.alloc B3a.size (.cells #[.slice (some ⟨B1, 0, none⟩) 3 3, .slice (some ⟨B2, 0, none⟩) 2 2, .int .i64 K] 24)
      have fb4 := Cel.new w3 [.slice (some ⟨B1, 0, none⟩) 3 3, .slice (some ⟨B2, 0, none⟩) 2 2, .int .i64 K] 24
      have al4 : Below w1.heap.size w1 (w3.alloc (.cells #[.slice (some ⟨B1, 0, none⟩) 3 3, .slice (some ⟨B2, 0, none⟩) 2 2, .int .i64 K] 24)) := (al.trans (b23.mono al.size)).alloc (al.trans (b23.mono al.size)).size (.cells #[.slice (some ⟨B1, 0, none⟩) 3 3, .slice (some ⟨B2, 0, none⟩) 2 2, .int .i64 K] 24)
      have kk1 := k1.alloc (.cells #[.slice (some ⟨B1, 0, none⟩) 3 3, .slice (some ⟨B2, 0, none⟩) 2 2, .int .i64 K] 24)
      have kk2 := k2.alloc (.cells #[.slice (some ⟨B1, 0, none⟩) 3 3, .slice (some ⟨B2, 0, none⟩) 2 2, .int .i64 K] 24)
      obtain ⟨W4, hW4⟩ : ∃ W, W = w3.alloc (.cells #[.slice (some ⟨B1, 0, none⟩) 3 3, .slice (some ⟨B2, 0, none⟩) 2 2, .int .i64 K] 24) := ⟨_, rfl⟩
      go_upto_region 10 with fail
      rw [← hW4] at bx4 cb4 BW4 fb4 al4 kk1 kk2 ⊢
      clear hW4 b2 b3 b23 B3a bxs cbs BWs k1 k2
      have hS0 : (W4.drew.cell? ⟨w3.heap.size, 0, none⟩ = some (.slice (some ⟨B1, 0, none⟩) 3 3) ∧ W4.drew.cell? ⟨w3.heap.size, 1, none⟩ = some (.slice (some ⟨B2, 0, none⟩) 2 2) ∧ W4.drew.cell? ⟨w3.heap.size, 2, none⟩ = some (.int .i64 K)) ∧ True := ⟨⟨fb4.cell 0, fb4.cell 1, fb4.cell 2⟩, trivial⟩
      refine wp_region_ends (fun X => X.cell? ⟨w3.heap.size, 0, none⟩ = some (.slice (some ⟨B1, 0, none⟩) 3 3) ∧ X.cell? ⟨w3.heap.size, 1, none⟩ = some (.slice (some ⟨B2, 0, none⟩) 2 2) ∧ X.cell? ⟨w3.heap.size, 2, none⟩ = some (.int .i64 K)) (fun _ => True) 4 (by kernel_rfl) ?_
      refine wpAnyE_take0 (i := 0) (v := ?tbfv0) rfl (by kernel_rfl) (by kernel_rfl) (by kernel_rfl) (by decide) (fun _ _ _ h => h) (Or.inl ⟨by rfl, ?tbfhy0⟩) hS0 ?_
      case tbfhy0 => (intro wz hSw; (try dsimp only at hSw); go_simp; try (with_reducible rfl))
      refine wpAnyE_take0 (i := 2) (v := ?tbfv2) rfl (by kernel_rfl) (by kernel_rfl) (by kernel_rfl) (by decide) (fun _ _ _ h => h) (Or.inl ⟨by rfl, ?tbfhy2⟩) hS0 ?_
      case tbfhy2 => (intro wz hSw; (try dsimp only at hSw); go_simp; try (with_reducible rfl))
      refine wpAnyE_one (i := 1) (by kernel_rfl) rfl (fun Kn hK => ?_)
      go_simp
      refine (l2at_all (wordsOf l) g q gc 1 _ HQ.out HS1.out (fun x hx => by
        show W4.cell? ⟨g, 1, none⟩ = _
        rw [al4.cell (p := ⟨g, 1, none⟩) hg]; exact HCS.out 1 x hx)).mono ?_
      rintro ee w5 ⟨rfl, rfl⟩
      rw [← HZZ.out]
      dsimp only
      refine hK.out _ _ ⟨hS0.1, fun _ => trivial⟩ ?_
      clear hK
      refine wpAnyE_take0 (i := 3) (v := ?tbfv3) rfl (by kernel_rfl) (by kernel_rfl) (by kernel_rfl) (by decide) (fun _ _ _ h => h) (Or.inl ⟨by rfl, ?tbfhy3⟩) hS0 ?_
      case tbfhy3 => (intro wz hSw; (try dsimp only at hSw); go_simp; try (with_reducible rfl))
      obtain ⟨c0, c1, c2, c3, c4, c5⟩ := cb4.six
      obtain ⟨y0, y1, y2, y3, y4, y5⟩ := cb4.frees
      have lt_cb4 := cb4.lt
      have lt_fb4 := fb4.lt
      have hX0 : w.heap.size ≠ w1.heap.size := by omega
      have hX3 : w3.heap.size ≠ w1.heap.size := by omega
      have bxa := (((((((bx4.setOther hX0 0 (.int .i64 2)).setOther hX0 1 (.int .i64 zz)).setOther hX0 2 (.int .i64 0)).setOther hX0 3 (.slice (some ⟨B1, 0, none⟩) 3 3)).setOther hX0 4 (.slice (some ⟨B2, 0, none⟩) 2 2)).setOther hX0 5 (.int .i64 K))).below ((Below.refl _ _).drew)
      have fba := (((((((fb4.setOther hX3 0 (.int .i64 2)).setOther hX3 1 (.int .i64 zz)).setOther hX3 2 (.int .i64 0)).setOther hX3 3 (.slice (some ⟨B1, 0, none⟩) 3 3)).setOther hX3 4 (.slice (some ⟨B2, 0, none⟩) 2 2)).setOther hX3 5 (.int .i64 K))).below ((Below.refl _ _).drew)
      have cba := (((((((cb4.set 0 (.int .i64 2)).set 1 (.int .i64 zz)).set 2 (.int .i64 0)).set 3 (.slice (some ⟨B1, 0, none⟩) 3 3)).set 4 (.slice (some ⟨B2, 0, none⟩) 2 2)).set 5 (.int .i64 K))).below ((Below.refl _ _).drew)
      simp only [List.set_cons_zero, List.set_cons_succ] at cba
      have BWa := (((((((BW4.setCell (p := ⟨w1.heap.size, 0, none⟩) (Nat.le_of_lt ltw) (.int .i64 2)).setCell (p := ⟨w1.heap.size, 1, none⟩) (Nat.le_of_lt ltw) (.int .i64 zz)).setCell (p := ⟨w1.heap.size, 2, none⟩) (Nat.le_of_lt ltw) (.int .i64 0)).setCell (p := ⟨w1.heap.size, 3, none⟩) (Nat.le_of_lt ltw) (.slice (some ⟨B1, 0, none⟩) 3 3)).setCell (p := ⟨w1.heap.size, 4, none⟩) (Nat.le_of_lt ltw) (.slice (some ⟨B2, 0, none⟩) 2 2)).setCell (p := ⟨w1.heap.size, 5, none⟩) (Nat.le_of_lt ltw) (.int .i64 K))).drew
      have n1 := blk_ne kk1 cb4 (by rw [HL1.out]; decide)
      have n2 := blk_ne kk2 cb4 (by rw [HL2.out]; decide)
      have kd1 := (((((((kk1.setOther n1 0 (.int .i64 2)).setOther n1 1 (.int .i64 zz)).setOther n1 2 (.int .i64 0)).setOther n1 3 (.slice (some ⟨B1, 0, none⟩) 3 3)).setOther n1 4 (.slice (some ⟨B2, 0, none⟩) 2 2)).setOther n1 5 (.int .i64 K))).below ((Below.refl _ _).drew)
      have kd2 := (((((((kk2.setOther n2 0 (.int .i64 2)).setOther n2 1 (.int .i64 zz)).setOther n2 2 (.int .i64 0)).setOther n2 3 (.slice (some ⟨B1, 0, none⟩) 3 3)).setOther n2 4 (.slice (some ⟨B2, 0, none⟩) 2 2)).setOther n2 5 (.int .i64 K))).below ((Below.refl _ _).drew)
      clear kk1 kk2
      refine wpAnyE_one (i := 4) (by kernel_rfl) rfl (fun Kn hK => ?_)
      go_simp
      obtain ⟨wa, hwa⟩ : ∃ W, W = ((((((W4.setCell ⟨w1.heap.size, 0, none⟩ (.int .i64 2)).setCell ⟨w1.heap.size, 1, none⟩ (.int .i64 zz)).setCell ⟨w1.heap.size, 2, none⟩ (.int .i64 0)).setCell ⟨w1.heap.size, 3, none⟩ (.slice (some ⟨B1, 0, none⟩) 3 3)).setCell ⟨w1.heap.size, 4, none⟩ (.slice (some ⟨B2, 0, none⟩) 2 2)).setCell ⟨w1.heap.size, 5, none⟩ (.int .i64 K)).drew := ⟨_, rfl⟩
      rw [← hwa] at bxa fba cba BWa kd1 kd2 ⊢
      clear hwa bx4 cb4 BW4 fb4 c0 c1 c2 c3 c4 c5 y0 y1 y2 y3 y4 y5 lt_cb4 lt_fb4
      refine hK.out _ _ ⟨⟨fba.cell 0, fba.cell 1, fba.cell 2⟩, fun _ => trivial⟩ ?_
      clear hK hS0
      refine wpAnyE_done (by kernel_rfl) ?_ _
      clear fba al4
      have kk1 := kd1
      have kk2 := kd2
      clear kd1 kd2
      obtain ⟨T, hT⟩ : ∃ T, actText (2, zz, 0, C, D, K) = T := ⟨_, rfl⟩
      have HT : Hid _ := hT
      clear hT
      obtain ⟨d0, d1, d2, d3, d4, d5⟩ := cba.six
      go_wp2_with fail
      refine (satext_any _ _ _ _ _ _ _ _ _ _ C D _ (kk1.ints' HL1.out) (kk2.ints' HL2.out) (by omega) (by omega)).mono ?_
      rintro e wb ⟨rfl, bb⟩
      rw [HT.out]
      have bxb := bxa.below bb
      have cbb := cba.below bb
      have BWb := BWa.trans (bb.mono BWa.size)
      have kb1 := kk1.below bb
      have kb2 := kk2.below bb
      clear bxa cba BWa bb d0 d1 d2 d3 d4 d5 kk1 kk2
      obtain ⟨r0, r1, r2, r3, r4, r5⟩ := bxb.six
      obtain ⟨f0, f1, f2, f3, f4, f5⟩ := bxb.frees
      have lt_bxb := bxb.lt
      obtain ⟨d0, d1, d2, d3, d4, d5⟩ := cbb.six
      by_cases h0 : T = []
      · have hm : T.isEmpty = true := by rw [h0]; rfl
        have HR : Hid (raS l = noA) := by show _ = _; rw [raS, HLS.out, if_neg (fun h => h.1 (by rw [HT.out]; exact h0))]
        clear h0
        go_wp2
        refine bodyPost_ret (v := .tuple #[lineV 0 0 0 none 0 0 none 0 0 0, .bool false]) (by simp [results, Tryz.results5, go_sem, r0, r1, r2, r3, r4, r5]) rfl ⟨0, 0, 0, [], [], 0, none, 0, 0, none, 0, 0, false, rfl, ?_, no_ints _ _, no_ints _ _, HR.out⟩
        exact (((((BWb.setCell (Nat.le_refl _) _).setCell (Nat.le_refl _) _).setCell (Nat.le_refl _) _).setCell (Nat.le_refl _) _).setCell (Nat.le_refl _) _).setCell (Nat.le_refl _) _
      have hm : T.isEmpty = false := by cases T with | nil => exact absurd rfl h0 | cons a b => rfl
      have H0 : Hid _ := h0
      clear h0
      go_wp2_with fail
      refine (satext_any _ _ _ _ _ _ _ _ _ _ C D _ (kb1.ints' HL1.out) (kb2.ints' HL2.out) (by omega) (by omega)).mono ?_
      rintro e wq ⟨rfl, bc⟩
      rw [HT.out]
      have bxc := bxb.below bc
      have cbc := cbb.below bc
      have BWc := BWb.trans (bc.mono BWb.size)
      have kc1 := kb1.below bc
      have kc2 := kb2.below bc
      clear bxb cbb BWb bc d0 d1 d2 d3 d4 d5 r0 r1 r2 r3 r4 r5 f0 f1 f2 f3 f4 f5 lt_bxb kb1 kb2
      obtain ⟨r0, r1, r2, r3, r4, r5⟩ := bxc.six
      obtain ⟨f0, f1, f2, f3, f4, f5⟩ := bxc.frees
      have lt_bxc := bxc.lt
      obtain ⟨d0, d1, d2, d3, d4, d5⟩ := cbc.six
      have lt_cbc := cbc.lt
      by_cases he : T = l
      · have hE : (T == l) = true := by rw [he]; simp
        have hE2 : (T != l) = false := by rw [he]; simp
        have HR : Hid (raS l = ((2, zz, 0, C, D, K), true)) := by show _ = _; rw [raS, HLS.out, if_pos ⟨by rw [HT.out]; exact H0.out, by rw [HT.out]; exact he⟩]
        clear he
        go_wp2
        refine bodyPost_ret (v := .tuple #[lineV 2 zz 0 (some ⟨B1, 0, none⟩) 3 3 (some ⟨B2, 0, none⟩) 2 2 K, .bool true]) (by simp [results, Tryz.results5, go_sem, r0, r1, r2, r3, r4, r5]) rfl ⟨2, zz, 0, C, D, K, _, _, _, _, _, _, true, rfl, ?_, ?_, ?_, HR.out⟩
        · exact (((((BWc.setCell (Nat.le_refl _) _).setCell (Nat.le_refl _) _).setCell (Nat.le_refl _) _).setCell (Nat.le_refl _) _).setCell (Nat.le_refl _) _).setCell (Nat.le_refl _) _
        · have hX := blk_ne kc1 bxc (by rw [HL1.out]; decide)
          exact ((((((kc1.setOther hX _ _).setOther hX _ _).setOther hX _ _).setOther hX _ _).setOther hX _ _).setOther hX _ _).ints' HL1.out
        · have hX := blk_ne kc2 bxc (by rw [HL2.out]; decide)
          exact ((((((kc2.setOther hX _ _).setOther hX _ _).setOther hX _ _).setOther hX _ _).setOther hX _ _).setOther hX _ _).ints' HL2.out
      · have hE : (T == l) = false := by simpa using he
        have hE2 : (T != l) = true := by simpa using he
        have HR : Hid (raS l = noA) := by show _ = _; rw [raS, HLS.out, if_neg (fun h => he (by rw [← HT.out]; exact h.2))]
        clear he
        go_wp2
        refine bodyPost_ret (v := .tuple #[lineV 0 0 0 none 0 0 none 0 0 0, .bool false]) (by simp [results, Tryz.results5, go_sem, r0, r1, r2, r3, r4, r5]) rfl ⟨0, 0, 0, [], [], 0, none, 0, 0, none, 0, 0, false, rfl, ?_, no_ints _ _, no_ints _ _, HR.out⟩
        exact (((((BWc.setCell (Nat.le_refl _) _).setCell (Nat.le_refl _) _).setCell (Nat.le_refl _) _).setCell (Nat.le_refl _) _).setCell (Nat.le_refl _) _).setCell (Nat.le_refl _) _
    · have b23 := b2.trans (b3.mono b2.size)
      have lw3 : w1.heap.size < w3.heap.size := Nat.lt_of_lt_of_le cbs.lt b23.size
      have HLS : Hid (lineS l = (2, atW (wordsOf l) 1, 0, [], [], 0)) := ls_two h120 HWS.out N1.out HE.out hF
      obtain ⟨zz, hzz⟩ : ∃ z, z = atW (wordsOf l) 1 := ⟨_, rfl⟩
      rw [← hzz] at HLS
      have HZZ : Hid _ := hzz
      clear hzz hF
      have bx4 := (bxs.below b23).alloc (.cells #[.slice none 0 0, .slice none 0 0, .int .i64 0] 24)
      have cb4 := (cbs.below b23).alloc (.cells #[.slice none 0 0, .slice none 0 0, .int .i64 0] 24)
      have B3a := BWs.trans (b23.mono BWs.size)
      have BW4 := B3a.alloc B3a.size (.cells #[.slice none 0 0, .slice none 0 0, .int .i64 0] 24)
      have fb4 := Cel.new w3 [.slice none 0 0, .slice none 0 0, .int .i64 0] 24
      have al4 : Below w1.heap.size w1 (w3.alloc (.cells #[.slice none 0 0, .slice none 0 0, .int .i64 0] 24)) := (al.trans (b23.mono al.size)).alloc (al.trans (b23.mono al.size)).size (.cells #[.slice none 0 0, .slice none 0 0, .int .i64 0] 24)
      obtain ⟨W4, hW4⟩ : ∃ W, W = w3.alloc (.cells #[.slice none 0 0, .slice none 0 0, .int .i64 0] 24) := ⟨_, rfl⟩
      go_upto_region 10 with fail
      rw [← hW4] at bx4 cb4 BW4 fb4 al4 ⊢
      clear hW4 b2 b3 b23 B3a bxs cbs BWs
      have hS0 : (W4.drew.cell? ⟨w3.heap.size, 0, none⟩ = some (.slice none 0 0) ∧ W4.drew.cell? ⟨w3.heap.size, 1, none⟩ = some (.slice none 0 0) ∧ W4.drew.cell? ⟨w3.heap.size, 2, none⟩ = some (.int .i64 0)) ∧ True := ⟨⟨fb4.cell 0, fb4.cell 1, fb4.cell 2⟩, trivial⟩
      refine wp_region_ends (fun X => X.cell? ⟨w3.heap.size, 0, none⟩ = some (.slice none 0 0) ∧ X.cell? ⟨w3.heap.size, 1, none⟩ = some (.slice none 0 0) ∧ X.cell? ⟨w3.heap.size, 2, none⟩ = some (.int .i64 0)) (fun _ => True) 4 (by kernel_rfl) ?_
      refine wpAnyE_take0 (i := 0) (v := ?tbnv0) rfl (by kernel_rfl) (by kernel_rfl) (by kernel_rfl) (by decide) (fun _ _ _ h => h) (Or.inl ⟨by rfl, ?tbnhy0⟩) hS0 ?_
      case tbnhy0 => (intro wz hSw; (try dsimp only at hSw); go_simp; try (with_reducible rfl))
      refine wpAnyE_take0 (i := 2) (v := ?tbnv2) rfl (by kernel_rfl) (by kernel_rfl) (by kernel_rfl) (by decide) (fun _ _ _ h => h) (Or.inl ⟨by rfl, ?tbnhy2⟩) hS0 ?_
      case tbnhy2 => (intro wz hSw; (try dsimp only at hSw); go_simp; try (with_reducible rfl))
      refine wpAnyE_one (i := 1) (by kernel_rfl) rfl (fun Kn hK => ?_)
      go_simp
      refine (l2at_all (wordsOf l) g q gc 1 _ HQ.out HS1.out (fun x hx => by
        show W4.cell? ⟨g, 1, none⟩ = _
        rw [al4.cell (p := ⟨g, 1, none⟩) hg]; exact HCS.out 1 x hx)).mono ?_
      rintro ee w5 ⟨rfl, rfl⟩
      rw [← HZZ.out]
      dsimp only
      refine hK.out _ _ ⟨hS0.1, fun _ => trivial⟩ ?_
      clear hK
      refine wpAnyE_take0 (i := 3) (v := ?tbnv3) rfl (by kernel_rfl) (by kernel_rfl) (by kernel_rfl) (by decide) (fun _ _ _ h => h) (Or.inl ⟨by rfl, ?tbnhy3⟩) hS0 ?_
      case tbnhy3 => (intro wz hSw; (try dsimp only at hSw); go_simp; try (with_reducible rfl))
      obtain ⟨c0, c1, c2, c3, c4, c5⟩ := cb4.six
      obtain ⟨y0, y1, y2, y3, y4, y5⟩ := cb4.frees
      have lt_cb4 := cb4.lt
      have lt_fb4 := fb4.lt
      have hX0 : w.heap.size ≠ w1.heap.size := by omega
      have hX3 : w3.heap.size ≠ w1.heap.size := by omega
      have bxa := (((((((bx4.setOther hX0 0 (.int .i64 2)).setOther hX0 1 (.int .i64 zz)).setOther hX0 2 (.int .i64 0)).setOther hX0 3 (.slice none 0 0)).setOther hX0 4 (.slice none 0 0)).setOther hX0 5 (.int .i64 0))).below ((Below.refl _ _).drew)
      have fba := (((((((fb4.setOther hX3 0 (.int .i64 2)).setOther hX3 1 (.int .i64 zz)).setOther hX3 2 (.int .i64 0)).setOther hX3 3 (.slice none 0 0)).setOther hX3 4 (.slice none 0 0)).setOther hX3 5 (.int .i64 0))).below ((Below.refl _ _).drew)
      have cba := (((((((cb4.set 0 (.int .i64 2)).set 1 (.int .i64 zz)).set 2 (.int .i64 0)).set 3 (.slice none 0 0)).set 4 (.slice none 0 0)).set 5 (.int .i64 0))).below ((Below.refl _ _).drew)
      simp only [List.set_cons_zero, List.set_cons_succ] at cba
      have BWa := (((((((BW4.setCell (p := ⟨w1.heap.size, 0, none⟩) (Nat.le_of_lt ltw) (.int .i64 2)).setCell (p := ⟨w1.heap.size, 1, none⟩) (Nat.le_of_lt ltw) (.int .i64 zz)).setCell (p := ⟨w1.heap.size, 2, none⟩) (Nat.le_of_lt ltw) (.int .i64 0)).setCell (p := ⟨w1.heap.size, 3, none⟩) (Nat.le_of_lt ltw) (.slice none 0 0)).setCell (p := ⟨w1.heap.size, 4, none⟩) (Nat.le_of_lt ltw) (.slice none 0 0)).setCell (p := ⟨w1.heap.size, 5, none⟩) (Nat.le_of_lt ltw) (.int .i64 0))).drew
      refine wpAnyE_one (i := 4) (by kernel_rfl) rfl (fun Kn hK => ?_)
      go_simp
      obtain ⟨wa, hwa⟩ : ∃ W, W = ((((((W4.setCell ⟨w1.heap.size, 0, none⟩ (.int .i64 2)).setCell ⟨w1.heap.size, 1, none⟩ (.int .i64 zz)).setCell ⟨w1.heap.size, 2, none⟩ (.int .i64 0)).setCell ⟨w1.heap.size, 3, none⟩ (.slice none 0 0)).setCell ⟨w1.heap.size, 4, none⟩ (.slice none 0 0)).setCell ⟨w1.heap.size, 5, none⟩ (.int .i64 0)).drew := ⟨_, rfl⟩
      rw [← hwa] at bxa fba cba BWa ⊢
      clear hwa bx4 cb4 BW4 fb4 c0 c1 c2 c3 c4 c5 y0 y1 y2 y3 y4 y5 lt_cb4 lt_fb4
      refine hK.out _ _ ⟨⟨fba.cell 0, fba.cell 1, fba.cell 2⟩, fun _ => trivial⟩ ?_
      clear hK hS0
      refine wpAnyE_done (by kernel_rfl) ?_ _
      clear fba al4
      obtain ⟨T, hT⟩ : ∃ T, actText (2, zz, 0, [], [], 0) = T := ⟨_, rfl⟩
      have HT : Hid _ := hT
      clear hT
      obtain ⟨d0, d1, d2, d3, d4, d5⟩ := cba.six
      go_wp2_with fail
      refine (satext_any _ _ _ _ _ _ _ _ _ _ [] [] _ (no_ints _ _) (no_ints _ _) (by omega) (by omega)).mono ?_
      rintro e wb ⟨rfl, bb⟩
      rw [HT.out]
      have bxb := bxa.below bb
      have cbb := cba.below bb
      have BWb := BWa.trans (bb.mono BWa.size)
      clear bxa cba BWa bb d0 d1 d2 d3 d4 d5
      obtain ⟨r0, r1, r2, r3, r4, r5⟩ := bxb.six
      obtain ⟨f0, f1, f2, f3, f4, f5⟩ := bxb.frees
      have lt_bxb := bxb.lt
      obtain ⟨d0, d1, d2, d3, d4, d5⟩ := cbb.six
      by_cases h0 : T = []
      · have hm : T.isEmpty = true := by rw [h0]; rfl
        have HR : Hid (raS l = noA) := by show _ = _; rw [raS, HLS.out, if_neg (fun h => h.1 (by rw [HT.out]; exact h0))]
        clear h0
        go_wp2
        refine bodyPost_ret (v := .tuple #[lineV 0 0 0 none 0 0 none 0 0 0, .bool false]) (by simp [results, Tryz.results5, go_sem, r0, r1, r2, r3, r4, r5]) rfl ⟨0, 0, 0, [], [], 0, none, 0, 0, none, 0, 0, false, rfl, ?_, no_ints _ _, no_ints _ _, HR.out⟩
        exact (((((BWb.setCell (Nat.le_refl _) _).setCell (Nat.le_refl _) _).setCell (Nat.le_refl _) _).setCell (Nat.le_refl _) _).setCell (Nat.le_refl _) _).setCell (Nat.le_refl _) _
      have hm : T.isEmpty = false := by cases T with | nil => exact absurd rfl h0 | cons a b => rfl
      have H0 : Hid _ := h0
      clear h0
      go_wp2_with fail
      refine (satext_any _ _ _ _ _ _ _ _ _ _ [] [] _ (no_ints _ _) (no_ints _ _) (by omega) (by omega)).mono ?_
      rintro e wq ⟨rfl, bc⟩
      rw [HT.out]
      have bxc := bxb.below bc
      have cbc := cbb.below bc
      have BWc := BWb.trans (bc.mono BWb.size)
      clear bxb cbb BWb bc d0 d1 d2 d3 d4 d5 r0 r1 r2 r3 r4 r5 f0 f1 f2 f3 f4 f5 lt_bxb
      obtain ⟨r0, r1, r2, r3, r4, r5⟩ := bxc.six
      obtain ⟨f0, f1, f2, f3, f4, f5⟩ := bxc.frees
      have lt_bxc := bxc.lt
      obtain ⟨d0, d1, d2, d3, d4, d5⟩ := cbc.six
      have lt_cbc := cbc.lt
      by_cases he : T = l
      · have hE : (T == l) = true := by rw [he]; simp
        have hE2 : (T != l) = false := by rw [he]; simp
        have HR : Hid (raS l = ((2, zz, 0, [], [], 0), true)) := by show _ = _; rw [raS, HLS.out, if_pos ⟨by rw [HT.out]; exact H0.out, by rw [HT.out]; exact he⟩]
        clear he
        go_wp2
        refine bodyPost_ret (v := .tuple #[lineV 2 zz 0 none 0 0 none 0 0 0, .bool true]) (by simp [results, Tryz.results5, go_sem, r0, r1, r2, r3, r4, r5]) rfl ⟨2, zz, 0, [], [], 0, _, _, _, _, _, _, true, rfl, ?_, ?_, ?_, HR.out⟩
        · exact (((((BWc.setCell (Nat.le_refl _) _).setCell (Nat.le_refl _) _).setCell (Nat.le_refl _) _).setCell (Nat.le_refl _) _).setCell (Nat.le_refl _) _).setCell (Nat.le_refl _) _
        · exact no_ints _ _
        · exact no_ints _ _
      · have hE : (T == l) = false := by simpa using he
        have hE2 : (T != l) = true := by simpa using he
        have HR : Hid (raS l = noA) := by show _ = _; rw [raS, HLS.out, if_neg (fun h => he (by rw [← HT.out]; exact h.2))]
        clear he
        go_wp2
        refine bodyPost_ret (v := .tuple #[lineV 0 0 0 none 0 0 none 0 0 0, .bool false]) (by simp [results, Tryz.results5, go_sem, r0, r1, r2, r3, r4, r5]) rfl ⟨0, 0, 0, [], [], 0, none, 0, 0, none, 0, 0, false, rfl, ?_, no_ints _ _, no_ints _ _, HR.out⟩
        exact (((((BWc.setCell (Nat.le_refl _) _).setCell (Nat.le_refl _) _).setCell (Nat.le_refl _) _).setCell (Nat.le_refl _) _).setCell (Nat.le_refl _) _).setCell (Nat.le_refl _) _
  have N2 : Hid _ := h_addW
  have hp_addW : ¬ x0 = [97, 100, 100] := h_addW
  have hq_addW : (x0 == [97, 100, 100]) = false := by simpa using hp_addW
  clear h_addW
  by_cases h_printW : x0 = printW
  · have HE : Hid _ := h_printW
    have hp_printW : x0 = [112, 114, 105, 110, 116] := h_printW
    have hq_printW : (x0 == [112, 114, 105, 110, 116]) = true := by rw [hp_printW]; rfl
    clear h_printW
    obtain ⟨Ws, hWs⟩ : ∃ W, W = w1.alloc (.cells #[.int .i64 4, .int .i64 0, .int .i64 0, .slice none 0 0, .slice none 0 0, .int .i64 0] 26) := ⟨_, rfl⟩
    go_wp2_with fail
    rw [← hWs]
    rw [← hWs] at bxs BWs cbs al g0
    clear hWs
    refine (srest_any l 1 _ (by omega) (by omega) h120).mono ?_
    rintro e w2 ⟨rfl, b2⟩
    go_wp2_with fail
    refine (sfread_any (restL 1 l) _).mono ?_
    rintro e w3 (⟨C, D, K, B1, B2, hF, rfl, l1, l2, b3, k1, k2⟩ | ⟨hF, rfl, b3⟩)
    · have b23 := b2.trans (b3.mono b2.size)
      have lw3 : w1.heap.size < w3.heap.size := Nat.lt_of_lt_of_le cbs.lt b23.size
      have HLS : Hid (lineS l = (3, 0, 0, C, D, K)) := ls_three h120 HWS.out N1.out N2.out HE.out hF
      have HL1 : Hid _ := l1
      have HL2 : Hid _ := l2
      clear hF l1 l2
      have bx4 := (bxs.below b23).alloc (.cells #[.slice (some ⟨B1, 0, none⟩) 3 3, .slice (some ⟨B2, 0, none⟩) 2 2, .int .i64 K] 24)
      have cb4 := (cbs.below b23).alloc (.cells #[.slice (some ⟨B1, 0, none⟩) 3 3, .slice (some ⟨B2, 0, none⟩) 2 2, .int .i64 K] 24)
      have B3a := BWs.trans (b23.mono BWs.size)
      have BW4 := B3a.alloc B3a.size (.cells #[.slice (some ⟨B1, 0, none⟩) 3 3, .slice (some ⟨B2, 0, none⟩) 2 2, .int .i64 K] 24)
      have fb4 := Cel.new w3 [.slice (some ⟨B1, 0, none⟩) 3 3, .slice (some ⟨B2, 0, none⟩) 2 2, .int .i64 K] 24
      have kk1 := k1.alloc (.cells #[.slice (some ⟨B1, 0, none⟩) 3 3, .slice (some ⟨B2, 0, none⟩) 2 2, .int .i64 K] 24)
      have kk2 := k2.alloc (.cells #[.slice (some ⟨B1, 0, none⟩) 3 3, .slice (some ⟨B2, 0, none⟩) 2 2, .int .i64 K] 24)
      obtain ⟨W4, hW4⟩ : ∃ W, W = w3.alloc (.cells #[.slice (some ⟨B1, 0, none⟩) 3 3, .slice (some ⟨B2, 0, none⟩) 2 2, .int .i64 K] 24) := ⟨_, rfl⟩
      go_upto_region 13 with fail
      rw [← hW4] at bx4 cb4 BW4 fb4 kk1 kk2 ⊢
      clear hW4 b2 b3 b23 B3a bxs cbs BWs al g0 k1 k2
      obtain ⟨c0, c1, c2, c3, c4, c5⟩ := cb4.six
      obtain ⟨y0, y1, y2, y3, y4, y5⟩ := cb4.frees
      have lt_cb4 := cb4.lt
      have lt_fb4 := fb4.lt
      have hX0 : w.heap.size ≠ w1.heap.size := by omega
      have u0 := fb4.cell 0
      have u1 := fb4.cell 1
      have u2 := fb4.cell 2
      simp only [List.getElem?_cons_zero, List.getElem?_cons_succ] at u0 u1 u2
      have bxa := ((((((bx4.setOther hX0 0 (.int .i64 3)).setOther hX0 1 (.int .i64 0)).setOther hX0 2 (.int .i64 0)).setOther hX0 3 (.slice (some ⟨B1, 0, none⟩) 3 3)).setOther hX0 4 (.slice (some ⟨B2, 0, none⟩) 2 2)).setOther hX0 5 (.int .i64 K))
      have cba := ((((((cb4.set 0 (.int .i64 3)).set 1 (.int .i64 0)).set 2 (.int .i64 0)).set 3 (.slice (some ⟨B1, 0, none⟩) 3 3)).set 4 (.slice (some ⟨B2, 0, none⟩) 2 2)).set 5 (.int .i64 K))
      simp only [List.set_cons_zero, List.set_cons_succ] at cba
      have BWa := ((((((BW4.setCell (p := ⟨w1.heap.size, 0, none⟩) (Nat.le_of_lt ltw) (.int .i64 3)).setCell (p := ⟨w1.heap.size, 1, none⟩) (Nat.le_of_lt ltw) (.int .i64 0)).setCell (p := ⟨w1.heap.size, 2, none⟩) (Nat.le_of_lt ltw) (.int .i64 0)).setCell (p := ⟨w1.heap.size, 3, none⟩) (Nat.le_of_lt ltw) (.slice (some ⟨B1, 0, none⟩) 3 3)).setCell (p := ⟨w1.heap.size, 4, none⟩) (Nat.le_of_lt ltw) (.slice (some ⟨B2, 0, none⟩) 2 2)).setCell (p := ⟨w1.heap.size, 5, none⟩) (Nat.le_of_lt ltw) (.int .i64 K))
      have n1 := blk_ne kk1 cb4 (by rw [HL1.out]; decide)
      have n2 := blk_ne kk2 cb4 (by rw [HL2.out]; decide)
      have kd1 := ((((((kk1.setOther n1 0 (.int .i64 3)).setOther n1 1 (.int .i64 0)).setOther n1 2 (.int .i64 0)).setOther n1 3 (.slice (some ⟨B1, 0, none⟩) 3 3)).setOther n1 4 (.slice (some ⟨B2, 0, none⟩) 2 2)).setOther n1 5 (.int .i64 K))
      have kd2 := ((((((kk2.setOther n2 0 (.int .i64 3)).setOther n2 1 (.int .i64 0)).setOther n2 2 (.int .i64 0)).setOther n2 3 (.slice (some ⟨B1, 0, none⟩) 3 3)).setOther n2 4 (.slice (some ⟨B2, 0, none⟩) 2 2)).setOther n2 5 (.int .i64 K))
      clear kk1 kk2
      have kk1 := kd1
      have kk2 := kd2
      clear kd1 kd2
      obtain ⟨wa, hwa⟩ : ∃ W, W = ((((((W4.setCell ⟨w1.heap.size, 0, none⟩ (.int .i64 3)).setCell ⟨w1.heap.size, 1, none⟩ (.int .i64 0)).setCell ⟨w1.heap.size, 2, none⟩ (.int .i64 0)).setCell ⟨w1.heap.size, 3, none⟩ (.slice (some ⟨B1, 0, none⟩) 3 3)).setCell ⟨w1.heap.size, 4, none⟩ (.slice (some ⟨B2, 0, none⟩) 2 2)).setCell ⟨w1.heap.size, 5, none⟩ (.int .i64 K)) := ⟨_, rfl⟩
      go_upto_region 14 with fail
      rw [← hwa] at bxa cba BWa kk1 kk2 ⊢
      clear hwa bx4 cb4 BW4 fb4 c0 c1 c2 c3 c4 c5 y0 y1 y2 y3 y4 y5 u0 u1 u2 lt_cb4 lt_fb4
      obtain ⟨T, hT⟩ : ∃ T, actText (3, 0, 0, C, D, K) = T := ⟨_, rfl⟩
      have HT : Hid _ := hT
      clear hT
      obtain ⟨d0, d1, d2, d3, d4, d5⟩ := cba.six
      go_wp2_with fail
      refine (satext_any _ _ _ _ _ _ _ _ _ _ C D _ (kk1.ints' HL1.out) (kk2.ints' HL2.out) (by omega) (by omega)).mono ?_
      rintro e wb ⟨rfl, bb⟩
      rw [HT.out]
      have bxb := bxa.below bb
      have cbb := cba.below bb
      have BWb := BWa.trans (bb.mono BWa.size)
      have kb1 := kk1.below bb
      have kb2 := kk2.below bb
      clear bxa cba BWa bb d0 d1 d2 d3 d4 d5 kk1 kk2
      obtain ⟨r0, r1, r2, r3, r4, r5⟩ := bxb.six
      obtain ⟨f0, f1, f2, f3, f4, f5⟩ := bxb.frees
      have lt_bxb := bxb.lt
      obtain ⟨d0, d1, d2, d3, d4, d5⟩ := cbb.six
      by_cases h0 : T = []
      · have hm : T.isEmpty = true := by rw [h0]; rfl
        have HR : Hid (raS l = noA) := by show _ = _; rw [raS, HLS.out, if_neg (fun h => h.1 (by rw [HT.out]; exact h0))]
        clear h0
        go_wp2
        refine bodyPost_ret (v := .tuple #[lineV 0 0 0 none 0 0 none 0 0 0, .bool false]) (by simp [results, Tryz.results5, go_sem, r0, r1, r2, r3, r4, r5]) rfl ⟨0, 0, 0, [], [], 0, none, 0, 0, none, 0, 0, false, rfl, ?_, no_ints _ _, no_ints _ _, HR.out⟩
        exact (((((BWb.setCell (Nat.le_refl _) _).setCell (Nat.le_refl _) _).setCell (Nat.le_refl _) _).setCell (Nat.le_refl _) _).setCell (Nat.le_refl _) _).setCell (Nat.le_refl _) _
      have hm : T.isEmpty = false := by cases T with | nil => exact absurd rfl h0 | cons a b => rfl
      have H0 : Hid _ := h0
      clear h0
      go_wp2_with fail
      refine (satext_any _ _ _ _ _ _ _ _ _ _ C D _ (kb1.ints' HL1.out) (kb2.ints' HL2.out) (by omega) (by omega)).mono ?_
      rintro e wq ⟨rfl, bc⟩
      rw [HT.out]
      have bxc := bxb.below bc
      have cbc := cbb.below bc
      have BWc := BWb.trans (bc.mono BWb.size)
      have kc1 := kb1.below bc
      have kc2 := kb2.below bc
      clear bxb cbb BWb bc d0 d1 d2 d3 d4 d5 r0 r1 r2 r3 r4 r5 f0 f1 f2 f3 f4 f5 lt_bxb kb1 kb2
      obtain ⟨r0, r1, r2, r3, r4, r5⟩ := bxc.six
      obtain ⟨f0, f1, f2, f3, f4, f5⟩ := bxc.frees
      have lt_bxc := bxc.lt
      obtain ⟨d0, d1, d2, d3, d4, d5⟩ := cbc.six
      have lt_cbc := cbc.lt
      by_cases he : T = l
      · have hE : (T == l) = true := by rw [he]; simp
        have hE2 : (T != l) = false := by rw [he]; simp
        have HR : Hid (raS l = ((3, 0, 0, C, D, K), true)) := by show _ = _; rw [raS, HLS.out, if_pos ⟨by rw [HT.out]; exact H0.out, by rw [HT.out]; exact he⟩]
        clear he
        go_wp2
        refine bodyPost_ret (v := .tuple #[lineV 3 0 0 (some ⟨B1, 0, none⟩) 3 3 (some ⟨B2, 0, none⟩) 2 2 K, .bool true]) (by simp [results, Tryz.results5, go_sem, r0, r1, r2, r3, r4, r5]) rfl ⟨3, 0, 0, C, D, K, _, _, _, _, _, _, true, rfl, ?_, ?_, ?_, HR.out⟩
        · exact (((((BWc.setCell (Nat.le_refl _) _).setCell (Nat.le_refl _) _).setCell (Nat.le_refl _) _).setCell (Nat.le_refl _) _).setCell (Nat.le_refl _) _).setCell (Nat.le_refl _) _
        · have hX := blk_ne kc1 bxc (by rw [HL1.out]; decide)
          exact ((((((kc1.setOther hX _ _).setOther hX _ _).setOther hX _ _).setOther hX _ _).setOther hX _ _).setOther hX _ _).ints' HL1.out
        · have hX := blk_ne kc2 bxc (by rw [HL2.out]; decide)
          exact ((((((kc2.setOther hX _ _).setOther hX _ _).setOther hX _ _).setOther hX _ _).setOther hX _ _).setOther hX _ _).ints' HL2.out
      · have hE : (T == l) = false := by simpa using he
        have hE2 : (T != l) = true := by simpa using he
        have HR : Hid (raS l = noA) := by show _ = _; rw [raS, HLS.out, if_neg (fun h => he (by rw [← HT.out]; exact h.2))]
        clear he
        go_wp2
        refine bodyPost_ret (v := .tuple #[lineV 0 0 0 none 0 0 none 0 0 0, .bool false]) (by simp [results, Tryz.results5, go_sem, r0, r1, r2, r3, r4, r5]) rfl ⟨0, 0, 0, [], [], 0, none, 0, 0, none, 0, 0, false, rfl, ?_, no_ints _ _, no_ints _ _, HR.out⟩
        exact (((((BWc.setCell (Nat.le_refl _) _).setCell (Nat.le_refl _) _).setCell (Nat.le_refl _) _).setCell (Nat.le_refl _) _).setCell (Nat.le_refl _) _).setCell (Nat.le_refl _) _
    · have b23 := b2.trans (b3.mono b2.size)
      have lw3 : w1.heap.size < w3.heap.size := Nat.lt_of_lt_of_le cbs.lt b23.size
      have HLS : Hid (lineS l = (3, 0, 0, [], [], 0)) := ls_three h120 HWS.out N1.out N2.out HE.out hF
      clear hF
      have bx4 := (bxs.below b23).alloc (.cells #[.slice none 0 0, .slice none 0 0, .int .i64 0] 24)
      have cb4 := (cbs.below b23).alloc (.cells #[.slice none 0 0, .slice none 0 0, .int .i64 0] 24)
      have B3a := BWs.trans (b23.mono BWs.size)
      have BW4 := B3a.alloc B3a.size (.cells #[.slice none 0 0, .slice none 0 0, .int .i64 0] 24)
      have fb4 := Cel.new w3 [.slice none 0 0, .slice none 0 0, .int .i64 0] 24
      obtain ⟨W4, hW4⟩ : ∃ W, W = w3.alloc (.cells #[.slice none 0 0, .slice none 0 0, .int .i64 0] 24) := ⟨_, rfl⟩
      go_upto_region 13 with fail
      rw [← hW4] at bx4 cb4 BW4 fb4 ⊢
      clear hW4 b2 b3 b23 B3a bxs cbs BWs al g0
      obtain ⟨c0, c1, c2, c3, c4, c5⟩ := cb4.six
      obtain ⟨y0, y1, y2, y3, y4, y5⟩ := cb4.frees
      have lt_cb4 := cb4.lt
      have lt_fb4 := fb4.lt
      have hX0 : w.heap.size ≠ w1.heap.size := by omega
      have u0 := fb4.cell 0
      have u1 := fb4.cell 1
      have u2 := fb4.cell 2
      simp only [List.getElem?_cons_zero, List.getElem?_cons_succ] at u0 u1 u2
      have bxa := ((((((bx4.setOther hX0 0 (.int .i64 3)).setOther hX0 1 (.int .i64 0)).setOther hX0 2 (.int .i64 0)).setOther hX0 3 (.slice none 0 0)).setOther hX0 4 (.slice none 0 0)).setOther hX0 5 (.int .i64 0))
      have cba := ((((((cb4.set 0 (.int .i64 3)).set 1 (.int .i64 0)).set 2 (.int .i64 0)).set 3 (.slice none 0 0)).set 4 (.slice none 0 0)).set 5 (.int .i64 0))
      simp only [List.set_cons_zero, List.set_cons_succ] at cba
      have BWa := ((((((BW4.setCell (p := ⟨w1.heap.size, 0, none⟩) (Nat.le_of_lt ltw) (.int .i64 3)).setCell (p := ⟨w1.heap.size, 1, none⟩) (Nat.le_of_lt ltw) (.int .i64 0)).setCell (p := ⟨w1.heap.size, 2, none⟩) (Nat.le_of_lt ltw) (.int .i64 0)).setCell (p := ⟨w1.heap.size, 3, none⟩) (Nat.le_of_lt ltw) (.slice none 0 0)).setCell (p := ⟨w1.heap.size, 4, none⟩) (Nat.le_of_lt ltw) (.slice none 0 0)).setCell (p := ⟨w1.heap.size, 5, none⟩) (Nat.le_of_lt ltw) (.int .i64 0))
      obtain ⟨wa, hwa⟩ : ∃ W, W = ((((((W4.setCell ⟨w1.heap.size, 0, none⟩ (.int .i64 3)).setCell ⟨w1.heap.size, 1, none⟩ (.int .i64 0)).setCell ⟨w1.heap.size, 2, none⟩ (.int .i64 0)).setCell ⟨w1.heap.size, 3, none⟩ (.slice none 0 0)).setCell ⟨w1.heap.size, 4, none⟩ (.slice none 0 0)).setCell ⟨w1.heap.size, 5, none⟩ (.int .i64 0)) := ⟨_, rfl⟩
      go_upto_region 14 with fail
      rw [← hwa] at bxa cba BWa ⊢
      clear hwa bx4 cb4 BW4 fb4 c0 c1 c2 c3 c4 c5 y0 y1 y2 y3 y4 y5 u0 u1 u2 lt_cb4 lt_fb4
      obtain ⟨T, hT⟩ : ∃ T, actText (3, 0, 0, [], [], 0) = T := ⟨_, rfl⟩
      have HT : Hid _ := hT
      clear hT
      obtain ⟨d0, d1, d2, d3, d4, d5⟩ := cba.six
      go_wp2_with fail
      refine (satext_any _ _ _ _ _ _ _ _ _ _ [] [] _ (no_ints _ _) (no_ints _ _) (by omega) (by omega)).mono ?_
      rintro e wb ⟨rfl, bb⟩
      rw [HT.out]
      have bxb := bxa.below bb
      have cbb := cba.below bb
      have BWb := BWa.trans (bb.mono BWa.size)
      clear bxa cba BWa bb d0 d1 d2 d3 d4 d5
      obtain ⟨r0, r1, r2, r3, r4, r5⟩ := bxb.six
      obtain ⟨f0, f1, f2, f3, f4, f5⟩ := bxb.frees
      have lt_bxb := bxb.lt
      obtain ⟨d0, d1, d2, d3, d4, d5⟩ := cbb.six
      by_cases h0 : T = []
      · have hm : T.isEmpty = true := by rw [h0]; rfl
        have HR : Hid (raS l = noA) := by show _ = _; rw [raS, HLS.out, if_neg (fun h => h.1 (by rw [HT.out]; exact h0))]
        clear h0
        go_wp2
        refine bodyPost_ret (v := .tuple #[lineV 0 0 0 none 0 0 none 0 0 0, .bool false]) (by simp [results, Tryz.results5, go_sem, r0, r1, r2, r3, r4, r5]) rfl ⟨0, 0, 0, [], [], 0, none, 0, 0, none, 0, 0, false, rfl, ?_, no_ints _ _, no_ints _ _, HR.out⟩
        exact (((((BWb.setCell (Nat.le_refl _) _).setCell (Nat.le_refl _) _).setCell (Nat.le_refl _) _).setCell (Nat.le_refl _) _).setCell (Nat.le_refl _) _).setCell (Nat.le_refl _) _
      have hm : T.isEmpty = false := by cases T with | nil => exact absurd rfl h0 | cons a b => rfl
      have H0 : Hid _ := h0
      clear h0
      go_wp2_with fail
      refine (satext_any _ _ _ _ _ _ _ _ _ _ [] [] _ (no_ints _ _) (no_ints _ _) (by omega) (by omega)).mono ?_
      rintro e wq ⟨rfl, bc⟩
      rw [HT.out]
      have bxc := bxb.below bc
      have cbc := cbb.below bc
      have BWc := BWb.trans (bc.mono BWb.size)
      clear bxb cbb BWb bc d0 d1 d2 d3 d4 d5 r0 r1 r2 r3 r4 r5 f0 f1 f2 f3 f4 f5 lt_bxb
      obtain ⟨r0, r1, r2, r3, r4, r5⟩ := bxc.six
      obtain ⟨f0, f1, f2, f3, f4, f5⟩ := bxc.frees
      have lt_bxc := bxc.lt
      obtain ⟨d0, d1, d2, d3, d4, d5⟩ := cbc.six
      have lt_cbc := cbc.lt
      by_cases he : T = l
      · have hE : (T == l) = true := by rw [he]; simp
        have hE2 : (T != l) = false := by rw [he]; simp
        have HR : Hid (raS l = ((3, 0, 0, [], [], 0), true)) := by show _ = _; rw [raS, HLS.out, if_pos ⟨by rw [HT.out]; exact H0.out, by rw [HT.out]; exact he⟩]
        clear he
        go_wp2
        refine bodyPost_ret (v := .tuple #[lineV 3 0 0 none 0 0 none 0 0 0, .bool true]) (by simp [results, Tryz.results5, go_sem, r0, r1, r2, r3, r4, r5]) rfl ⟨3, 0, 0, [], [], 0, _, _, _, _, _, _, true, rfl, ?_, ?_, ?_, HR.out⟩
        · exact (((((BWc.setCell (Nat.le_refl _) _).setCell (Nat.le_refl _) _).setCell (Nat.le_refl _) _).setCell (Nat.le_refl _) _).setCell (Nat.le_refl _) _).setCell (Nat.le_refl _) _
        · exact no_ints _ _
        · exact no_ints _ _
      · have hE : (T == l) = false := by simpa using he
        have hE2 : (T != l) = true := by simpa using he
        have HR : Hid (raS l = noA) := by show _ = _; rw [raS, HLS.out, if_neg (fun h => he (by rw [← HT.out]; exact h.2))]
        clear he
        go_wp2
        refine bodyPost_ret (v := .tuple #[lineV 0 0 0 none 0 0 none 0 0 0, .bool false]) (by simp [results, Tryz.results5, go_sem, r0, r1, r2, r3, r4, r5]) rfl ⟨0, 0, 0, [], [], 0, none, 0, 0, none, 0, 0, false, rfl, ?_, no_ints _ _, no_ints _ _, HR.out⟩
        exact (((((BWc.setCell (Nat.le_refl _) _).setCell (Nat.le_refl _) _).setCell (Nat.le_refl _) _).setCell (Nat.le_refl _) _).setCell (Nat.le_refl _) _).setCell (Nat.le_refl _) _
  have N3 : Hid _ := h_printW
  have hp_printW : ¬ x0 = [112, 114, 105, 110, 116] := h_printW
  have hq_printW : (x0 == [112, 114, 105, 110, 116]) = false := by simpa using hp_printW
  have HLS : Hid (lineS l = (4, 0, 0, [], [], 0)) := ls_four h120 HWS.out N1.out N2.out h_printW
  clear h_printW
  have bxa := bxs
  have cba := cbs
  have BWa := BWs
  clear bxs cbs BWs
  obtain ⟨T, hT⟩ : ∃ T, actText (4, 0, 0, [], [], 0) = T := ⟨_, rfl⟩
  have HT : Hid _ := hT
  clear hT
  obtain ⟨d0, d1, d2, d3, d4, d5⟩ := cba.six
  go_wp2_with fail
  refine (satext_any _ _ _ _ _ _ _ _ _ _ [] [] _ (no_ints _ _) (no_ints _ _) (by omega) (by omega)).mono ?_
  rintro e wb ⟨rfl, bb⟩
  rw [HT.out]
  have bxb := bxa.below bb
  have cbb := cba.below bb
  have BWb := BWa.trans (bb.mono BWa.size)
  clear bxa cba BWa bb d0 d1 d2 d3 d4 d5
  obtain ⟨r0, r1, r2, r3, r4, r5⟩ := bxb.six
  obtain ⟨f0, f1, f2, f3, f4, f5⟩ := bxb.frees
  have lt_bxb := bxb.lt
  obtain ⟨d0, d1, d2, d3, d4, d5⟩ := cbb.six
  by_cases h0 : T = []
  · have hm : T.isEmpty = true := by rw [h0]; rfl
    have HR : Hid (raS l = noA) := by show _ = _; rw [raS, HLS.out, if_neg (fun h => h.1 (by rw [HT.out]; exact h0))]
    clear h0
    go_wp2
    refine bodyPost_ret (v := .tuple #[lineV 0 0 0 none 0 0 none 0 0 0, .bool false]) (by simp [results, Tryz.results5, go_sem, r0, r1, r2, r3, r4, r5]) rfl ⟨0, 0, 0, [], [], 0, none, 0, 0, none, 0, 0, false, rfl, ?_, no_ints _ _, no_ints _ _, HR.out⟩
    exact (((((BWb.setCell (Nat.le_refl _) _).setCell (Nat.le_refl _) _).setCell (Nat.le_refl _) _).setCell (Nat.le_refl _) _).setCell (Nat.le_refl _) _).setCell (Nat.le_refl _) _
  have hm : T.isEmpty = false := by cases T with | nil => exact absurd rfl h0 | cons a b => rfl
  have H0 : Hid _ := h0
  clear h0
  go_wp2_with fail
  refine (satext_any _ _ _ _ _ _ _ _ _ _ [] [] _ (no_ints _ _) (no_ints _ _) (by omega) (by omega)).mono ?_
  rintro e wq ⟨rfl, bc⟩
  rw [HT.out]
  have bxc := bxb.below bc
  have cbc := cbb.below bc
  have BWc := BWb.trans (bc.mono BWb.size)
  clear bxb cbb BWb bc d0 d1 d2 d3 d4 d5 r0 r1 r2 r3 r4 r5 f0 f1 f2 f3 f4 f5 lt_bxb
  obtain ⟨r0, r1, r2, r3, r4, r5⟩ := bxc.six
  obtain ⟨f0, f1, f2, f3, f4, f5⟩ := bxc.frees
  have lt_bxc := bxc.lt
  obtain ⟨d0, d1, d2, d3, d4, d5⟩ := cbc.six
  have lt_cbc := cbc.lt
  by_cases he : T = l
  · have hE : (T == l) = true := by rw [he]; simp
    have hE2 : (T != l) = false := by rw [he]; simp
    have HR : Hid (raS l = ((4, 0, 0, [], [], 0), true)) := by show _ = _; rw [raS, HLS.out, if_pos ⟨by rw [HT.out]; exact H0.out, by rw [HT.out]; exact he⟩]
    clear he
    go_wp2
    refine bodyPost_ret (v := .tuple #[lineV 4 0 0 none 0 0 none 0 0 0, .bool true]) (by simp [results, Tryz.results5, go_sem, r0, r1, r2, r3, r4, r5]) rfl ⟨4, 0, 0, [], [], 0, _, _, _, _, _, _, true, rfl, ?_, ?_, ?_, HR.out⟩
    · exact (((((BWc.setCell (Nat.le_refl _) _).setCell (Nat.le_refl _) _).setCell (Nat.le_refl _) _).setCell (Nat.le_refl _) _).setCell (Nat.le_refl _) _).setCell (Nat.le_refl _) _
    · exact no_ints _ _
    · exact no_ints _ _
  · have hE : (T == l) = false := by simpa using he
    have hE2 : (T != l) = true := by simpa using he
    have HR : Hid (raS l = noA) := by show _ = _; rw [raS, HLS.out, if_neg (fun h => he (by rw [← HT.out]; exact h.2))]
    clear he
    go_wp2
    refine bodyPost_ret (v := .tuple #[lineV 0 0 0 none 0 0 none 0 0 0, .bool false]) (by simp [results, Tryz.results5, go_sem, r0, r1, r2, r3, r4, r5]) rfl ⟨0, 0, 0, [], [], 0, none, 0, 0, none, 0, 0, false, rfl, ?_, no_ints _ _, no_ints _ _, HR.out⟩
    exact (((((BWc.setCell (Nat.le_refl _) _).setCell (Nat.le_refl _) _).setCell (Nat.le_refl _) _).setCell (Nat.le_refl _) _).setCell (Nat.le_refl _) _).setCell (Nat.le_refl _) _

end Go.Proofs.YtkmacleakfbobabGreatDoor
