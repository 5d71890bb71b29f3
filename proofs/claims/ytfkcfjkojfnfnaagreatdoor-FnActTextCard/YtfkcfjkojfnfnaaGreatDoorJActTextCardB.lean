/-
  Lemmas that the claim's last text rests on: AcS, AcL, AcI, Shelf3, RfX, AcM.
-/
import Derived.Test.YtfkcfjkojfnfnaaGreatDoorJActTextCardA
import Derived.Test.YtfkcfjkojfnfnaaGreatDoorRdW
import Derived.Test.YtfkcfjkojfnfnaaGreatDoorKeyed
import Derived.Deep.DeepCutAuto
import Derived.Test.YtfkcfjkojfnfnaaGreatDoorLine
import Derived.Test.YtfkcfjkojfnfnaaGreatDoorShelf
import Derived.Shelf.LaysM
import Derived.Shelf.Strings.Cut
import Derived.Test.YtfkcfjkojfnfnaaGreatDoorProg
namespace Go.Proofs.YtfkcfjkojfnfnaaGreatDoor
open Go.RowKit
set_option linter.unusedVariables false
set_option maxRecDepth 100000

theorem rest_at {l : List UInt8} {k n : Nat} (h : k < l.length) (hb : l[k]?.getD 0 = 32) : restL n (l.drop k) = if n = 1 then l.drop (k + 1) else restL (n - 1) (l.drop (k + 1)) := by
  rw [List.getElem?_eq_getElem h] at hb
  rw [List.drop_eq_getElem_cons h, restL, if_pos (by simpa using hb)]
theorem rest_by {l : List UInt8} {k n : Nat} (h : k < l.length) (hb : ¬ l[k]?.getD 0 = 32) : restL n (l.drop k) = restL n (l.drop (k + 1)) := by
  rw [List.getElem?_eq_getElem h] at hb
  rw [List.drop_eq_getElem_cons h, restL, if_neg (by simpa using hb)]
theorem rest_end {l : List UInt8} {k n : Nat} (h : l.length ≤ k) : restL n (l.drop k) = [] := by
  rw [List.drop_eq_nil_of_le h]; rw [restL]

set_option maxHeartbeats 1600000 in
theorem srest_any (l : List UInt8) (n0 : Nat) (w : World) (hn1 : 1 ≤ n0) (hn2 : n0 ≤ 2) (hl : l.length ≤ 120) :
    Calls Tryz.prog 41 #[.string ⟨l.toArray⟩, .int .i64 n0] w fun e w' => e = .returned (.string ⟨(restL n0 l).toArray⟩) ∧ Below w.heap.size w w' := by
  go_enter Tryz.func41, Tryz.ntmps41
  go_wp2_with fail
  go_loopw [1, 5] (fun nv i wr => ∃ k n : Nat, k ≤ l.length ∧ i = .int .i64 k ∧ nv = .int .i64 n ∧ 1 ≤ n ∧ n ≤ 2 ∧ restL n0 l = restL n (l.drop k) ∧ Below w.heap.size w wr) (fun _ i _ => l.length - (intOf i).toNat)
  case atStart => exact ⟨0, n0, Nat.zero_le _, rfl, rfl, hn1, hn2, rfl, Below.refl _ _⟩
  case round =>
    obtain ⟨k, n, hk, rfl, rfl, h1, h2, hr, hb⟩ := hrel
    have HR : Hid _ := hr
    clear hr
    by_cases hlt : k < l.length
    · have hlt' : (k : Int) < (l.length : Int) := by omega
      have hgt : (0 : Int) < (n : Int) := by omega
      have hB := str_at hlt
      by_cases hb32 : l[k]?.getD 0 = 32
      · have HA : Hid _ := rest_at (n := n) hlt hb32
        rw [hb32] at hB
        have hB' : ((⟨l.toArray⟩ : ByteArray)[k]'(str_lt hlt)).toNat = 32 := by rw [hB]; rfl
        clear hB
        by_cases hn : n = 1
        · subst hn
          have HA2 : Hid (restL 1 (l.drop k) = l.drop (k + 1)) := by show _ = _; rw [HA.out, if_pos rfl]
          have hk1 : (k : Int) + 1 ≤ (l.length : Int) := by omega
          have hex : (⟨l.toArray⟩ : ByteArray).extract (k + 1) l.length = ⟨(l.drop (k + 1)).toArray⟩ := by
            apply ByteArray.ext
            apply Array.toList_inj.1
            rw [Lib.extract_data]
            simp
            exact List.take_of_length_le (by simp)
          clear HA hb32
          go_wp2
          go_ret
          refine ⟨?_, hb⟩
          rw [HR.out, HA2.out]
          first | rfl | (simp [hex]; done) | trace_state
        · have hn' : n = 2 := by omega
          subst hn'
          have HA2 : Hid (restL 2 (l.drop k) = restL 1 (l.drop (k + 1))) := by show _ = _; rw [HA.out, if_neg (by decide)]
          clear HA hb32 hn
          go_wp2
          go_roundw
          case rel => exact ⟨k + 1, 1, by omega, by go_num, by go_num, by omega, by omega, by rw [HR.out, HA2.out], hb⟩
          case measure => simp [intOf]; omega
      · have HA : Hid _ := rest_by (n := n) hlt hb32
        obtain ⟨x, hx⟩ : ∃ x, l[k]?.getD 0 = x := ⟨_, rfl⟩
        rw [hx] at hB hb32
        have hxn : ¬ x.toNat = 32 := fun e => hb32 (UInt8.toNat_inj.1 (by rw [e]; rfl))
        have hne : ((x.toNat : Int) == 32) = false := by simp; omega
        have hx8 := x.toNat_lt
        clear hb32 hxn hx
        go_wp2
        go_roundw
        case rel => exact ⟨k + 1, n, by omega, by go_num, rfl, h1, h2, by rw [HR.out, HA.out], hb⟩
        case measure => simp [intOf]; omega
    · have hge : (l.length : Int) ≤ (k : Int) := by omega
      have HE : Hid _ := rest_end (n := n) (by omega : l.length ≤ k)
      go_wp2
      go_ret
      exact ⟨by rw [HR.out, HE.out]; rfl, hb⟩

end Go.Proofs.YtfkcfjkojfnfnaaGreatDoor

namespace Go.Proofs.YtfkcfjkojfnfnaaGreatDoor
open Go.RowKit
set_option linter.unusedVariables false
set_option maxRecDepth 100000

theorem no_ints (W : World) (a : Option Addr) : Ints W a 0 [] := ⟨rfl, fun i hi => absurd hi (by omega)⟩
theorem blk_ne {W : World} {B X : Nat} {zs : List Int} {vs : List Value} {t : TypeId} (h : Blk W B zs) (c : Cel W X vs t) (hl : zs.length ≠ vs.length) : B ≠ X := fun e => by
  subst e
  have h1 := h.cell
  unfold Blk at h
  unfold Cel at c
  rw [h] at c
  apply hl
  have := congrArg (fun o => match o with | some (Obj.cells a _ _) => a.size | _ => 0) c
  simpa using this
theorem atW_no {ws : List (List UInt8)} {k : Nat} (h : ws.length ≤ k) : atW ws k = -1 := by rw [atW, List.getElem?_eq_none h]
theorem atW_some {ws : List (List UInt8)} {k : Nat} {x : List UInt8} (h : ws[k]? = some x) : atW ws k = if (numL x).2 = true then (numL x).1 else -1 := by rw [atW, h]
theorem l2at_all (ws : List (List UInt8)) (g n cap k : Nat) (w : World) (hn : ws.length = n) (hs : ∀ x, ws[k]? = some x → x.length ≤ 120) (hc : ∀ x, ws[k]? = some x → w.cell? ⟨g, k, none⟩ = some (.string ⟨x.toArray⟩)) :
    Calls Tryz.prog 32 #[.slice (some ⟨g, 0, none⟩) n cap, .int .i64 k] w fun e w' => e = .returned (.int .i64 (atW ws k)) ∧ w' = w := by
  by_cases hk : k < n
  · obtain ⟨x, hx⟩ : ∃ x, ws[k]? = some x := ⟨_, List.getElem?_eq_getElem (by omega)⟩
    have hxl := hs x hx
    have hxc := hc x hx
    have HA : Hid _ := atW_some hx
    have hkn' : (k : Int) < (n : Int) := by omega
    have hc' : w.cell? ⟨g, 0 + k, none⟩ = some (.string ⟨x.toArray⟩) := by rw [Nat.zero_add]; exact hxc
    clear hs hc hx
    cases hb : (numL x).2
    all_goals
      have HB : Hid _ := hb
      clear hb
      go_enter Tryz.func32, Tryz.ntmps32
      go_wp2_with fail
      refine (num_any x _ hxl).mono ?_
      rintro e w1 ⟨rfl, rfl⟩
      rw [HB.out]
      go_wp2
      go_ret
      exact ⟨ret_int (by rw [HA.out, HB.out]; rfl), rfl⟩
  · have HA : Hid _ := atW_no (ws := ws) (k := k) (by omega)
    have hkn' : (n : Int) ≤ (k : Int) := by omega
    go_enter Tryz.func32, Tryz.ntmps32
    go_wp2
    go_ret
    exact ⟨ret_int (by rw [HA.out]), rfl⟩
theorem ls_one {l x : List UInt8} {t : List (List UInt8)} {w : List UInt8} {r : FR × Bool} (hl : l.length ≤ 120) (hw : wordsOf l = x :: t) (h : x = testW) (hr : rfF (restL 2 l) = r) : lineS l = (1, 0, atW (wordsOf l) 1, r.1) := by
  rw [lineS, wsF, if_pos hl, hw]; show (if x = testW then _ else _) = _; rw [if_pos h, hr]
theorem ls_two {l x : List UInt8} {t : List (List UInt8)} {r : FR × Bool} (hl : l.length ≤ 120) (hw : wordsOf l = x :: t) (h0 : ¬ x = testW) (h : x = addW) (hr : rfF (restL 2 l) = r) : lineS l = (2, atW (wordsOf l) 1, 0, r.1) := by
  rw [lineS, wsF, if_pos hl, hw]; show (if x = testW then _ else if x = addW then _ else _) = _; rw [if_neg h0, if_pos h, hr]
theorem ls_three {l x : List UInt8} {t : List (List UInt8)} {r : FR × Bool} (hl : l.length ≤ 120) (hw : wordsOf l = x :: t) (h0 : ¬ x = testW) (h1 : ¬ x = addW) (h : x = printW) (hr : rfF (restL 1 l) = r) : lineS l = (3, 0, 0, r.1) := by
  rw [lineS, wsF, if_pos hl, hw]; show (if x = testW then _ else if x = addW then _ else if x = printW then _ else _) = _; rw [if_neg h0, if_neg h1, if_pos h, hr]
theorem ls_four {l x : List UInt8} {t : List (List UInt8)} (hl : l.length ≤ 120) (hw : wordsOf l = x :: t) (h0 : ¬ x = testW) (h1 : ¬ x = addW) (h2 : ¬ x = printW) : lineS l = (4, 0, 0, [], [], 0) := by
  rw [lineS, wsF, if_pos hl, hw]; show (if x = testW then _ else if x = addW then _ else if x = printW then _ else _) = _; rw [if_neg h0, if_neg h1, if_neg h2]; rfl
theorem rest_len : ∀ (l : List UInt8) (n : Nat), (restL n l).length ≤ l.length
  | [], n => by rw [restL]; exact Nat.le_refl _
  | b :: t, n => by
    rw [restL]
    split
    · split
      · simp
      · have := rest_len t (n - 1); rw [List.length_cons]; omega
    · have := rest_len t n; rw [List.length_cons]; omega
theorem awords_long (l : List UInt8) (w : World) (hl : 120 < l.length) :
    Calls Tryz.prog 30 #[.string ⟨l.toArray⟩] w fun e w' => e = .returned (.slice (some ⟨w.heap.size, 0, none⟩) 0 0) ∧ Below w.heap.size w w' := by
  have hi : (120 : Int) < (l.length : Int) := by omega
  have B0 := (Below.refl w.heap.size w).alloc (Nat.le_refl _) (.cells #[] 9)
  go_enter Tryz.func30, Tryz.ntmps30
  go_wp2
  go_ret
  exact ⟨rfl, B0⟩

set_option maxHeartbeats 12800000 in
theorem saread_any (l : List UInt8) (w : World) :
    Calls Tryz.prog 16 #[.string ⟨l.toArray⟩] w fun e w' =>
      ∃ (k p z : Int) (C D : List Int) (K : Int) (a : Option Addr) (n cap : Nat) (c : Option Addr) (m cap' : Nat) (ok : Bool), e = .returned (.tuple #[lineV k p z a n cap c m cap' K, .bool ok]) ∧ Below w.heap.size w w' ∧ Ints w' a n C ∧ Ints w' c m D ∧ raS l = ((k, p, z, C, D, K), ok) := by
  have bx := Cel.new w [.int .i64 0, .int .i64 0, .int .i64 0, .slice none 0 0, .slice none 0 0, .int .i64 0] 36
  have B0 := (Below.refl w.heap.size w).alloc (Nat.le_refl _) (.cells #[.int .i64 0, .int .i64 0, .int .i64 0, .slice none 0 0, .slice none 0 0, .int .i64 0] 36)
  by_cases h120 : l.length ≤ 120
  case neg =>
    have HLS : Hid (lineS l = (4, 0, 0, [], [], 0)) := by show _ = _; rw [lineS, wsF, if_neg h120]; rfl
    go_enter Tryz.func16, Tryz.ntmps16
    go_wp2_with fail
    refine (awords_long l _ (by omega)).mono ?_
    rintro e w1 ⟨rfl, b1⟩
    have bxa := (bx.below b1).alloc (.cells #[.int .i64 4, .int .i64 0, .int .i64 0, .slice none 0 0, .slice none 0 0, .int .i64 0] 36)
    have BW1 := B0.trans (b1.mono B0.size)
    have BWa := BW1.alloc BW1.size (.cells #[.int .i64 4, .int .i64 0, .int .i64 0, .slice none 0 0, .slice none 0 0, .int .i64 0] 36)
    have cba := Cel.new w1 [.int .i64 4, .int .i64 0, .int .i64 0, .slice none 0 0, .slice none 0 0, .int .i64 0] 36
    clear bx B0 b1 BW1
    obtain ⟨T, hT⟩ : ∃ T, actText (4, 0, 0, [], [], 0) = T := ⟨_, rfl⟩
    have HT : Hid _ := hT
    clear hT
    obtain ⟨d0, d1, d2, d3, d4, d5⟩ := cba.six
    go_wp2_with fail
    refine (satext_any _ _ _ _ _ _ _ _ _ _ [] [] _ (no_ints _ _) (no_ints _ _) (by omega) (by omega)).mono ?_
    rintro e wb ⟨rfl, bb⟩
    rw [HT.out]
    have bxb := bxa.below bb
    have cbb := cba.below bb
    have BWb := BWa.trans (bb.mono BWa.size)
    clear bxa cba BWa bb d0 d1 d2 d3 d4 d5
    obtain ⟨r0, r1, r2, r3, r4, r5⟩ := bxb.six
    obtain ⟨f0, f1, f2, f3, f4, f5⟩ := bxb.frees
    have lt_bxb := bxb.lt
    obtain ⟨d0, d1, d2, d3, d4, d5⟩ := cbb.six
    by_cases h0 : T = []
    · have hm : T.isEmpty = true := by rw [h0]; rfl
      have HR : Hid (raS l = noA) := by show _ = _; rw [raS, HLS.out, if_neg (fun h => h.1 (by rw [HT.out]; exact h0))]
      clear h0
      go_wp2
      refine bodyPost_ret (v := .tuple #[lineV 0 0 0 none 0 0 none 0 0 0, .bool false]) (by simp [results, Tryz.results16, go_sem, r0, r1, r2, r3, r4, r5]) rfl ⟨0, 0, 0, [], [], 0, none, 0, 0, none, 0, 0, false, rfl, ?_, no_ints _ _, no_ints _ _, HR.out⟩
      exact (((((BWb.setCell (Nat.le_refl _) _).setCell (Nat.le_refl _) _).setCell (Nat.le_refl _) _).setCell (Nat.le_refl _) _).setCell (Nat.le_refl _) _).setCell (Nat.le_refl _) _
    have hm : T.isEmpty = false := by cases T with | nil => exact absurd rfl h0 | cons a b => rfl
    have H0 : Hid _ := h0
    clear h0
    go_wp2_with fail
    refine (satext_any _ _ _ _ _ _ _ _ _ _ [] [] _ (no_ints _ _) (no_ints _ _) (by omega) (by omega)).mono ?_
    rintro e wq ⟨rfl, bc⟩
    rw [HT.out]
    have bxc := bxb.below bc
    have cbc := cbb.below bc
    have BWc := BWb.trans (bc.mono BWb.size)
    clear bxb cbb BWb bc d0 d1 d2 d3 d4 d5 r0 r1 r2 r3 r4 r5 f0 f1 f2 f3 f4 f5 lt_bxb
    obtain ⟨r0, r1, r2, r3, r4, r5⟩ := bxc.six
    obtain ⟨f0, f1, f2, f3, f4, f5⟩ := bxc.frees
    have lt_bxc := bxc.lt
    obtain ⟨d0, d1, d2, d3, d4, d5⟩ := cbc.six
    have lt_cbc := cbc.lt
    by_cases he : T = l
    · have hE : (T == l) = true := by rw [he]; simp
      have hE2 : (T != l) = false := by rw [he]; simp
      have HR : Hid (raS l = ((4, 0, 0, [], [], 0), true)) := by show _ = _; rw [raS, HLS.out, if_pos ⟨by rw [HT.out]; exact H0.out, by rw [HT.out]; exact he⟩]
      clear he
      go_wp2
      refine bodyPost_ret (v := .tuple #[lineV 4 0 0 none 0 0 none 0 0 0, .bool true]) (by simp [results, Tryz.results16, go_sem, r0, r1, r2, r3, r4, r5]) rfl ⟨4, 0, 0, [], [], 0, _, _, _, _, _, _, true, rfl, ?_, ?_, ?_, HR.out⟩
      · exact (((((BWc.setCell (Nat.le_refl _) _).setCell (Nat.le_refl _) _).setCell (Nat.le_refl _) _).setCell (Nat.le_refl _) _).setCell (Nat.le_refl _) _).setCell (Nat.le_refl _) _
      · exact no_ints _ _
      · exact no_ints _ _
    · have hE : (T == l) = false := by simpa using he
      have hE2 : (T != l) = true := by simpa using he
      have HR : Hid (raS l = noA) := by show _ = _; rw [raS, HLS.out, if_neg (fun h => he (by rw [← HT.out]; exact h.2))]
      clear he
      go_wp2
      refine bodyPost_ret (v := .tuple #[lineV 0 0 0 none 0 0 none 0 0 0, .bool false]) (by simp [results, Tryz.results16, go_sem, r0, r1, r2, r3, r4, r5]) rfl ⟨0, 0, 0, [], [], 0, none, 0, 0, none, 0, 0, false, rfl, ?_, no_ints _ _, no_ints _ _, HR.out⟩
      exact (((((BWc.setCell (Nat.le_refl _) _).setCell (Nat.le_refl _) _).setCell (Nat.le_refl _) _).setCell (Nat.le_refl _) _).setCell (Nat.le_refl _) _).setCell (Nat.le_refl _) _
  obtain ⟨x0, ws, hws⟩ : ∃ x0 ws, wordsOf l = x0 :: ws := by
    cases h : wordsOf l with
    | nil => exact absurd h (words_ne l)
    | cons a b => exact ⟨a, b, rfl⟩
  obtain ⟨q, hq⟩ : ∃ q, (wordsOf l).length = q := ⟨_, rfl⟩
  have HQ : Hid _ := hq
  have hq0 : 0 < q := by rw [← hq, hws]; simp
  have hq0' : (0 : Int) < (q : Int) := by omega
  have HWS : Hid _ := hws
  have HS1 : Hid (∀ x, (wordsOf l)[1]? = some x → x.length ≤ 120) := fun x hx => by
    rw [hws, List.getElem?_cons_succ] at hx
    exact Nat.le_trans (words_short hws x (List.mem_of_getElem? hx)) h120
  have hr2 : (restL 2 l).length ≤ 120 := Nat.le_trans (rest_len l 2) h120
  have hr1 : (restL 1 l).length ≤ 120 := Nat.le_trans (rest_len l 1) h120
  clear hq hws
  go_enter Tryz.func16, Tryz.ntmps16
  go_wp2_with fail
  refine (words_any l _ h120).mono ?_
  rintro e w1 ⟨v, rfl, j1⟩
  have bx1 := bx.below j1.b
  have BW1 := B0.trans (j1.b.mono B0.size)
  obtain ⟨g, gc, rfl, -, hg, hcs⟩ := j1.cells (k := q) (by rw [bytesW, List.length_map]; exact HQ.out) hq0
  have HCS : Hid (∀ (i : Nat) (x : List UInt8), (wordsOf l)[i]? = some x → w1.cell? ⟨g, i, none⟩ = some (.string ⟨x.toArray⟩)) := fun i x hx => by
    have := hcs i ⟨x.toArray⟩ (by rw [bytesW, List.getElem?_map, hx]; rfl)
    rwa [Nat.zero_add] at this
  have al := (Below.refl w1.heap.size w1).alloc (Nat.le_refl _) (.cells #[.int .i64 4, .int .i64 0, .int .i64 0, .slice none 0 0, .slice none 0 0, .int .i64 0] 36)
  have g0 : (w1.alloc (.cells #[.int .i64 4, .int .i64 0, .int .i64 0, .slice none 0 0, .slice none 0 0, .int .i64 0] 36)).cell? ⟨g, 0, none⟩ = some (.string ⟨x0.toArray⟩) := by rw [al.cell (p := ⟨g, 0, none⟩) hg]; exact HCS.out 0 x0 (by rw [HWS.out]; rfl)
  have bxs := bx1.alloc (.cells #[.int .i64 4, .int .i64 0, .int .i64 0, .slice none 0 0, .slice none 0 0, .int .i64 0] 36)
  have BWs := BW1.alloc BW1.size (.cells #[.int .i64 4, .int .i64 0, .int .i64 0, .slice none 0 0, .slice none 0 0, .int .i64 0] 36)
  have cbs := Cel.new w1 [.int .i64 4, .int .i64 0, .int .i64 0, .slice none 0 0, .slice none 0 0, .int .i64 0] 36
  have ltw : w.heap.size < w1.heap.size := bx1.lt
  clear hcs j1 bx B0 bx1 BW1
  by_cases h_testW : x0 = testW
  · have HE : Hid _ := h_testW
    have hp_testW : x0 = [116, 101, 115, 116] := h_testW
    have hq_testW : (x0 == [116, 101, 115, 116]) = true := by rw [hp_testW]; rfl
    clear h_testW
    obtain ⟨Ws, hWs⟩ : ∃ W, W = w1.alloc (.cells #[.int .i64 4, .int .i64 0, .int .i64 0, .slice none 0 0, .slice none 0 0, .int .i64 0] 36) := ⟨_, rfl⟩
    go_wp2_with fail
    rw [← hWs]
    rw [← hWs] at bxs BWs cbs al g0
    clear hWs
    refine (srest_any l 2 _ (by omega) (by omega) h120).mono ?_
    rintro e w2 ⟨rfl, b2⟩
    go_wp2_with fail
    refine (sfread_any (restL 2 l) _).mono ?_
    rintro e w3 (⟨C, D, K, B1, B2, hF, rfl, l1, l2, b3, k1, k2⟩ | ⟨hF, rfl, b3⟩)
    · have b23 := b2.trans (b3.mono b2.size)
      have lw3 : w1.heap.size < w3.heap.size := Nat.lt_of_lt_of_le cbs.lt b23.size
      have HLS : Hid (lineS l = (1, 0, atW (wordsOf l) 1, C, D, K)) := ls_one (w := []) h120 HWS.out HE.out hF
      have HL1 : Hid _ := l1
      have HL2 : Hid _ := l2
      obtain ⟨zz, hzz⟩ : ∃ z, z = atW (wordsOf l) 1 := ⟨_, rfl⟩
      rw [← hzz] at HLS
      have HZZ : Hid _ := hzz
      clear hzz hF l1 l2
      have bx4 := (bxs.below b23).alloc (.cells #[.slice (some ⟨B1, 0, none⟩) 3 3, .slice (some ⟨B2, 0, none⟩) 2 2, .int .i64 K] 34)
      have cb4 := (cbs.below b23).alloc (.cells #[.slice (some ⟨B1, 0, none⟩) 3 3, .slice (some ⟨B2, 0, none⟩) 2 2, .int .i64 K] 34)
      have B3a := BWs.trans (b23.mono BWs.size)
      have BW4 := B3a.alloc B3a.size (.cells #[.slice (some ⟨B1, 0, none⟩) 3 3, .slice (some ⟨B2, 0, none⟩) 2 2, .int .i64 K] 34)
      have fb4 := Cel.new w3 [.slice (some ⟨B1, 0, none⟩) 3 3, .slice (some ⟨B2, 0, none⟩) 2 2, .int .i64 K] 34
      have al4 : Below w1.heap.size w1 (w3.alloc (.cells #[.slice (some ⟨B1, 0, none⟩) 3 3, .slice (some ⟨B2, 0, none⟩) 2 2, .int .i64 K] 34)) := (al.trans (b23.mono al.size)).alloc (al.trans (b23.mono al.size)).size (.cells #[.slice (some ⟨B1, 0, none⟩) 3 3, .slice (some ⟨B2, 0, none⟩) 2 2, .int .i64 K] 34)
      have kk1 := k1.alloc (.cells #[.slice (some ⟨B1, 0, none⟩) 3 3, .slice (some ⟨B2, 0, none⟩) 2 2, .int .i64 K] 34)
      have kk2 := k2.alloc (.cells #[.slice (some ⟨B1, 0, none⟩) 3 3, .slice (some ⟨B2, 0, none⟩) 2 2, .int .i64 K] 34)
      obtain ⟨W4, hW4⟩ : ∃ W, W = w3.alloc (.cells #[.slice (some ⟨B1, 0, none⟩) 3 3, .slice (some ⟨B2, 0, none⟩) 2 2, .int .i64 K] 34) := ⟨_, rfl⟩
      go_upto_region 7 with fail
      rw [← hW4] at bx4 cb4 BW4 fb4 al4 kk1 kk2 ⊢
      clear hW4 b2 b3 b23 B3a bxs cbs BWs k1 k2
      have hS0 : (W4.drew.cell? ⟨w3.heap.size, 0, none⟩ = some (.slice (some ⟨B1, 0, none⟩) 3 3) ∧ W4.drew.cell? ⟨w3.heap.size, 1, none⟩ = some (.slice (some ⟨B2, 0, none⟩) 2 2) ∧ W4.drew.cell? ⟨w3.heap.size, 2, none⟩ = some (.int .i64 K)) ∧ True := ⟨⟨fb4.cell 0, fb4.cell 1, fb4.cell 2⟩, trivial⟩
      refine wp_region_ends (fun X => X.cell? ⟨w3.heap.size, 0, none⟩ = some (.slice (some ⟨B1, 0, none⟩) 3 3) ∧ X.cell? ⟨w3.heap.size, 1, none⟩ = some (.slice (some ⟨B2, 0, none⟩) 2 2) ∧ X.cell? ⟨w3.heap.size, 2, none⟩ = some (.int .i64 K)) (fun _ => True) 4 (by kernel_rfl) ?_
      refine wpAnyE_take0 (i := 0) (v := ?tafv0) rfl (by kernel_rfl) (by kernel_rfl) (by kernel_rfl) (by decide) (fun _ _ _ h => h) (Or.inl ⟨by rfl, ?tafhy0⟩) hS0 ?_
      case tafhy0 => (intro wz hSw; (try dsimp only at hSw); go_simp; try (with_reducible rfl))
      refine wpAnyE_take0 (i := 2) (v := ?tafv2) rfl (by kernel_rfl) (by kernel_rfl) (by kernel_rfl) (by decide) (fun _ _ _ h => h) (Or.inl ⟨by rfl, ?tafhy2⟩) hS0 ?_
      case tafhy2 => (intro wz hSw; (try dsimp only at hSw); go_simp; try (with_reducible rfl))
      refine wpAnyE_one (i := 1) (by kernel_rfl) rfl (fun Kn hK => ?_)
      go_simp
      refine (l2at_all (wordsOf l) g q gc 1 _ HQ.out HS1.out (fun x hx => by
        show W4.cell? ⟨g, 1, none⟩ = _
        rw [al4.cell (p := ⟨g, 1, none⟩) hg]; exact HCS.out 1 x hx)).mono ?_
      rintro ee w5 ⟨rfl, rfl⟩
      rw [← HZZ.out]
      dsimp only
      refine hK.out _ _ ⟨hS0.1, fun _ => trivial⟩ ?_
      clear hK
      refine wpAnyE_take0 (i := 3) (v := ?tafv3) rfl (by kernel_rfl) (by kernel_rfl) (by kernel_rfl) (by decide) (fun _ _ _ h => h) (Or.inl ⟨by rfl, ?tafhy3⟩) hS0 ?_
      case tafhy3 => (intro wz hSw; (try dsimp only at hSw); go_simp; try (with_reducible rfl))
      obtain ⟨c0, c1, c2, c3, c4, c5⟩ := cb4.six
      obtain ⟨y0, y1, y2, y3, y4, y5⟩ := cb4.frees
      have lt_cb4 := cb4.lt
      have lt_fb4 := fb4.lt
      have hX0 : w.heap.size ≠ w1.heap.size := by omega
      have hX3 : w3.heap.size ≠ w1.heap.size := by omega
      have bxa := (((((((bx4.setOther hX0 0 (.int .i64 1)).setOther hX0 1 (.int .i64 0)).setOther hX0 2 (.int .i64 zz)).setOther hX0 3 (.slice (some ⟨B1, 0, none⟩) 3 3)).setOther hX0 4 (.slice (some ⟨B2, 0, none⟩) 2 2)).setOther hX0 5 (.int .i64 K))).below ((Below.refl _ _).drew)
      have fba := (((((((fb4.setOther hX3 0 (.int .i64 1)).setOther hX3 1 (.int .i64 0)).setOther hX3 2 (.int .i64 zz)).setOther hX3 3 (.slice (some ⟨B1, 0, none⟩) 3 3)).setOther hX3 4 (.slice (some ⟨B2, 0, none⟩) 2 2)).setOther hX3 5 (.int .i64 K))).below ((Below.refl _ _).drew)
      have cba := (((((((cb4.set 0 (.int .i64 1)).set 1 (.int .i64 0)).set 2 (.int .i64 zz)).set 3 (.slice (some ⟨B1, 0, none⟩) 3 3)).set 4 (.slice (some ⟨B2, 0, none⟩) 2 2)).set 5 (.int .i64 K))).below ((Below.refl _ _).drew)
      simp only [List.set_cons_zero, List.set_cons_succ] at cba
      have BWa := (((((((BW4.setCell (p := ⟨w1.heap.size, 0, none⟩) (Nat.le_of_lt ltw) (.int .i64 1)).setCell (p := ⟨w1.heap.size, 1, none⟩) (Nat.le_of_lt ltw) (.int .i64 0)).setCell (p := ⟨w1.heap.size, 2, none⟩) (Nat.le_of_lt ltw) (.int .i64 zz)).setCell (p := ⟨w1.heap.size, 3, none⟩) (Nat.le_of_lt ltw) (.slice (some ⟨B1, 0, none⟩) 3 3)).setCell (p := ⟨w1.heap.size, 4, none⟩) (Nat.le_of_lt ltw) (.slice (some ⟨B2, 0, none⟩) 2 2)).setCell (p := ⟨w1.heap.size, 5, none⟩) (Nat.le_of_lt ltw) (.int .i64 K))).drew
      have n1 := blk_ne kk1 cb4 (by rw [HL1.out]; decide)
      have n2 := blk_ne kk2 cb4 (by rw [HL2.out]; decide)
      have kd1 := (((((((kk1.setOther n1 0 (.int .i64 1)).setOther n1 1 (.int .i64 0)).setOther n1 2 (.int .i64 zz)).setOther n1 3 (.slice (some ⟨B1, 0, none⟩) 3 3)).setOther n1 4 (.slice (some ⟨B2, 0, none⟩) 2 2)).setOther n1 5 (.int .i64 K))).below ((Below.refl _ _).drew)
      have kd2 := (((((((kk2.setOther n2 0 (.int .i64 1)).setOther n2 1 (.int .i64 0)).setOther n2 2 (.int .i64 zz)).setOther n2 3 (.slice (some ⟨B1, 0, none⟩) 3 3)).setOther n2 4 (.slice (some ⟨B2, 0, none⟩) 2 2)).setOther n2 5 (.int .i64 K))).below ((Below.refl _ _).drew)
      clear kk1 kk2
      refine wpAnyE_one (i := 4) (by kernel_rfl) rfl (fun Kn hK => ?_)
      go_simp
      obtain ⟨wa, hwa⟩ : ∃ W, W = ((((((W4.setCell ⟨w1.heap.size, 0, none⟩ (.int .i64 1)).setCell ⟨w1.heap.size, 1, none⟩ (.int .i64 0)).setCell ⟨w1.heap.size, 2, none⟩ (.int .i64 zz)).setCell ⟨w1.heap.size, 3, none⟩ (.slice (some ⟨B1, 0, none⟩) 3 3)).setCell ⟨w1.heap.size, 4, none⟩ (.slice (some ⟨B2, 0, none⟩) 2 2)).setCell ⟨w1.heap.size, 5, none⟩ (.int .i64 K)).drew := ⟨_, rfl⟩
      rw [← hwa] at bxa fba cba BWa kd1 kd2 ⊢
      clear hwa bx4 cb4 BW4 fb4 c0 c1 c2 c3 c4 c5 y0 y1 y2 y3 y4 y5 lt_cb4 lt_fb4
      refine hK.out _ _ ⟨⟨fba.cell 0, fba.cell 1, fba.cell 2⟩, fun _ => trivial⟩ ?_
      clear hK hS0
      refine wpAnyE_done (by kernel_rfl) ?_ _
      clear fba al4
      have kk1 := kd1
      have kk2 := kd2
      clear kd1 kd2
      obtain ⟨T, hT⟩ : ∃ T, actText (1, 0, zz, C, D, K) = T := ⟨_, rfl⟩
      have HT : Hid _ := hT
      clear hT
      obtain ⟨d0, d1, d2, d3, d4, d5⟩ := cba.six
      go_wp2_with fail
      refine (satext_any _ _ _ _ _ _ _ _ _ _ C D _ (kk1.ints' HL1.out) (kk2.ints' HL2.out) (by omega) (by omega)).mono ?_
      rintro e wb ⟨rfl, bb⟩
      rw [HT.out]
      have bxb := bxa.below bb
      have cbb := cba.below bb
      have BWb := BWa.trans (bb.mono BWa.size)
      have kb1 := kk1.below bb
      have kb2 := kk2.below bb
      clear bxa cba BWa bb d0 d1 d2 d3 d4 d5 kk1 kk2
      obtain ⟨r0, r1, r2, r3, r4, r5⟩ := bxb.six
      obtain ⟨f0, f1, f2, f3, f4, f5⟩ := bxb.frees
      have lt_bxb := bxb.lt
      obtain ⟨d0, d1, d2, d3, d4, d5⟩ := cbb.six
      by_cases h0 : T = []
      · have hm : T.isEmpty = true := by rw [h0]; rfl
        have HR : Hid (raS l = noA) := by show _ = _; rw [raS, HLS.out, if_neg (fun h => h.1 (by rw [HT.out]; exact h0))]
        clear h0
        go_wp2
        refine bodyPost_ret (v := .tuple #[lineV 0 0 0 none 0 0 none 0 0 0, .bool false]) (by simp [results, Tryz.results16, go_sem, r0, r1, r2, r3, r4, r5]) rfl ⟨0, 0, 0, [], [], 0, none, 0, 0, none, 0, 0, false, rfl, ?_, no_ints _ _, no_ints _ _, HR.out⟩
        exact (((((BWb.setCell (Nat.le_refl _) _).setCell (Nat.le_refl _) _).setCell (Nat.le_refl _) _).setCell (Nat.le_refl _) _).setCell (Nat.le_refl _) _).setCell (Nat.le_refl _) _
      have hm : T.isEmpty = false := by cases T with | nil => exact absurd rfl h0 | cons a b => rfl
      have H0 : Hid _ := h0
      clear h0
      go_wp2_with fail
      refine (satext_any _ _ _ _ _ _ _ _ _ _ C D _ (kb1.ints' HL1.out) (kb2.ints' HL2.out) (by omega) (by omega)).mono ?_
      rintro e wq ⟨rfl, bc⟩
      rw [HT.out]
      have bxc := bxb.below bc
      have cbc := cbb.below bc
      have BWc := BWb.trans (bc.mono BWb.size)
      have kc1 := kb1.below bc
      have kc2 := kb2.below bc
      clear bxb cbb BWb bc d0 d1 d2 d3 d4 d5 r0 r1 r2 r3 r4 r5 f0 f1 f2 f3 f4 f5 lt_bxb kb1 kb2
      obtain ⟨r0, r1, r2, r3, r4, r5⟩ := bxc.six
      obtain ⟨f0, f1, f2, f3, f4, f5⟩ := bxc.frees
      have lt_bxc := bxc.lt
      obtain ⟨d0, d1, d2, d3, d4, d5⟩ := cbc.six
      have lt_cbc := cbc.lt
      by_cases he : T = l
      · have hE : (T == l) = true := by rw [he]; simp
        have hE2 : (T != l) = false := by rw [he]; simp
        have HR : Hid (raS l = ((1, 0, zz, C, D, K), true)) := by show _ = _; rw [raS, HLS.out, if_pos ⟨by rw [HT.out]; exact H0.out, by rw [HT.out]; exact he⟩]
        clear he
        go_wp2
        refine bodyPost_ret (v := .tuple #[lineV 1 0 zz (some ⟨B1, 0, none⟩) 3 3 (some ⟨B2, 0, none⟩) 2 2 K, .bool true]) (by simp [results, Tryz.results16, go_sem, r0, r1, r2, r3, r4, r5]) rfl ⟨1, 0, zz, C, D, K, _, _, _, _, _, _, true, rfl, ?_, ?_, ?_, HR.out⟩
        · exact (((((BWc.setCell (Nat.le_refl _) _).setCell (Nat.le_refl _) _).setCell (Nat.le_refl _) _).setCell (Nat.le_refl _) _).setCell (Nat.le_refl _) _).setCell (Nat.le_refl _) _
        · have hX := blk_ne kc1 bxc (by rw [HL1.out]; decide)
          exact ((((((kc1.setOther hX _ _).setOther hX _ _).setOther hX _ _).setOther hX _ _).setOther hX _ _).setOther hX _ _).ints' HL1.out
        · have hX := blk_ne kc2 bxc (by rw [HL2.out]; decide)
          exact ((((((kc2.setOther hX _ _).setOther hX _ _).setOther hX _ _).setOther hX _ _).setOther hX _ _).setOther hX _ _).ints' HL2.out
      · have hE : (T == l) = false := by simpa using he
        have hE2 : (T != l) = true := by simpa using he
        have HR : Hid (raS l = noA) := by show _ = _; rw [raS, HLS.out, if_neg (fun h => he (by rw [← HT.out]; exact h.2))]
        clear he
        go_wp2
        refine bodyPost_ret (v := .tuple #[lineV 0 0 0 none 0 0 none 0 0 0, .bool false]) (by simp [results, Tryz.results16, go_sem, r0, r1, r2, r3, r4, r5]) rfl ⟨0, 0, 0, [], [], 0, none, 0, 0, none, 0, 0, false, rfl, ?_, no_ints _ _, no_ints _ _, HR.out⟩
        exact (((((BWc.setCell (Nat.le_refl _) _).setCell (Nat.le_refl _) _).setCell (Nat.le_refl _) _).setCell (Nat.le_refl _) _).setCell (Nat.le_refl _) _).setCell (Nat.le_refl _) _
    · have b23 := b2.trans (b3.mono b2.size)
      have lw3 : w1.heap.size < w3.heap.size := Nat.lt_of_lt_of_le cbs.lt b23.size
      have HLS : Hid (lineS l = (1, 0, atW (wordsOf l) 1, [], [], 0)) := ls_one (w := []) h120 HWS.out HE.out hF
      obtain ⟨zz, hzz⟩ : ∃ z, z = atW (wordsOf l) 1 := ⟨_, rfl⟩
      rw [← hzz] at HLS
      have HZZ : Hid _ := hzz
      clear hzz hF
      have bx4 := (bxs.below b23).alloc (.cells #[.slice none 0 0, .slice none 0 0, .int .i64 0] 34)
      have cb4 := (cbs.below b23).alloc (.cells #[.slice none 0 0, .slice none 0 0, .int .i64 0] 34)
      have B3a := BWs.trans (b23.mono BWs.size)
      have BW4 := B3a.alloc B3a.size (.cells #[.slice none 0 0, .slice none 0 0, .int .i64 0] 34)
      have fb4 := Cel.new w3 [.slice none 0 0, .slice none 0 0, .int .i64 0] 34
      have al4 : Below w1.heap.size w1 (w3.alloc (.cells #[.slice none 0 0, .slice none 0 0, .int .i64 0] 34)) := (al.trans (b23.mono al.size)).alloc (al.trans (b23.mono al.size)).size (.cells #[.slice none 0 0, .slice none 0 0, .int .i64 0] 34)
      obtain ⟨W4, hW4⟩ : ∃ W, W = w3.alloc (.cells #[.slice none 0 0, .slice none 0 0, .int .i64 0] 34) := ⟨_, rfl⟩
      go_upto_region 7 with fail
      rw [← hW4] at bx4 cb4 BW4 fb4 al4 ⊢
      clear hW4 b2 b3 b23 B3a bxs cbs BWs
      have hS0 : (W4.drew.cell? ⟨w3.heap.size, 0, none⟩ = some (.slice none 0 0) ∧ W4.drew.cell? ⟨w3.heap.size, 1, none⟩ = some (.slice none 0 0) ∧ W4.drew.cell? ⟨w3.heap.size, 2, none⟩ = some (.int .i64 0)) ∧ True := ⟨⟨fb4.cell 0, fb4.cell 1, fb4.cell 2⟩, trivial⟩
      refine wp_region_ends (fun X => X.cell? ⟨w3.heap.size, 0, none⟩ = some (.slice none 0 0) ∧ X.cell? ⟨w3.heap.size, 1, none⟩ = some (.slice none 0 0) ∧ X.cell? ⟨w3.heap.size, 2, none⟩ = some (.int .i64 0)) (fun _ => True) 4 (by kernel_rfl) ?_
      refine wpAnyE_take0 (i := 0) (v := ?tanv0) rfl (by kernel_rfl) (by kernel_rfl) (by kernel_rfl) (by decide) (fun _ _ _ h => h) (Or.inl ⟨by rfl, ?tanhy0⟩) hS0 ?_
      case tanhy0 => (intro wz hSw; (try dsimp only at hSw); go_simp; try (with_reducible rfl))
      refine wpAnyE_take0 (i := 2) (v := ?tanv2) rfl (by kernel_rfl) (by kernel_rfl) (by kernel_rfl) (by decide) (fun _ _ _ h => h) (Or.inl ⟨by rfl, ?tanhy2⟩) hS0 ?_
      case tanhy2 => (intro wz hSw; (try dsimp only at hSw); go_simp; try (with_reducible rfl))
      refine wpAnyE_one (i := 1) (by kernel_rfl) rfl (fun Kn hK => ?_)
      go_simp
      refine (l2at_all (wordsOf l) g q gc 1 _ HQ.out HS1.out (fun x hx => by
        show W4.cell? ⟨g, 1, none⟩ = _
        rw [al4.cell (p := ⟨g, 1, none⟩) hg]; exact HCS.out 1 x hx)).mono ?_
      rintro ee w5 ⟨rfl, rfl⟩
      rw [← HZZ.out]
      dsimp only
      refine hK.out _ _ ⟨hS0.1, fun _ => trivial⟩ ?_
      clear hK
      refine wpAnyE_take0 (i := 3) (v := ?tanv3) rfl (by kernel_rfl) (by kernel_rfl) (by kernel_rfl) (by decide) (fun _ _ _ h => h) (Or.inl ⟨by rfl, ?tanhy3⟩) hS0 ?_
      case tanhy3 => (intro wz hSw; (try dsimp only at hSw); go_simp; try (with_reducible rfl))
      obtain ⟨c0, c1, c2, c3, c4, c5⟩ := cb4.six
      obtain ⟨y0, y1, y2, y3, y4, y5⟩ := cb4.frees
      have lt_cb4 := cb4.lt
      have lt_fb4 := fb4.lt
      have hX0 : w.heap.size ≠ w1.heap.size := by omega
      have hX3 : w3.heap.size ≠ w1.heap.size := by omega
      have bxa := (((((((bx4.setOther hX0 0 (.int .i64 1)).setOther hX0 1 (.int .i64 0)).setOther hX0 2 (.int .i64 zz)).setOther hX0 3 (.slice none 0 0)).setOther hX0 4 (.slice none 0 0)).setOther hX0 5 (.int .i64 0))).below ((Below.refl _ _).drew)
      have fba := (((((((fb4.setOther hX3 0 (.int .i64 1)).setOther hX3 1 (.int .i64 0)).setOther hX3 2 (.int .i64 zz)).setOther hX3 3 (.slice none 0 0)).setOther hX3 4 (.slice none 0 0)).setOther hX3 5 (.int .i64 0))).below ((Below.refl _ _).drew)
      have cba := (((((((cb4.set 0 (.int .i64 1)).set 1 (.int .i64 0)).set 2 (.int .i64 zz)).set 3 (.slice none 0 0)).set 4 (.slice none 0 0)).set 5 (.int .i64 0))).below ((Below.refl _ _).drew)
      simp only [List.set_cons_zero, List.set_cons_succ] at cba
      have BWa := (((((((BW4.setCell (p := ⟨w1.heap.size, 0, none⟩) (Nat.le_of_lt ltw) (.int .i64 1)).setCell (p := ⟨w1.heap.size, 1, none⟩) (Nat.le_of_lt ltw) (.int .i64 0)).setCell (p := ⟨w1.heap.size, 2, none⟩) (Nat.le_of_lt ltw) (.int .i64 zz)).setCell (p := ⟨w1.heap.size, 3, none⟩) (Nat.le_of_lt ltw) (.slice none 0 0)).setCell (p := ⟨w1.heap.size, 4, none⟩) (Nat.le_of_lt ltw) (.slice none 0 0)).setCell (p := ⟨w1.heap.size, 5, none⟩) (Nat.le_of_lt ltw) (.int .i64 0))).drew
      refine wpAnyE_one (i := 4) (by kernel_rfl) rfl (fun Kn hK => ?_)
      go_simp
      obtain ⟨wa, hwa⟩ : ∃ W, W = ((((((W4.setCell ⟨w1.heap.size, 0, none⟩ (.int .i64 1)).setCell ⟨w1.heap.size, 1, none⟩ (.int .i64 0)).setCell ⟨w1.heap.size, 2, none⟩ (.int .i64 zz)).setCell ⟨w1.heap.size, 3, none⟩ (.slice none 0 0)).setCell ⟨w1.heap.size, 4, none⟩ (.slice none 0 0)).setCell ⟨w1.heap.size, 5, none⟩ (.int .i64 0)).drew := ⟨_, rfl⟩
      rw [← hwa] at bxa fba cba BWa ⊢
      clear hwa bx4 cb4 BW4 fb4 c0 c1 c2 c3 c4 c5 y0 y1 y2 y3 y4 y5 lt_cb4 lt_fb4
      refine hK.out _ _ ⟨⟨fba.cell 0, fba.cell 1, fba.cell 2⟩, fun _ => trivial⟩ ?_
      clear hK hS0
      refine wpAnyE_done (by kernel_rfl) ?_ _
      clear fba al4
      obtain ⟨T, hT⟩ : ∃ T, actText (1, 0, zz, [], [], 0) = T := ⟨_, rfl⟩
      have HT : Hid _ := hT
      clear hT
      obtain ⟨d0, d1, d2, d3, d4, d5⟩ := cba.six
      go_wp2_with fail
      refine (satext_any _ _ _ _ _ _ _ _ _ _ [] [] _ (no_ints _ _) (no_ints _ _) (by omega) (by omega)).mono ?_
      rintro e wb ⟨rfl, bb⟩
      rw [HT.out]
      have bxb := bxa.below bb
      have cbb := cba.below bb
      have BWb := BWa.trans (bb.mono BWa.size)
      clear bxa cba BWa bb d0 d1 d2 d3 d4 d5
      obtain ⟨r0, r1, r2, r3, r4, r5⟩ := bxb.six
      obtain ⟨f0, f1, f2, f3, f4, f5⟩ := bxb.frees
      have lt_bxb := bxb.lt
      obtain ⟨d0, d1, d2, d3, d4, d5⟩ := cbb.six
      by_cases h0 : T = []
      · have hm : T.isEmpty = true := by rw [h0]; rfl
        have HR : Hid (raS l = noA) := by show _ = _; rw [raS, HLS.out, if_neg (fun h => h.1 (by rw [HT.out]; exact h0))]
        clear h0
        go_wp2
        refine bodyPost_ret (v := .tuple #[lineV 0 0 0 none 0 0 none 0 0 0, .bool false]) (by simp [results, Tryz.results16, go_sem, r0, r1, r2, r3, r4, r5]) rfl ⟨0, 0, 0, [], [], 0, none, 0, 0, none, 0, 0, false, rfl, ?_, no_ints _ _, no_ints _ _, HR.out⟩
        exact (((((BWb.setCell (Nat.le_refl _) _).setCell (Nat.le_refl _) _).setCell (Nat.le_refl _) _).setCell (Nat.le_refl _) _).setCell (Nat.le_refl _) _).setCell (Nat.le_refl _) _
      have hm : T.isEmpty = false := by cases T with | nil => exact absurd rfl h0 | cons a b => rfl
      have H0 : Hid _ := h0
      clear h0
      go_wp2_with fail
      refine (satext_any _ _ _ _ _ _ _ _ _ _ [] [] _ (no_ints _ _) (no_ints _ _) (by omega) (by omega)).mono ?_
      rintro e wq ⟨rfl, bc⟩
      rw [HT.out]
      have bxc := bxb.below bc
      have cbc := cbb.below bc
      have BWc := BWb.trans (bc.mono BWb.size)
      clear bxb cbb BWb bc d0 d1 d2 d3 d4 d5 r0 r1 r2 r3 r4 r5 f0 f1 f2 f3 f4 f5 lt_bxb
      obtain ⟨r0, r1, r2, r3, r4, r5⟩ := bxc.six
      obtain ⟨f0, f1, f2, f3, f4, f5⟩ := bxc.frees
      have lt_bxc := bxc.lt
      obtain ⟨d0, d1, d2, d3, d4, d5⟩ := cbc.six
      have lt_cbc := cbc.lt
      by_cases he : T = l
      · have hE : (T == l) = true := by rw [he]; simp
        have hE2 : (T != l) = false := by rw [he]; simp
        have HR : Hid (raS l = ((1, 0, zz, [], [], 0), true)) := by show _ = _; rw [raS, HLS.out, if_pos ⟨by rw [HT.out]; exact H0.out, by rw [HT.out]; exact he⟩]
        clear he
        go_wp2
        refine bodyPost_ret (v := .tuple #[lineV 1 0 zz none 0 0 none 0 0 0, .bool true]) (by simp [results, Tryz.results16, go_sem, r0, r1, r2, r3, r4, r5]) rfl ⟨1, 0, zz, [], [], 0, _, _, _, _, _, _, true, rfl, ?_, ?_, ?_, HR.out⟩
        · exact (((((BWc.setCell (Nat.le_refl _) _).setCell (Nat.le_refl _) _).setCell (Nat.le_refl _) _).setCell (Nat.le_refl _) _).setCell (Nat.le_refl _) _).setCell (Nat.le_refl _) _
        · exact no_ints _ _
        · exact no_ints _ _
      · have hE : (T == l) = false := by simpa using he
        have hE2 : (T != l) = true := by simpa using he
        have HR : Hid (raS l = noA) := by show _ = _; rw [raS, HLS.out, if_neg (fun h => he (by rw [← HT.out]; exact h.2))]
        clear he
        go_wp2
        refine bodyPost_ret (v := .tuple #[lineV 0 0 0 none 0 0 none 0 0 0, .bool false]) (by simp [results, Tryz.results16, go_sem, r0, r1, r2, r3, r4, r5]) rfl ⟨0, 0, 0, [], [], 0, none, 0, 0, none, 0, 0, false, rfl, ?_, no_ints _ _, no_ints _ _, HR.out⟩
        exact (((((BWc.setCell (Nat.le_refl _) _).setCell (Nat.le_refl _) _).setCell (Nat.le_refl _) _).setCell (Nat.le_refl _) _).setCell (Nat.le_refl _) _).setCell (Nat.le_refl _) _
  have N1 : Hid _ := h_testW
  have hp_testW : ¬ x0 = [116, 101, 115, 116] := h_testW
  have hq_testW : (x0 == [116, 101, 115, 116]) = false := by simpa using hp_testW
  clear h_testW
  by_cases h_addW : x0 = addW
  · have HE : Hid _ := h_addW
    have hp_addW : x0 = [97, 100, 100] := h_addW
    have hq_addW : (x0 == [97, 100, 100]) = true := by rw [hp_addW]; rfl
    clear h_addW
    obtain ⟨Ws, hWs⟩ : ∃ W, W = w1.alloc (.cells #[.int .i64 4, .int .i64 0, .int .i64 0, .slice none 0 0, .slice none 0 0, .int .i64 0] 36) := ⟨_, rfl⟩
    go_wp2_with fail
    rw [← hWs]
    rw [← hWs] at bxs BWs cbs al g0
    clear hWs
    refine (srest_any l 2 _ (by omega) (by omega) h120).mono ?_
    rintro e w2 ⟨rfl, b2⟩
    go_wp2_with fail
    refine (sfread_any (restL 2 l) _).mono ?_
    rintro e w3 (⟨C, D, K, B1, B2, hF, rfl, l1, l2, b3, k1, k2⟩ | ⟨hF, rfl, b3⟩)
    · have b23 := b2.trans (b3.mono b2.size)
      have lw3 : w1.heap.size < w3.heap.size := Nat.lt_of_lt_of_le cbs.lt b23.size
      have HLS : Hid (lineS l = (2, atW (wordsOf l) 1, 0, C, D, K)) := ls_two h120 HWS.out N1.out HE.out hF
      have HL1 : Hid _ := l1
      have HL2 : Hid _ := l2
      obtain ⟨zz, hzz⟩ : ∃ z, z = atW (wordsOf l) 1 := ⟨_, rfl⟩
      rw [← hzz] at HLS
      have HZZ : Hid _ := hzz
      clear hzz hF l1 l2
      have bx4 := (bxs.below b23).alloc (.cells #[.slice (some ⟨B1, 0, none⟩) 3 3, .slice (some ⟨B2, 0, none⟩) 2 2, .int .i64 K] 34)
      have cb4 := (cbs.below b23).alloc (.cells #[.slice (some ⟨B1, 0, none⟩) 3 3, .slice (some ⟨B2, 0, none⟩) 2 2, .int .i64 K] 34)
      have B3a := BWs.trans (b23.mono BWs.size)
      have BW4 := B3a.alloc B3a.size (.cells #[.slice (some ⟨B1, 0, none⟩) 3 3, .slice (some ⟨B2, 0, none⟩) 2 2, .int .i64 K] 34)
      have fb4 := Cel.new w3 [.slice (some ⟨B1, 0, none⟩) 3 3, .slice (some ⟨B2, 0, none⟩) 2 2, .int .i64 K] 34
      have al4 : Below w1.heap.size w1 (w3.alloc (.cells #[.slice (some ⟨B1, 0, none⟩) 3 3, .slice (some ⟨B2, 0, none⟩) 2 2, .int .i64 K] 34)) := (al.trans (b23.mono al.size)).alloc (al.trans (b23.mono al.size)).size (.cells #[.slice (some ⟨B1, 0, none⟩) 3 3, .slice (some ⟨B2, 0, none⟩) 2 2, .int .i64 K] 34)
      have kk1 := k1.alloc (.cells #[.slice (some ⟨B1, 0, none⟩) 3 3, .slice (some ⟨B2, 0, none⟩) 2 2, .int .i64 K] 34)
      have kk2 := k2.alloc (.cells #[.slice (some ⟨B1, 0, none⟩) 3 3, .slice (some ⟨B2, 0, none⟩) 2 2, .int .i64 K] 34)
      obtain ⟨W4, hW4⟩ : ∃ W, W = w3.alloc (.cells #[.slice (some ⟨B1, 0, none⟩) 3 3, .slice (some ⟨B2, 0, none⟩) 2 2, .int .i64 K] 34) := ⟨_, rfl⟩
      go_upto_region 10 with fail
      rw [← hW4] at bx4 cb4 BW4 fb4 al4 kk1 kk2 ⊢
      clear hW4 b2 b3 b23 B3a bxs cbs BWs k1 k2
      have hS0 : (W4.drew.cell? ⟨w3.heap.size, 0, none⟩ = some (.slice (some ⟨B1, 0, none⟩) 3 3) ∧ W4.drew.cell? ⟨w3.heap.size, 1, none⟩ = some (.slice (some ⟨B2, 0, none⟩) 2 2) ∧ W4.drew.cell? ⟨w3.heap.size, 2, none⟩ = some (.int .i64 K)) ∧ True := ⟨⟨fb4.cell 0, fb4.cell 1, fb4.cell 2⟩, trivial⟩
      refine wp_region_ends (fun X => X.cell? ⟨w3.heap.size, 0, none⟩ = some (.slice (some ⟨B1, 0, none⟩) 3 3) ∧ X.cell? ⟨w3.heap.size, 1, none⟩ = some (.slice (some ⟨B2, 0, none⟩) 2 2) ∧ X.cell? ⟨w3.heap.size, 2, none⟩ = some (.int .i64 K)) (fun _ => True) 4 (by kernel_rfl) ?_
      refine wpAnyE_take0 (i := 0) (v := ?tbfv0) rfl (by kernel_rfl) (by kernel_rfl) (by kernel_rfl) (by decide) (fun _ _ _ h => h) (Or.inl ⟨by rfl, ?tbfhy0⟩) hS0 ?_
      case tbfhy0 => (intro wz hSw; (try dsimp only at hSw); go_simp; try (with_reducible rfl))
      refine wpAnyE_take0 (i := 2) (v := ?tbfv2) rfl (by kernel_rfl) (by kernel_rfl) (by kernel_rfl) (by decide) (fun _ _ _ h => h) (Or.inl ⟨by rfl, ?tbfhy2⟩) hS0 ?_
      case tbfhy2 => (intro wz hSw; (try dsimp only at hSw); go_simp; try (with_reducible rfl))
      refine wpAnyE_one (i := 1) (by kernel_rfl) rfl (fun Kn hK => ?_)
      go_simp
      refine (l2at_all (wordsOf l) g q gc 1 _ HQ.out HS1.out (fun x hx => by
        show W4.cell? ⟨g, 1, none⟩ = _
        rw [al4.cell (p := ⟨g, 1, none⟩) hg]; exact HCS.out 1 x hx)).mono ?_
      rintro ee w5 ⟨rfl, rfl⟩
      rw [← HZZ.out]
      dsimp only
      refine hK.out _ _ ⟨hS0.1, fun _ => trivial⟩ ?_
      clear hK
      refine wpAnyE_take0 (i := 3) (v := ?tbfv3) rfl (by kernel_rfl) (by kernel_rfl) (by kernel_rfl) (by decide) (fun _ _ _ h => h) (Or.inl ⟨by rfl, ?tbfhy3⟩) hS0 ?_
      case tbfhy3 => (intro wz hSw; (try dsimp only at hSw); go_simp; try (with_reducible rfl))
      obtain ⟨c0, c1, c2, c3, c4, c5⟩ := cb4.six
      obtain ⟨y0, y1, y2, y3, y4, y5⟩ := cb4.frees
      have lt_cb4 := cb4.lt
      have lt_fb4 := fb4.lt
      have hX0 : w.heap.size ≠ w1.heap.size := by omega
      have hX3 : w3.heap.size ≠ w1.heap.size := by omega
      have bxa := (((((((bx4.setOther hX0 0 (.int .i64 2)).setOther hX0 1 (.int .i64 zz)).setOther hX0 2 (.int .i64 0)).setOther hX0 3 (.slice (some ⟨B1, 0, none⟩) 3 3)).setOther hX0 4 (.slice (some ⟨B2, 0, none⟩) 2 2)).setOther hX0 5 (.int .i64 K))).below ((Below.refl _ _).drew)
      have fba := (((((((fb4.setOther hX3 0 (.int .i64 2)).setOther hX3 1 (.int .i64 zz)).setOther hX3 2 (.int .i64 0)).setOther hX3 3 (.slice (some ⟨B1, 0, none⟩) 3 3)).setOther hX3 4 (.slice (some ⟨B2, 0, none⟩) 2 2)).setOther hX3 5 (.int .i64 K))).below ((Below.refl _ _).drew)
      have cba := (((((((cb4.set 0 (.int .i64 2)).set 1 (.int .i64 zz)).set 2 (.int .i64 0)).set 3 (.slice (some ⟨B1, 0, none⟩) 3 3)).set 4 (.slice (some ⟨B2, 0, none⟩) 2 2)).set 5 (.int .i64 K))).below ((Below.refl _ _).drew)
      simp only [List.set_cons_zero, List.set_cons_succ] at cba
      have BWa := (((((((BW4.setCell (p := ⟨w1.heap.size, 0, none⟩) (Nat.le_of_lt ltw) (.int .i64 2)).setCell (p := ⟨w1.heap.size, 1, none⟩) (Nat.le_of_lt ltw) (.int .i64 zz)).setCell (p := ⟨w1.heap.size, 2, none⟩) (Nat.le_of_lt ltw) (.int .i64 0)).setCell (p := ⟨w1.heap.size, 3, none⟩) (Nat.le_of_lt ltw) (.slice (some ⟨B1, 0, none⟩) 3 3)).setCell (p := ⟨w1.heap.size, 4, none⟩) (Nat.le_of_lt ltw) (.slice (some ⟨B2, 0, none⟩) 2 2)).setCell (p := ⟨w1.heap.size, 5, none⟩) (Nat.le_of_lt ltw) (.int .i64 K))).drew
      have n1 := blk_ne kk1 cb4 (by rw [HL1.out]; decide)
      have n2 := blk_ne kk2 cb4 (by rw [HL2.out]; decide)
      have kd1 := (((((((kk1.setOther n1 0 (.int .i64 2)).setOther n1 1 (.int .i64 zz)).setOther n1 2 (.int .i64 0)).setOther n1 3 (.slice (some ⟨B1, 0, none⟩) 3 3)).setOther n1 4 (.slice (some ⟨B2, 0, none⟩) 2 2)).setOther n1 5 (.int .i64 K))).below ((Below.refl _ _).drew)
      have kd2 := (((((((kk2.setOther n2 0 (.int .i64 2)).setOther n2 1 (.int .i64 zz)).setOther n2 2 (.int .i64 0)).setOther n2 3 (.slice (some ⟨B1, 0, none⟩) 3 3)).setOther n2 4 (.slice (some ⟨B2, 0, none⟩) 2 2)).setOther n2 5 (.int .i64 K))).below ((Below.refl _ _).drew)
      clear kk1 kk2
      refine wpAnyE_one (i := 4) (by kernel_rfl) rfl (fun Kn hK => ?_)
      go_simp
      obtain ⟨wa, hwa⟩ : ∃ W, W = ((((((W4.setCell ⟨w1.heap.size, 0, none⟩ (.int .i64 2)).setCell ⟨w1.heap.size, 1, none⟩ (.int .i64 zz)).setCell ⟨w1.heap.size, 2, none⟩ (.int .i64 0)).setCell ⟨w1.heap.size, 3, none⟩ (.slice (some ⟨B1, 0, none⟩) 3 3)).setCell ⟨w1.heap.size, 4, none⟩ (.slice (some ⟨B2, 0, none⟩) 2 2)).setCell ⟨w1.heap.size, 5, none⟩ (.int .i64 K)).drew := ⟨_, rfl⟩
      rw [← hwa] at bxa fba cba BWa kd1 kd2 ⊢
      clear hwa bx4 cb4 BW4 fb4 c0 c1 c2 c3 c4 c5 y0 y1 y2 y3 y4 y5 lt_cb4 lt_fb4
      refine hK.out _ _ ⟨⟨fba.cell 0, fba.cell 1, fba.cell 2⟩, fun _ => trivial⟩ ?_
      clear hK hS0
      refine wpAnyE_done (by kernel_rfl) ?_ _
      clear fba al4
      have kk1 := kd1
      have kk2 := kd2
      clear kd1 kd2
      obtain ⟨T, hT⟩ : ∃ T, actText (2, zz, 0, C, D, K) = T := ⟨_, rfl⟩
      have HT : Hid _ := hT
      clear hT
      obtain ⟨d0, d1, d2, d3, d4, d5⟩ := cba.six
      go_wp2_with fail
      refine (satext_any _ _ _ _ _ _ _ _ _ _ C D _ (kk1.ints' HL1.out) (kk2.ints' HL2.out) (by omega) (by omega)).mono ?_
      rintro e wb ⟨rfl, bb⟩
      rw [HT.out]
      have bxb := bxa.below bb
      have cbb := cba.below bb
      have BWb := BWa.trans (bb.mono BWa.size)
      have kb1 := kk1.below bb
      have kb2 := kk2.below bb
      clear bxa cba BWa bb d0 d1 d2 d3 d4 d5 kk1 kk2
      obtain ⟨r0, r1, r2, r3, r4, r5⟩ := bxb.six
      obtain ⟨f0, f1, f2, f3, f4, f5⟩ := bxb.frees
      have lt_bxb := bxb.lt
      obtain ⟨d0, d1, d2, d3, d4, d5⟩ := cbb.six
      by_cases h0 : T = []
      · have hm : T.isEmpty = true := by rw [h0]; rfl
        have HR : Hid (raS l = noA) := by show _ = _; rw [raS, HLS.out, if_neg (fun h => h.1 (by rw [HT.out]; exact h0))]
        clear h0
        go_wp2
        refine bodyPost_ret (v := .tuple #[lineV 0 0 0 none 0 0 none 0 0 0, .bool false]) (by simp [results, Tryz.results16, go_sem, r0, r1, r2, r3, r4, r5]) rfl ⟨0, 0, 0, [], [], 0, none, 0, 0, none, 0, 0, false, rfl, ?_, no_ints _ _, no_ints _ _, HR.out⟩
        exact (((((BWb.setCell (Nat.le_refl _) _).setCell (Nat.le_refl _) _).setCell (Nat.le_refl _) _).setCell (Nat.le_refl _) _).setCell (Nat.le_refl _) _).setCell (Nat.le_refl _) _
      have hm : T.isEmpty = false := by cases T with | nil => exact absurd rfl h0 | cons a b => rfl
      have H0 : Hid _ := h0
      clear h0
      go_wp2_with fail
      refine (satext_any _ _ _ _ _ _ _ _ _ _ C D _ (kb1.ints' HL1.out) (kb2.ints' HL2.out) (by omega) (by omega)).mono ?_
      rintro e wq ⟨rfl, bc⟩
      rw [HT.out]
      have bxc := bxb.below bc
      have cbc := cbb.below bc
      have BWc := BWb.trans (bc.mono BWb.size)
      have kc1 := kb1.below bc
      have kc2 := kb2.below bc
      clear bxb cbb BWb bc d0 d1 d2 d3 d4 d5 r0 r1 r2 r3 r4 r5 f0 f1 f2 f3 f4 f5 lt_bxb kb1 kb2
      obtain ⟨r0, r1, r2, r3, r4, r5⟩ := bxc.six
      obtain ⟨f0, f1, f2, f3, f4, f5⟩ := bxc.frees
      have lt_bxc := bxc.lt
      obtain ⟨d0, d1, d2, d3, d4, d5⟩ := cbc.six
      have lt_cbc := cbc.lt
      by_cases he : T = l
      · have hE : (T == l) = true := by rw [he]; simp
        have hE2 : (T != l) = false := by rw [he]; simp
        have HR : Hid (raS l = ((2, zz, 0, C, D, K), true)) := by show _ = _; rw [raS, HLS.out, if_pos ⟨by rw [HT.out]; exact H0.out, by rw [HT.out]; exact he⟩]
        clear he
        go_wp2
        refine bodyPost_ret (v := .tuple #[lineV 2 zz 0 (some ⟨B1, 0, none⟩) 3 3 (some ⟨B2, 0, none⟩) 2 2 K, .bool true]) (by simp [results, Tryz.results16, go_sem, r0, r1, r2, r3, r4, r5]) rfl ⟨2, zz, 0, C, D, K, _, _, _, _, _, _, true, rfl, ?_, ?_, ?_, HR.out⟩
        · exact (((((BWc.setCell (Nat.le_refl _) _).setCell (Nat.le_refl _) _).setCell (Nat.le_refl _) _).setCell (Nat.le_refl _) _).setCell (Nat.le_refl _) _).setCell (Nat.le_refl _) _
        · have hX := blk_ne kc1 bxc (by rw [HL1.out]; decide)
          exact ((((((kc1.setOther hX _ _).setOther hX _ _).setOther hX _ _).setOther hX _ _).setOther hX _ _).setOther hX _ _).ints' HL1.out
        · have hX := blk_ne kc2 bxc (by rw [HL2.out]; decide)
          exact ((((((kc2.setOther hX _ _).setOther hX _ _).setOther hX _ _).setOther hX _ _).setOther hX _ _).setOther hX _ _).ints' HL2.out
      · have hE : (T == l) = false := by simpa using he
        have hE2 : (T != l) = true := by simpa using he
        have HR : Hid (raS l = noA) := by show _ = _; rw [raS, HLS.out, if_neg (fun h => he (by rw [← HT.out]; exact h.2))]
        clear he
        go_wp2
        refine bodyPost_ret (v := .tuple #[lineV 0 0 0 none 0 0 none 0 0 0, .bool false]) (by simp [results, Tryz.results16, go_sem, r0, r1, r2, r3, r4, r5]) rfl ⟨0, 0, 0, [], [], 0, none, 0, 0, none, 0, 0, false, rfl, ?_, no_ints _ _, no_ints _ _, HR.out⟩
        exact (((((BWc.setCell (Nat.le_refl _) _).setCell (Nat.le_refl _) _).setCell (Nat.le_refl _) _).setCell (Nat.le_refl _) _).setCell (Nat.le_refl _) _).setCell (Nat.le_refl _) _
    · have b23 := b2.trans (b3.mono b2.size)
      have lw3 : w1.heap.size < w3.heap.size := Nat.lt_of_lt_of_le cbs.lt b23.size
      have HLS : Hid (lineS l = (2, atW (wordsOf l) 1, 0, [], [], 0)) := ls_two h120 HWS.out N1.out HE.out hF
      obtain ⟨zz, hzz⟩ : ∃ z, z = atW (wordsOf l) 1 := ⟨_, rfl⟩
      rw [← hzz] at HLS
      have HZZ : Hid _ := hzz
      clear hzz hF
      have bx4 := (bxs.below b23).alloc (.cells #[.slice none 0 0, .slice none 0 0, .int .i64 0] 34)
      have cb4 := (cbs.below b23).alloc (.cells #[.slice none 0 0, .slice none 0 0, .int .i64 0] 34)
      have B3a := BWs.trans (b23.mono BWs.size)
      have BW4 := B3a.alloc B3a.size (.cells #[.slice none 0 0, .slice none 0 0, .int .i64 0] 34)
      have fb4 := Cel.new w3 [.slice none 0 0, .slice none 0 0, .int .i64 0] 34
      have al4 : Below w1.heap.size w1 (w3.alloc (.cells #[.slice none 0 0, .slice none 0 0, .int .i64 0] 34)) := (al.trans (b23.mono al.size)).alloc (al.trans (b23.mono al.size)).size (.cells #[.slice none 0 0, .slice none 0 0, .int .i64 0] 34)
      obtain ⟨W4, hW4⟩ : ∃ W, W = w3.alloc (.cells #[.slice none 0 0, .slice none 0 0, .int .i64 0] 34) := ⟨_, rfl⟩
      go_upto_region 10 with fail
      rw [← hW4] at bx4 cb4 BW4 fb4 al4 ⊢
      clear hW4 b2 b3 b23 B3a bxs cbs BWs
      have hS0 : (W4.drew.cell? ⟨w3.heap.size, 0, none⟩ = some (.slice none 0 0) ∧ W4.drew.cell? ⟨w3.heap.size, 1, none⟩ = some (.slice none 0 0) ∧ W4.drew.cell? ⟨w3.heap.size, 2, none⟩ = some (.int .i64 0)) ∧ True := ⟨⟨fb4.cell 0, fb4.cell 1, fb4.cell 2⟩, trivial⟩
      refine wp_region_ends (fun X => X.cell? ⟨w3.heap.size, 0, none⟩ = some (.slice none 0 0) ∧ X.cell? ⟨w3.heap.size, 1, none⟩ = some (.slice none 0 0) ∧ X.cell? ⟨w3.heap.size, 2, none⟩ = some (.int .i64 0)) (fun _ => True) 4 (by kernel_rfl) ?_
      refine wpAnyE_take0 (i := 0) (v := ?tbnv0) rfl (by kernel_rfl) (by kernel_rfl) (by kernel_rfl) (by decide) (fun _ _ _ h => h) (Or.inl ⟨by rfl, ?tbnhy0⟩) hS0 ?_
      case tbnhy0 => (intro wz hSw; (try dsimp only at hSw); go_simp; try (with_reducible rfl))
      refine wpAnyE_take0 (i := 2) (v := ?tbnv2) rfl (by kernel_rfl) (by kernel_rfl) (by kernel_rfl) (by decide) (fun _ _ _ h => h) (Or.inl ⟨by rfl, ?tbnhy2⟩) hS0 ?_
      case tbnhy2 => (intro wz hSw; (try dsimp only at hSw); go_simp; try (with_reducible rfl))
      refine wpAnyE_one (i := 1) (by kernel_rfl) rfl (fun Kn hK => ?_)
      go_simp
      refine (l2at_all (wordsOf l) g q gc 1 _ HQ.out HS1.out (fun x hx => by
        show W4.cell? ⟨g, 1, none⟩ = _
        rw [al4.cell (p := ⟨g, 1, none⟩) hg]; exact HCS.out 1 x hx)).mono ?_
      rintro ee w5 ⟨rfl, rfl⟩
      rw [← HZZ.out]
      dsimp only
      refine hK.out _ _ ⟨hS0.1, fun _ => trivial⟩ ?_
      clear hK
      refine wpAnyE_take0 (i := 3) (v := ?tbnv3) rfl (by kernel_rfl) (by kernel_rfl) (by kernel_rfl) (by decide) (fun _ _ _ h => h) (Or.inl ⟨by rfl, ?tbnhy3⟩) hS0 ?_
      case tbnhy3 => (intro wz hSw; (try dsimp only at hSw); go_simp; try (with_reducible rfl))
      obtain ⟨c0, c1, c2, c3, c4, c5⟩ := cb4.six
      obtain ⟨y0, y1, y2, y3, y4, y5⟩ := cb4.frees
      have lt_cb4 := cb4.lt
      have lt_fb4 := fb4.lt
      have hX0 : w.heap.size ≠ w1.heap.size := by omega
      have hX3 : w3.heap.size ≠ w1.heap.size := by omega
      have bxa := (((((((bx4.setOther hX0 0 (.int .i64 2)).setOther hX0 1 (.int .i64 zz)).setOther hX0 2 (.int .i64 0)).setOther hX0 3 (.slice none 0 0)).setOther hX0 4 (.slice none 0 0)).setOther hX0 5 (.int .i64 0))).below ((Below.refl _ _).drew)
      have fba := (((((((fb4.setOther hX3 0 (.int .i64 2)).setOther hX3 1 (.int .i64 zz)).setOther hX3 2 (.int .i64 0)).setOther hX3 3 (.slice none 0 0)).setOther hX3 4 (.slice none 0 0)).setOther hX3 5 (.int .i64 0))).below ((Below.refl _ _).drew)
      have cba := (((((((cb4.set 0 (.int .i64 2)).set 1 (.int .i64 zz)).set 2 (.int .i64 0)).set 3 (.slice none 0 0)).set 4 (.slice none 0 0)).set 5 (.int .i64 0))).below ((Below.refl _ _).drew)
      simp only [List.set_cons_zero, List.set_cons_succ] at cba
      have BWa := (((((((BW4.setCell (p := ⟨w1.heap.size, 0, none⟩) (Nat.le_of_lt ltw) (.int .i64 2)).setCell (p := ⟨w1.heap.size, 1, none⟩) (Nat.le_of_lt ltw) (.int .i64 zz)).setCell (p := ⟨w1.heap.size, 2, none⟩) (Nat.le_of_lt ltw) (.int .i64 0)).setCell (p := ⟨w1.heap.size, 3, none⟩) (Nat.le_of_lt ltw) (.slice none 0 0)).setCell (p := ⟨w1.heap.size, 4, none⟩) (Nat.le_of_lt ltw) (.slice none 0 0)).setCell (p := ⟨w1.heap.size, 5, none⟩) (Nat.le_of_lt ltw) (.int .i64 0))).drew
      refine wpAnyE_one (i := 4) (by kernel_rfl) rfl (fun Kn hK => ?_)
      go_simp
      obtain ⟨wa, hwa⟩ : ∃ W, W = ((((((W4.setCell ⟨w1.heap.size, 0, none⟩ (.int .i64 2)).setCell ⟨w1.heap.size, 1, none⟩ (.int .i64 zz)).setCell ⟨w1.heap.size, 2, none⟩ (.int .i64 0)).setCell ⟨w1.heap.size, 3, none⟩ (.slice none 0 0)).setCell ⟨w1.heap.size, 4, none⟩ (.slice none 0 0)).setCell ⟨w1.heap.size, 5, none⟩ (.int .i64 0)).drew := ⟨_, rfl⟩
      rw [← hwa] at bxa fba cba BWa ⊢
      clear hwa bx4 cb4 BW4 fb4 c0 c1 c2 c3 c4 c5 y0 y1 y2 y3 y4 y5 lt_cb4 lt_fb4
      refine hK.out _ _ ⟨⟨fba.cell 0, fba.cell 1, fba.cell 2⟩, fun _ => trivial⟩ ?_
      clear hK hS0
      refine wpAnyE_done (by kernel_rfl) ?_ _
      clear fba al4
      obtain ⟨T, hT⟩ : ∃ T, actText (2, zz, 0, [], [], 0) = T := ⟨_, rfl⟩
      have HT : Hid _ := hT
      clear hT
      obtain ⟨d0, d1, d2, d3, d4, d5⟩ := cba.six
      go_wp2_with fail
      refine (satext_any _ _ _ _ _ _ _ _ _ _ [] [] _ (no_ints _ _) (no_ints _ _) (by omega) (by omega)).mono ?_
      rintro e wb ⟨rfl, bb⟩
      rw [HT.out]
      have bxb := bxa.below bb
      have cbb := cba.below bb
      have BWb := BWa.trans (bb.mono BWa.size)
      clear bxa cba BWa bb d0 d1 d2 d3 d4 d5
      obtain ⟨r0, r1, r2, r3, r4, r5⟩ := bxb.six
      obtain ⟨f0, f1, f2, f3, f4, f5⟩ := bxb.frees
      have lt_bxb := bxb.lt
      obtain ⟨d0, d1, d2, d3, d4, d5⟩ := cbb.six
      by_cases h0 : T = []
      · have hm : T.isEmpty = true := by rw [h0]; rfl
        have HR : Hid (raS l = noA) := by show _ = _; rw [raS, HLS.out, if_neg (fun h => h.1 (by rw [HT.out]; exact h0))]
        clear h0
        go_wp2
        refine bodyPost_ret (v := .tuple #[lineV 0 0 0 none 0 0 none 0 0 0, .bool false]) (by simp [results, Tryz.results16, go_sem, r0, r1, r2, r3, r4, r5]) rfl ⟨0, 0, 0, [], [], 0, none, 0, 0, none, 0, 0, false, rfl, ?_, no_ints _ _, no_ints _ _, HR.out⟩
        exact (((((BWb.setCell (Nat.le_refl _) _).setCell (Nat.le_refl _) _).setCell (Nat.le_refl _) _).setCell (Nat.le_refl _) _).setCell (Nat.le_refl _) _).setCell (Nat.le_refl _) _
      have hm : T.isEmpty = false := by cases T with | nil => exact absurd rfl h0 | cons a b => rfl
      have H0 : Hid _ := h0
      clear h0
      go_wp2_with fail
      refine (satext_any _ _ _ _ _ _ _ _ _ _ [] [] _ (no_ints _ _) (no_ints _ _) (by omega) (by omega)).mono ?_
      rintro e wq ⟨rfl, bc⟩
      rw [HT.out]
      have bxc := bxb.below bc
      have cbc := cbb.below bc
      have BWc := BWb.trans (bc.mono BWb.size)
      clear bxb cbb BWb bc d0 d1 d2 d3 d4 d5 r0 r1 r2 r3 r4 r5 f0 f1 f2 f3 f4 f5 lt_bxb
      obtain ⟨r0, r1, r2, r3, r4, r5⟩ := bxc.six
      obtain ⟨f0, f1, f2, f3, f4, f5⟩ := bxc.frees
      have lt_bxc := bxc.lt
      obtain ⟨d0, d1, d2, d3, d4, d5⟩ := cbc.six
      have lt_cbc := cbc.lt
      by_cases he : T = l
      · have hE : (T == l) = true := by rw [he]; simp
        have hE2 : (T != l) = false := by rw [he]; simp
        have HR : Hid (raS l = ((2, zz, 0, [], [], 0), true)) := by show _ = _; rw [raS, HLS.out, if_pos ⟨by rw [HT.out]; exact H0.out, by rw [HT.out]; exact he⟩]
        clear he
        go_wp2
        refine bodyPost_ret (v := .tuple #[lineV 2 zz 0 none 0 0 none 0 0 0, .bool true]) (by simp [results, Tryz.results16, go_sem, r0, r1, r2, r3, r4, r5]) rfl ⟨2, zz, 0, [], [], 0, _, _, _, _, _, _, true, rfl, ?_, ?_, ?_, HR.out⟩
        · exact (((((BWc.setCell (Nat.le_refl _) _).setCell (Nat.le_refl _) _).setCell (Nat.le_refl _) _).setCell (Nat.le_refl _) _).setCell (Nat.le_refl _) _).setCell (Nat.le_refl _) _
        · exact no_ints _ _
        · exact no_ints _ _
      · have hE : (T == l) = false := by simpa using he
        have hE2 : (T != l) = true := by simpa using he
        have HR : Hid (raS l = noA) := by show _ = _; rw [raS, HLS.out, if_neg (fun h => he (by rw [← HT.out]; exact h.2))]
        clear he
        go_wp2
        refine bodyPost_ret (v := .tuple #[lineV 0 0 0 none 0 0 none 0 0 0, .bool false]) (by simp [results, Tryz.results16, go_sem, r0, r1, r2, r3, r4, r5]) rfl ⟨0, 0, 0, [], [], 0, none, 0, 0, none, 0, 0, false, rfl, ?_, no_ints _ _, no_ints _ _, HR.out⟩
        exact (((((BWc.setCell (Nat.le_refl _) _).setCell (Nat.le_refl _) _).setCell (Nat.le_refl _) _).setCell (Nat.le_refl _) _).setCell (Nat.le_refl _) _).setCell (Nat.le_refl _) _
  have N2 : Hid _ := h_addW
  have hp_addW : ¬ x0 = [97, 100, 100] := h_addW
  have hq_addW : (x0 == [97, 100, 100]) = false := by simpa using hp_addW
  clear h_addW
  by_cases h_printW : x0 = printW
  · have HE : Hid _ := h_printW
    have hp_printW : x0 = [112, 114, 105, 110, 116] := h_printW
    have hq_printW : (x0 == [112, 114, 105, 110, 116]) = true := by rw [hp_printW]; rfl
    clear h_printW
    obtain ⟨Ws, hWs⟩ : ∃ W, W = w1.alloc (.cells #[.int .i64 4, .int .i64 0, .int .i64 0, .slice none 0 0, .slice none 0 0, .int .i64 0] 36) := ⟨_, rfl⟩
    go_wp2_with fail
    rw [← hWs]
    rw [← hWs] at bxs BWs cbs al g0
    clear hWs
    refine (srest_any l 1 _ (by omega) (by omega) h120).mono ?_
    rintro e w2 ⟨rfl, b2⟩
    go_wp2_with fail
    refine (sfread_any (restL 1 l) _).mono ?_
    rintro e w3 (⟨C, D, K, B1, B2, hF, rfl, l1, l2, b3, k1, k2⟩ | ⟨hF, rfl, b3⟩)
    · have b23 := b2.trans (b3.mono b2.size)
      have lw3 : w1.heap.size < w3.heap.size := Nat.lt_of_lt_of_le cbs.lt b23.size
      have HLS : Hid (lineS l = (3, 0, 0, C, D, K)) := ls_three h120 HWS.out N1.out N2.out HE.out hF
      have HL1 : Hid _ := l1
      have HL2 : Hid _ := l2
      clear hF l1 l2
      have bx4 := (bxs.below b23).alloc (.cells #[.slice (some ⟨B1, 0, none⟩) 3 3, .slice (some ⟨B2, 0, none⟩) 2 2, .int .i64 K] 34)
      have cb4 := (cbs.below b23).alloc (.cells #[.slice (some ⟨B1, 0, none⟩) 3 3, .slice (some ⟨B2, 0, none⟩) 2 2, .int .i64 K] 34)
      have B3a := BWs.trans (b23.mono BWs.size)
      have BW4 := B3a.alloc B3a.size (.cells #[.slice (some ⟨B1, 0, none⟩) 3 3, .slice (some ⟨B2, 0, none⟩) 2 2, .int .i64 K] 34)
      have fb4 := Cel.new w3 [.slice (some ⟨B1, 0, none⟩) 3 3, .slice (some ⟨B2, 0, none⟩) 2 2, .int .i64 K] 34
      have kk1 := k1.alloc (.cells #[.slice (some ⟨B1, 0, none⟩) 3 3, .slice (some ⟨B2, 0, none⟩) 2 2, .int .i64 K] 34)
      have kk2 := k2.alloc (.cells #[.slice (some ⟨B1, 0, none⟩) 3 3, .slice (some ⟨B2, 0, none⟩) 2 2, .int .i64 K] 34)
      obtain ⟨W4, hW4⟩ : ∃ W, W = w3.alloc (.cells #[.slice (some ⟨B1, 0, none⟩) 3 3, .slice (some ⟨B2, 0, none⟩) 2 2, .int .i64 K] 34) := ⟨_, rfl⟩
      go_upto_region 13 with fail
      rw [← hW4] at bx4 cb4 BW4 fb4 kk1 kk2 ⊢
      clear hW4 b2 b3 b23 B3a bxs cbs BWs al g0 k1 k2
      obtain ⟨c0, c1, c2, c3, c4, c5⟩ := cb4.six
      obtain ⟨y0, y1, y2, y3, y4, y5⟩ := cb4.frees
      have lt_cb4 := cb4.lt
      have lt_fb4 := fb4.lt
      have hX0 : w.heap.size ≠ w1.heap.size := by omega
      have u0 := fb4.cell 0
      have u1 := fb4.cell 1
      have u2 := fb4.cell 2
      simp only [List.getElem?_cons_zero, List.getElem?_cons_succ] at u0 u1 u2
      have bxa := ((((((bx4.setOther hX0 0 (.int .i64 3)).setOther hX0 1 (.int .i64 0)).setOther hX0 2 (.int .i64 0)).setOther hX0 3 (.slice (some ⟨B1, 0, none⟩) 3 3)).setOther hX0 4 (.slice (some ⟨B2, 0, none⟩) 2 2)).setOther hX0 5 (.int .i64 K))
      have cba := ((((((cb4.set 0 (.int .i64 3)).set 1 (.int .i64 0)).set 2 (.int .i64 0)).set 3 (.slice (some ⟨B1, 0, none⟩) 3 3)).set 4 (.slice (some ⟨B2, 0, none⟩) 2 2)).set 5 (.int .i64 K))
      simp only [List.set_cons_zero, List.set_cons_succ] at cba
      have BWa := ((((((BW4.setCell (p := ⟨w1.heap.size, 0, none⟩) (Nat.le_of_lt ltw) (.int .i64 3)).setCell (p := ⟨w1.heap.size, 1, none⟩) (Nat.le_of_lt ltw) (.int .i64 0)).setCell (p := ⟨w1.heap.size, 2, none⟩) (Nat.le_of_lt ltw) (.int .i64 0)).setCell (p := ⟨w1.heap.size, 3, none⟩) (Nat.le_of_lt ltw) (.slice (some ⟨B1, 0, none⟩) 3 3)).setCell (p := ⟨w1.heap.size, 4, none⟩) (Nat.le_of_lt ltw) (.slice (some ⟨B2, 0, none⟩) 2 2)).setCell (p := ⟨w1.heap.size, 5, none⟩) (Nat.le_of_lt ltw) (.int .i64 K))
      have n1 := blk_ne kk1 cb4 (by rw [HL1.out]; decide)
      have n2 := blk_ne kk2 cb4 (by rw [HL2.out]; decide)
      have kd1 := ((((((kk1.setOther n1 0 (.int .i64 3)).setOther n1 1 (.int .i64 0)).setOther n1 2 (.int .i64 0)).setOther n1 3 (.slice (some ⟨B1, 0, none⟩) 3 3)).setOther n1 4 (.slice (some ⟨B2, 0, none⟩) 2 2)).setOther n1 5 (.int .i64 K))
      have kd2 := ((((((kk2.setOther n2 0 (.int .i64 3)).setOther n2 1 (.int .i64 0)).setOther n2 2 (.int .i64 0)).setOther n2 3 (.slice (some ⟨B1, 0, none⟩) 3 3)).setOther n2 4 (.slice (some ⟨B2, 0, none⟩) 2 2)).setOther n2 5 (.int .i64 K))
      clear kk1 kk2
      have kk1 := kd1
      have kk2 := kd2
      clear kd1 kd2
      obtain ⟨wa, hwa⟩ : ∃ W, W = ((((((W4.setCell ⟨w1.heap.size, 0, none⟩ (.int .i64 3)).setCell ⟨w1.heap.size, 1, none⟩ (.int .i64 0)).setCell ⟨w1.heap.size, 2, none⟩ (.int .i64 0)).setCell ⟨w1.heap.size, 3, none⟩ (.slice (some ⟨B1, 0, none⟩) 3 3)).setCell ⟨w1.heap.size, 4, none⟩ (.slice (some ⟨B2, 0, none⟩) 2 2)).setCell ⟨w1.heap.size, 5, none⟩ (.int .i64 K)) := ⟨_, rfl⟩
      go_upto_region 14 with fail
      rw [← hwa] at bxa cba BWa kk1 kk2 ⊢
      clear hwa bx4 cb4 BW4 fb4 c0 c1 c2 c3 c4 c5 y0 y1 y2 y3 y4 y5 u0 u1 u2 lt_cb4 lt_fb4
      obtain ⟨T, hT⟩ : ∃ T, actText (3, 0, 0, C, D, K) = T := ⟨_, rfl⟩
      have HT : Hid _ := hT
      clear hT
      obtain ⟨d0, d1, d2, d3, d4, d5⟩ := cba.six
      go_wp2_with fail
      refine (satext_any _ _ _ _ _ _ _ _ _ _ C D _ (kk1.ints' HL1.out) (kk2.ints' HL2.out) (by omega) (by omega)).mono ?_
      rintro e wb ⟨rfl, bb⟩
      rw [HT.out]
      have bxb := bxa.below bb
      have cbb := cba.below bb
      have BWb := BWa.trans (bb.mono BWa.size)
      have kb1 := kk1.below bb
      have kb2 := kk2.below bb
      clear bxa cba BWa bb d0 d1 d2 d3 d4 d5 kk1 kk2
      obtain ⟨r0, r1, r2, r3, r4, r5⟩ := bxb.six
      obtain ⟨f0, f1, f2, f3, f4, f5⟩ := bxb.frees
      have lt_bxb := bxb.lt
      obtain ⟨d0, d1, d2, d3, d4, d5⟩ := cbb.six
      by_cases h0 : T = []
      · have hm : T.isEmpty = true := by rw [h0]; rfl
        have HR : Hid (raS l = noA) := by show _ = _; rw [raS, HLS.out, if_neg (fun h => h.1 (by rw [HT.out]; exact h0))]
        clear h0
        go_wp2
        refine bodyPost_ret (v := .tuple #[lineV 0 0 0 none 0 0 none 0 0 0, .bool false]) (by simp [results, Tryz.results16, go_sem, r0, r1, r2, r3, r4, r5]) rfl ⟨0, 0, 0, [], [], 0, none, 0, 0, none, 0, 0, false, rfl, ?_, no_ints _ _, no_ints _ _, HR.out⟩
        exact (((((BWb.setCell (Nat.le_refl _) _).setCell (Nat.le_refl _) _).setCell (Nat.le_refl _) _).setCell (Nat.le_refl _) _).setCell (Nat.le_refl _) _).setCell (Nat.le_refl _) _
      have hm : T.isEmpty = false := by cases T with | nil => exact absurd rfl h0 | cons a b => rfl
      have H0 : Hid _ := h0
      clear h0
      go_wp2_with fail
      refine (satext_any _ _ _ _ _ _ _ _ _ _ C D _ (kb1.ints' HL1.out) (kb2.ints' HL2.out) (by omega) (by omega)).mono ?_
      rintro e wq ⟨rfl, bc⟩
      rw [HT.out]
      have bxc := bxb.below bc
      have cbc := cbb.below bc
      have BWc := BWb.trans (bc.mono BWb.size)
      have kc1 := kb1.below bc
      have kc2 := kb2.below bc
      clear bxb cbb BWb bc d0 d1 d2 d3 d4 d5 r0 r1 r2 r3 r4 r5 f0 f1 f2 f3 f4 f5 lt_bxb kb1 kb2
      obtain ⟨r0, r1, r2, r3, r4, r5⟩ := bxc.six
      obtain ⟨f0, f1, f2, f3, f4, f5⟩ := bxc.frees
      have lt_bxc := bxc.lt
      obtain ⟨d0, d1, d2, d3, d4, d5⟩ := cbc.six
      have lt_cbc := cbc.lt
      by_cases he : T = l
      · have hE : (T == l) = true := by rw [he]; simp
        have hE2 : (T != l) = false := by rw [he]; simp
        have HR : Hid (raS l = ((3, 0, 0, C, D, K), true)) := by show _ = _; rw [raS, HLS.out, if_pos ⟨by rw [HT.out]; exact H0.out, by rw [HT.out]; exact he⟩]
        clear he
        go_wp2
        refine bodyPost_ret (v := .tuple #[lineV 3 0 0 (some ⟨B1, 0, none⟩) 3 3 (some ⟨B2, 0, none⟩) 2 2 K, .bool true]) (by simp [results, Tryz.results16, go_sem, r0, r1, r2, r3, r4, r5]) rfl ⟨3, 0, 0, C, D, K, _, _, _, _, _, _, true, rfl, ?_, ?_, ?_, HR.out⟩
        · exact (((((BWc.setCell (Nat.le_refl _) _).setCell (Nat.le_refl _) _).setCell (Nat.le_refl _) _).setCell (Nat.le_refl _) _).setCell (Nat.le_refl _) _).setCell (Nat.le_refl _) _
        · have hX := blk_ne kc1 bxc (by rw [HL1.out]; decide)
          exact ((((((kc1.setOther hX _ _).setOther hX _ _).setOther hX _ _).setOther hX _ _).setOther hX _ _).setOther hX _ _).ints' HL1.out
        · have hX := blk_ne kc2 bxc (by rw [HL2.out]; decide)
          exact ((((((kc2.setOther hX _ _).setOther hX _ _).setOther hX _ _).setOther hX _ _).setOther hX _ _).setOther hX _ _).ints' HL2.out
      · have hE : (T == l) = false := by simpa using he
        have hE2 : (T != l) = true := by simpa using he
        have HR : Hid (raS l = noA) := by show _ = _; rw [raS, HLS.out, if_neg (fun h => he (by rw [← HT.out]; exact h.2))]
        clear he
        go_wp2
        refine bodyPost_ret (v := .tuple #[lineV 0 0 0 none 0 0 none 0 0 0, .bool false]) (by simp [results, Tryz.results16, go_sem, r0, r1, r2, r3, r4, r5]) rfl ⟨0, 0, 0, [], [], 0, none, 0, 0, none, 0, 0, false, rfl, ?_, no_ints _ _, no_ints _ _, HR.out⟩
        exact (((((BWc.setCell (Nat.le_refl _) _).setCell (Nat.le_refl _) _).setCell (Nat.le_refl _) _).setCell (Nat.le_refl _) _).setCell (Nat.le_refl _) _).setCell (Nat.le_refl _) _
    · have b23 := b2.trans (b3.mono b2.size)
      have lw3 : w1.heap.size < w3.heap.size := Nat.lt_of_lt_of_le cbs.lt b23.size
      have HLS : Hid (lineS l = (3, 0, 0, [], [], 0)) := ls_three h120 HWS.out N1.out N2.out HE.out hF
      clear hF
      have bx4 := (bxs.below b23).alloc (.cells #[.slice none 0 0, .slice none 0 0, .int .i64 0] 34)
      have cb4 := (cbs.below b23).alloc (.cells #[.slice none 0 0, .slice none 0 0, .int .i64 0] 34)
      have B3a := BWs.trans (b23.mono BWs.size)
      have BW4 := B3a.alloc B3a.size (.cells #[.slice none 0 0, .slice none 0 0, .int .i64 0] 34)
      have fb4 := Cel.new w3 [.slice none 0 0, .slice none 0 0, .int .i64 0] 34
      obtain ⟨W4, hW4⟩ : ∃ W, W = w3.alloc (.cells #[.slice none 0 0, .slice none 0 0, .int .i64 0] 34) := ⟨_, rfl⟩
      go_upto_region 13 with fail
      rw [← hW4] at bx4 cb4 BW4 fb4 ⊢
      clear hW4 b2 b3 b23 B3a bxs cbs BWs al g0
      obtain ⟨c0, c1, c2, c3, c4, c5⟩ := cb4.six
      obtain ⟨y0, y1, y2, y3, y4, y5⟩ := cb4.frees
      have lt_cb4 := cb4.lt
      have lt_fb4 := fb4.lt
      have hX0 : w.heap.size ≠ w1.heap.size := by omega
      have u0 := fb4.cell 0
      have u1 := fb4.cell 1
      have u2 := fb4.cell 2
      simp only [List.getElem?_cons_zero, List.getElem?_cons_succ] at u0 u1 u2
      have bxa := ((((((bx4.setOther hX0 0 (.int .i64 3)).setOther hX0 1 (.int .i64 0)).setOther hX0 2 (.int .i64 0)).setOther hX0 3 (.slice none 0 0)).setOther hX0 4 (.slice none 0 0)).setOther hX0 5 (.int .i64 0))
      have cba := ((((((cb4.set 0 (.int .i64 3)).set 1 (.int .i64 0)).set 2 (.int .i64 0)).set 3 (.slice none 0 0)).set 4 (.slice none 0 0)).set 5 (.int .i64 0))
      simp only [List.set_cons_zero, List.set_cons_succ] at cba
      have BWa := ((((((BW4.setCell (p := ⟨w1.heap.size, 0, none⟩) (Nat.le_of_lt ltw) (.int .i64 3)).setCell (p := ⟨w1.heap.size, 1, none⟩) (Nat.le_of_lt ltw) (.int .i64 0)).setCell (p := ⟨w1.heap.size, 2, none⟩) (Nat.le_of_lt ltw) (.int .i64 0)).setCell (p := ⟨w1.heap.size, 3, none⟩) (Nat.le_of_lt ltw) (.slice none 0 0)).setCell (p := ⟨w1.heap.size, 4, none⟩) (Nat.le_of_lt ltw) (.slice none 0 0)).setCell (p := ⟨w1.heap.size, 5, none⟩) (Nat.le_of_lt ltw) (.int .i64 0))
      obtain ⟨wa, hwa⟩ : ∃ W, W = ((((((W4.setCell ⟨w1.heap.size, 0, none⟩ (.int .i64 3)).setCell ⟨w1.heap.size, 1, none⟩ (.int .i64 0)).setCell ⟨w1.heap.size, 2, none⟩ (.int .i64 0)).setCell ⟨w1.heap.size, 3, none⟩ (.slice none 0 0)).setCell ⟨w1.heap.size, 4, none⟩ (.slice none 0 0)).setCell ⟨w1.heap.size, 5, none⟩ (.int .i64 0)) := ⟨_, rfl⟩
      go_upto_region 14 with fail
      rw [← hwa] at bxa cba BWa ⊢
      clear hwa bx4 cb4 BW4 fb4 c0 c1 c2 c3 c4 c5 y0 y1 y2 y3 y4 y5 u0 u1 u2 lt_cb4 lt_fb4
      obtain ⟨T, hT⟩ : ∃ T, actText (3, 0, 0, [], [], 0) = T := ⟨_, rfl⟩
      have HT : Hid _ := hT
      clear hT
      obtain ⟨d0, d1, d2, d3, d4, d5⟩ := cba.six
      go_wp2_with fail
      refine (satext_any _ _ _ _ _ _ _ _ _ _ [] [] _ (no_ints _ _) (no_ints _ _) (by omega) (by omega)).mono ?_
      rintro e wb ⟨rfl, bb⟩
      rw [HT.out]
      have bxb := bxa.below bb
      have cbb := cba.below bb
      have BWb := BWa.trans (bb.mono BWa.size)
      clear bxa cba BWa bb d0 d1 d2 d3 d4 d5
      obtain ⟨r0, r1, r2, r3, r4, r5⟩ := bxb.six
      obtain ⟨f0, f1, f2, f3, f4, f5⟩ := bxb.frees
      have lt_bxb := bxb.lt
      obtain ⟨d0, d1, d2, d3, d4, d5⟩ := cbb.six
      by_cases h0 : T = []
      · have hm : T.isEmpty = true := by rw [h0]; rfl
        have HR : Hid (raS l = noA) := by show _ = _; rw [raS, HLS.out, if_neg (fun h => h.1 (by rw [HT.out]; exact h0))]
        clear h0
        go_wp2
        refine bodyPost_ret (v := .tuple #[lineV 0 0 0 none 0 0 none 0 0 0, .bool false]) (by simp [results, Tryz.results16, go_sem, r0, r1, r2, r3, r4, r5]) rfl ⟨0, 0, 0, [], [], 0, none, 0, 0, none, 0, 0, false, rfl, ?_, no_ints _ _, no_ints _ _, HR.out⟩
        exact (((((BWb.setCell (Nat.le_refl _) _).setCell (Nat.le_refl _) _).setCell (Nat.le_refl _) _).setCell (Nat.le_refl _) _).setCell (Nat.le_refl _) _).setCell (Nat.le_refl _) _
      have hm : T.isEmpty = false := by cases T with | nil => exact absurd rfl h0 | cons a b => rfl
      have H0 : Hid _ := h0
      clear h0
      go_wp2_with fail
      refine (satext_any _ _ _ _ _ _ _ _ _ _ [] [] _ (no_ints _ _) (no_ints _ _) (by omega) (by omega)).mono ?_
      rintro e wq ⟨rfl, bc⟩
      rw [HT.out]
      have bxc := bxb.below bc
      have cbc := cbb.below bc
      have BWc := BWb.trans (bc.mono BWb.size)
      clear bxb cbb BWb bc d0 d1 d2 d3 d4 d5 r0 r1 r2 r3 r4 r5 f0 f1 f2 f3 f4 f5 lt_bxb
      obtain ⟨r0, r1, r2, r3, r4, r5⟩ := bxc.six
      obtain ⟨f0, f1, f2, f3, f4, f5⟩ := bxc.frees
      have lt_bxc := bxc.lt
      obtain ⟨d0, d1, d2, d3, d4, d5⟩ := cbc.six
      have lt_cbc := cbc.lt
      by_cases he : T = l
      · have hE : (T == l) = true := by rw [he]; simp
        have hE2 : (T != l) = false := by rw [he]; simp
        have HR : Hid (raS l = ((3, 0, 0, [], [], 0), true)) := by show _ = _; rw [raS, HLS.out, if_pos ⟨by rw [HT.out]; exact H0.out, by rw [HT.out]; exact he⟩]
        clear he
        go_wp2
        refine bodyPost_ret (v := .tuple #[lineV 3 0 0 none 0 0 none 0 0 0, .bool true]) (by simp [results, Tryz.results16, go_sem, r0, r1, r2, r3, r4, r5]) rfl ⟨3, 0, 0, [], [], 0, _, _, _, _, _, _, true, rfl, ?_, ?_, ?_, HR.out⟩
        · exact (((((BWc.setCell (Nat.le_refl _) _).setCell (Nat.le_refl _) _).setCell (Nat.le_refl _) _).setCell (Nat.le_refl _) _).setCell (Nat.le_refl _) _).setCell (Nat.le_refl _) _
        · exact no_ints _ _
        · exact no_ints _ _
      · have hE : (T == l) = false := by simpa using he
        have hE2 : (T != l) = true := by simpa using he
        have HR : Hid (raS l = noA) := by show _ = _; rw [raS, HLS.out, if_neg (fun h => he (by rw [← HT.out]; exact h.2))]
        clear he
        go_wp2
        refine bodyPost_ret (v := .tuple #[lineV 0 0 0 none 0 0 none 0 0 0, .bool false]) (by simp [results, Tryz.results16, go_sem, r0, r1, r2, r3, r4, r5]) rfl ⟨0, 0, 0, [], [], 0, none, 0, 0, none, 0, 0, false, rfl, ?_, no_ints _ _, no_ints _ _, HR.out⟩
        exact (((((BWc.setCell (Nat.le_refl _) _).setCell (Nat.le_refl _) _).setCell (Nat.le_refl _) _).setCell (Nat.le_refl _) _).setCell (Nat.le_refl _) _).setCell (Nat.le_refl _) _
  have N3 : Hid _ := h_printW
  have hp_printW : ¬ x0 = [112, 114, 105, 110, 116] := h_printW
  have hq_printW : (x0 == [112, 114, 105, 110, 116]) = false := by simpa using hp_printW
  have HLS : Hid (lineS l = (4, 0, 0, [], [], 0)) := ls_four h120 HWS.out N1.out N2.out h_printW
  clear h_printW
  have bxa := bxs
  have cba := cbs
  have BWa := BWs
  clear bxs cbs BWs
  obtain ⟨T, hT⟩ : ∃ T, actText (4, 0, 0, [], [], 0) = T := ⟨_, rfl⟩
  have HT : Hid _ := hT
  clear hT
  obtain ⟨d0, d1, d2, d3, d4, d5⟩ := cba.six
  go_wp2_with fail
  refine (satext_any _ _ _ _ _ _ _ _ _ _ [] [] _ (no_ints _ _) (no_ints _ _) (by omega) (by omega)).mono ?_
  rintro e wb ⟨rfl, bb⟩
  rw [HT.out]
  have bxb := bxa.below bb
  have cbb := cba.below bb
  have BWb := BWa.trans (bb.mono BWa.size)
  clear bxa cba BWa bb d0 d1 d2 d3 d4 d5
  obtain ⟨r0, r1, r2, r3, r4, r5⟩ := bxb.six
  obtain ⟨f0, f1, f2, f3, f4, f5⟩ := bxb.frees
  have lt_bxb := bxb.lt
  obtain ⟨d0, d1, d2, d3, d4, d5⟩ := cbb.six
  by_cases h0 : T = []
  · have hm : T.isEmpty = true := by rw [h0]; rfl
    have HR : Hid (raS l = noA) := by show _ = _; rw [raS, HLS.out, if_neg (fun h => h.1 (by rw [HT.out]; exact h0))]
    clear h0
    go_wp2
    refine bodyPost_ret (v := .tuple #[lineV 0 0 0 none 0 0 none 0 0 0, .bool false]) (by simp [results, Tryz.results16, go_sem, r0, r1, r2, r3, r4, r5]) rfl ⟨0, 0, 0, [], [], 0, none, 0, 0, none, 0, 0, false, rfl, ?_, no_ints _ _, no_ints _ _, HR.out⟩
    exact (((((BWb.setCell (Nat.le_refl _) _).setCell (Nat.le_refl _) _).setCell (Nat.le_refl _) _).setCell (Nat.le_refl _) _).setCell (Nat.le_refl _) _).setCell (Nat.le_refl _) _
  have hm : T.isEmpty = false := by cases T with | nil => exact absurd rfl h0 | cons a b => rfl
  have H0 : Hid _ := h0
  clear h0
  go_wp2_with fail
  refine (satext_any _ _ _ _ _ _ _ _ _ _ [] [] _ (no_ints _ _) (no_ints _ _) (by omega) (by omega)).mono ?_
  rintro e wq ⟨rfl, bc⟩
  rw [HT.out]
  have bxc := bxb.below bc
  have cbc := cbb.below bc
  have BWc := BWb.trans (bc.mono BWb.size)
  clear bxb cbb BWb bc d0 d1 d2 d3 d4 d5 r0 r1 r2 r3 r4 r5 f0 f1 f2 f3 f4 f5 lt_bxb
  obtain ⟨r0, r1, r2, r3, r4, r5⟩ := bxc.six
  obtain ⟨f0, f1, f2, f3, f4, f5⟩ := bxc.frees
  have lt_bxc := bxc.lt
  obtain ⟨d0, d1, d2, d3, d4, d5⟩ := cbc.six
  have lt_cbc := cbc.lt
  by_cases he : T = l
  · have hE : (T == l) = true := by rw [he]; simp
    have hE2 : (T != l) = false := by rw [he]; simp
    have HR : Hid (raS l = ((4, 0, 0, [], [], 0), true)) := by show _ = _; rw [raS, HLS.out, if_pos ⟨by rw [HT.out]; exact H0.out, by rw [HT.out]; exact he⟩]
    clear he
    go_wp2
    refine bodyPost_ret (v := .tuple #[lineV 4 0 0 none 0 0 none 0 0 0, .bool true]) (by simp [results, Tryz.results16, go_sem, r0, r1, r2, r3, r4, r5]) rfl ⟨4, 0, 0, [], [], 0, _, _, _, _, _, _, true, rfl, ?_, ?_, ?_, HR.out⟩
    · exact (((((BWc.setCell (Nat.le_refl _) _).setCell (Nat.le_refl _) _).setCell (Nat.le_refl _) _).setCell (Nat.le_refl _) _).setCell (Nat.le_refl _) _).setCell (Nat.le_refl _) _
    · exact no_ints _ _
    · exact no_ints _ _
  · have hE : (T == l) = false := by simpa using he
    have hE2 : (T != l) = true := by simpa using he
    have HR : Hid (raS l = noA) := by show _ = _; rw [raS, HLS.out, if_neg (fun h => he (by rw [← HT.out]; exact h.2))]
    clear he
    go_wp2
    refine bodyPost_ret (v := .tuple #[lineV 0 0 0 none 0 0 none 0 0 0, .bool false]) (by simp [results, Tryz.results16, go_sem, r0, r1, r2, r3, r4, r5]) rfl ⟨0, 0, 0, [], [], 0, none, 0, 0, none, 0, 0, false, rfl, ?_, no_ints _ _, no_ints _ _, HR.out⟩
    exact (((((BWc.setCell (Nat.le_refl _) _).setCell (Nat.le_refl _) _).setCell (Nat.le_refl _) _).setCell (Nat.le_refl _) _).setCell (Nat.le_refl _) _).setCell (Nat.le_refl _) _

end Go.Proofs.YtfkcfjkojfnfnaaGreatDoor
namespace Go.Proofs.YtfkcfjkojfnfnaaGreatDoor
open Go.RowKit
set_option linter.unusedVariables false
set_option maxRecDepth 100000

theorem Splits.belowA {w w' : World} (h : Splits w) (b : Below w.heap.size w w') : Splits w' := fun W hW => h W (b.trans (hW.mono b.size))

set_option maxHeartbeats 6400000 in
theorem inumform_any (s : List UInt8) (w : World) (hs : s.length ≤ 120) (hA : ReadsN w) (hSp : Splits w) (hCu : Cuts w) (hT : Lib.TabBelow Tryz.prog w.heap.size w "internal/strconv.uint64pow10" .u64 Lib.pow10Tab) :
    Calls Tryz.prog 62 #[.string ⟨s.toArray⟩] w fun e w' =>
      (∃ z C D K B1 B2, numForm s = some (z, (C, D, K)) ∧ e = .returned (.tuple #[.int .i64 z, formV (some ⟨B1, 0, none⟩) 3 3 (some ⟨B2, 0, none⟩) 2 2 K, .bool true]) ∧ C.length = 3 ∧ D.length = 2 ∧ Below w.heap.size w w' ∧ w.heap.size ≤ B1 ∧ B1 ≠ B2 ∧ w.heap.size ≤ B2 ∧ Blk w' B1 C ∧ Blk w' B2 D) ∨
      (numForm s = none ∧ ∃ z a n cap c m cap' K, e = .returned (.tuple #[.int .i64 z, formV a n cap c m cap' K, .bool false]) ∧ Below w.heap.size w w') := by
  have HA : Hid _ := hA
  have HS : Hid _ := hSp
  have HC : Hid _ := hCu
  have HTB : Hid _ := hT
  clear hA hSp hCu hT
  have bx := Cel.new w [.slice none 0 0, .slice none 0 0, .int .i64 0] 34
  have B0 := (Below.refl w.heap.size w).alloc (Nat.le_refl _) (.cells #[.slice none 0 0, .slice none 0 0, .int .i64 0] 34)
  obtain ⟨⟨mm, q, f⟩, hc⟩ : ∃ r, Lib.cut s [32] = r := ⟨_, rfl⟩
  obtain ⟨lm, lq⟩ := cut_len hc
  have hm120 : mm.length ≤ 120 := by omega
  have hq120 : q.length ≤ 120 := by omega
  have HCU : Hid _ := hc
  go_enter Tryz.func62, Tryz.ntmps62
  go_wp2_with fail
  refine (HC.out _ B0 s 32 hs).mono ?_
  rintro e w1 ⟨rfl, b1⟩
  rw [hc]
  have BW1 := B0.trans (b1.mono B0.size)
  go_wp2_with fail
  refine (HA.out w1 BW1 mm hm120).mono ?_
  rintro e w2 ⟨b2, hcase⟩
  have BW2 := BW1.trans (b2.mono BW1.size)
  have bw2 := b1.trans (b2.mono b1.size)
  clear b1 b2 BW1 lm lq
  rcases hcase with ⟨v, hv, rfl⟩ | ⟨hv, z, t, bb, rfl⟩
  · go_wp2_with fail
    refine (ifread_any q _ (by omega) (ReadsN.below HA.out BW2) (Splits.belowA HS.out BW2) (Cuts.below HC.out BW2) (fun w' h' => HTB.out w' (BW2.trans (h'.mono BW2.size)))).mono ?_
    rintro e w3 (⟨C, D, K, B1, B2, hF, rfl, l1, l2, b3, o1, o12, o2, k1, k2⟩ | ⟨hF, rfl, b3⟩)
    · have bx3 := bx.below (bw2.trans (b3.mono bw2.size))
      have BB := B0.trans ((bw2.trans (b3.mono bw2.size)).mono B0.size)
      have bx4 := bx3.alloc (.cells #[.slice (some ⟨B1, 0, none⟩) 3 3, .slice (some ⟨B2, 0, none⟩) 2 2, .int .i64 K] 34)
      have cb4 := Cel.new w3 [.slice (some ⟨B1, 0, none⟩) 3 3, .slice (some ⟨B2, 0, none⟩) 2 2, .int .i64 K] 34
      have BB4 := BB.alloc BB.size (.cells #[.slice (some ⟨B1, 0, none⟩) 3 3, .slice (some ⟨B2, 0, none⟩) 2 2, .int .i64 K] 34)
      have k1' := k1.alloc (.cells #[.slice (some ⟨B1, 0, none⟩) 3 3, .slice (some ⟨B2, 0, none⟩) 2 2, .int .i64 K] 34)
      have k2' := k2.alloc (.cells #[.slice (some ⟨B1, 0, none⟩) 3 3, .slice (some ⟨B2, 0, none⟩) 2 2, .int .i64 K] 34)
      have zB1 : w.heap.size < B1 := by have := bw2.size; rw [World.size_alloc] at this; omega
      have zB2 : w.heap.size < B2 := by have := bw2.size; rw [World.size_alloc] at this; omega
      obtain ⟨W4, hW4⟩ : ∃ W, W = w3.alloc (.cells #[.slice (some ⟨B1, 0, none⟩) 3 3, .slice (some ⟨B2, 0, none⟩) 2 2, .int .i64 K] 34) := ⟨_, rfl⟩
      have r0 := bx4.cell 0
      have r1 := bx4.cell 1
      have r2 := bx4.cell 2
      have f0 := bx4.free 0
      have f1 := bx4.free 1
      have f2 := bx4.free 2
      have d0 := cb4.cell 0
      have d1 := cb4.cell 1
      have d2 := cb4.cell 2
      simp only [List.getElem?_cons_zero, List.getElem?_cons_succ] at r0 r1 r2 d0 d1 d2
      have lt4 := bx4.lt
      have lt5 := cb4.lt
      have HR : Hid (numForm s = some (v, (C, D, K))) := by show _ = _; rw [numForm, hc]; show (match Lib.atoiAll mm, rfF q with | .ok z, (f, true) => some (z, f) | _, _ => none) = _; rw [hv, hF]
      have ltx := bx3.lt
      have cbx : Cel W4 w3.heap.size [.slice (some ⟨B1, 0, none⟩) 3 3, .slice (some ⟨B2, 0, none⟩) 2 2, .int .i64 K] 34 := by rw [hW4]; exact cb4
      clear hF b3 bx3 BB cb4
      go_upto_region 4 with fail
      rw [← hW4] at r0 r1 r2 f0 f1 f2 d0 d1 d2 lt4 lt5 BB4 bx4 k1' k2' ⊢
      clear hW4
      have hS0 : (W4.drew.cell? ⟨w3.heap.size, 0, none⟩ = some (.slice (some ⟨B1, 0, none⟩) 3 3) ∧ W4.drew.cell? ⟨w3.heap.size, 1, none⟩ = some (.slice (some ⟨B2, 0, none⟩) 2 2) ∧ W4.drew.cell? ⟨w3.heap.size, 2, none⟩ = some (.int .i64 K)) ∧ True := ⟨⟨d0, d1, d2⟩, trivial⟩
      refine wp_region_ends (fun X => X.cell? ⟨w3.heap.size, 0, none⟩ = some (.slice (some ⟨B1, 0, none⟩) 3 3) ∧ X.cell? ⟨w3.heap.size, 1, none⟩ = some (.slice (some ⟨B2, 0, none⟩) 2 2) ∧ X.cell? ⟨w3.heap.size, 2, none⟩ = some (.int .i64 K)) (fun _ => True) 9 (by kernel_rfl) ?_
      refine wpAnyE_take0 (i := 0) (v := ?gfv0) rfl (by kernel_rfl) (by kernel_rfl) (by kernel_rfl) (by decide) (fun _ _ _ h => h) (Or.inl ⟨by rfl, ?gfhy0⟩) hS0 ?_
      case gfhy0 => (intro wz hSw; (try dsimp only at hSw); go_simp; try (with_reducible rfl))
      refine wpAnyE_take0 (i := 1) (v := ?gfv1) rfl (by kernel_rfl) (by kernel_rfl) (by kernel_rfl) (by decide) (fun _ _ _ h => h) (Or.inl ⟨by rfl, ?gfhy1⟩) hS0 ?_
      case gfhy1 => (intro wz hSw; (try dsimp only at hSw); go_simp; try (with_reducible rfl))
      refine wpAnyE_take0 (i := 2) (v := ?gfv2) rfl (by kernel_rfl) (by kernel_rfl) (by kernel_rfl) (by decide) (fun _ _ _ h => h) (Or.inl ⟨by rfl, ?gfhy2⟩) hS0 ?_
      case gfhy2 => (intro wz hSw; (try dsimp only at hSw); go_simp; try (with_reducible rfl))
      refine wpAnyE_take0 (i := 3) (v := ?gfv3) rfl (by kernel_rfl) (by kernel_rfl) (by kernel_rfl) (by decide) (fun _ _ _ h => h) (Or.inl ⟨by rfl, ?gfhy3⟩) hS0 ?_
      case gfhy3 => (intro wz hSw; (try dsimp only at hSw); go_simp; try (with_reducible rfl))
      refine wpAnyE_take0 (i := 4) (v := ?gfv4) rfl (by kernel_rfl) (by kernel_rfl) (by kernel_rfl) (by decide) (fun _ _ _ h => h) (Or.inl ⟨by rfl, ?gfhy4⟩) hS0 ?_
      case gfhy4 => (intro wz hSw; (try dsimp only at hSw); go_simp; try (with_reducible rfl))
      refine wpAnyE_take0 (i := 5) (v := ?gfv5) rfl (by kernel_rfl) (by kernel_rfl) (by kernel_rfl) (by decide) (fun _ _ _ h => h) (Or.inl ⟨by rfl, ?gfhy5⟩) hS0 ?_
      case gfhy5 => (intro wz hSw; (try dsimp only at hSw); go_simp; try (with_reducible rfl))
      refine wpAnyE_take0 (i := 6) (v := ?gfv6) rfl (by kernel_rfl) (by kernel_rfl) (by kernel_rfl) (by decide) (fun _ _ _ h => h) (Or.inl ⟨by rfl, ?gfhy6⟩) hS0 ?_
      case gfhy6 => (intro wz hSw; (try dsimp only at hSw); go_simp; try (with_reducible rfl))
      refine wpAnyE_take0 (i := 7) (v := ?gfv7) rfl (by kernel_rfl) (by kernel_rfl) (by kernel_rfl) (by decide) (fun _ _ _ h => h) (Or.inl ⟨by rfl, ?gfhy7⟩) hS0 ?_
      case gfhy7 => (intro wz hSw; (try dsimp only at hSw); go_simp; try (with_reducible rfl))
      have lt6 : w.heap.size < w3.heap.size := ltx
      have e8 := ((cbx.setOther (show w3.heap.size ≠ w.heap.size by omega) 0 (.slice (some ⟨B1, 0, none⟩) 3 3)).setOther (show w3.heap.size ≠ w.heap.size by omega) 1 (.slice (some ⟨B2, 0, none⟩) 2 2)).setOther (show w3.heap.size ≠ w.heap.size by omega) 2 (.int .i64 K)
      refine wpAnyE_one (i := 8) (by kernel_rfl) rfl (fun Kn hK => ?_)
      go_simp
      refine hK.out _ _ ⟨⟨e8.cell 0, e8.cell 1, e8.cell 2⟩, fun _ => trivial⟩ ?_
      clear hK
      refine wpAnyE_one (i := 9) (by kernel_rfl) rfl (fun Kn hK => ?_)
      go_simp
      refine hK.out _ _ ⟨⟨e8.cell 0, e8.cell 1, e8.cell 2⟩, fun _ => trivial⟩ ?_
      clear hK
      refine wpAnyE_done (by kernel_rfl) ?_ _
      clear hS0 e8
      go_wp2
      refine bodyPost_ret (v := .tuple #[.int .i64 v, formV (some ⟨B1, 0, none⟩) 3 3 (some ⟨B2, 0, none⟩) 2 2 K, .bool true]) (by simp [results, Tryz.results62, go_sem, r0, r1, r2]) rfl (Or.inl ⟨v, C, D, K, B1, B2, HR.out, rfl, l1, l2, ?_, by omega, o12, by omega, ?_, ?_⟩)
      · exact (((BB4.setCell (Nat.le_refl _) _).setCell (Nat.le_refl _) _).setCell (Nat.le_refl _) _).drew
      · exact ((k1'.setOther (by omega) _ _).setOther (by omega) _ _).setOther (by omega) _ _
      · exact ((k2'.setOther (by omega) _ _).setOther (by omega) _ _).setOther (by omega) _ _
    · have bx3 := bx.below (bw2.trans (b3.mono bw2.size))
      have BB := B0.trans ((bw2.trans (b3.mono bw2.size)).mono B0.size)
      have bx4 := bx3.alloc (.cells #[.slice none 0 0, .slice none 0 0, .int .i64 0] 34)
      have cb4 := Cel.new w3 [.slice none 0 0, .slice none 0 0, .int .i64 0] 34
      have BB4 := BB.alloc BB.size (.cells #[.slice none 0 0, .slice none 0 0, .int .i64 0] 34)
      obtain ⟨W4, hW4⟩ : ∃ W, W = w3.alloc (.cells #[.slice none 0 0, .slice none 0 0, .int .i64 0] 34) := ⟨_, rfl⟩
      have r0 := bx4.cell 0
      have r1 := bx4.cell 1
      have r2 := bx4.cell 2
      have f0 := bx4.free 0
      have f1 := bx4.free 1
      have f2 := bx4.free 2
      have d0 := cb4.cell 0
      have d1 := cb4.cell 1
      have d2 := cb4.cell 2
      simp only [List.getElem?_cons_zero, List.getElem?_cons_succ] at r0 r1 r2 d0 d1 d2
      have lt4 := bx4.lt
      have lt5 := cb4.lt
      have HR : Hid (numForm s = none) := by show _ = _; rw [numForm, hc]; show (match Lib.atoiAll mm, rfF q with | .ok z, (f, true) => some (z, f) | _, _ => none) = _; rw [hv, hF]; rfl
      have ltx := bx3.lt
      have cbx : Cel W4 w3.heap.size [.slice none 0 0, .slice none 0 0, .int .i64 0] 34 := by rw [hW4]; exact cb4
      clear hF b3 bx3 BB cb4
      go_upto_region 4 with fail
      rw [← hW4] at r0 r1 r2 f0 f1 f2 d0 d1 d2 lt4 lt5 BB4 bx4 ⊢
      clear hW4
      have hS0 : (W4.drew.cell? ⟨w3.heap.size, 0, none⟩ = some (.slice none 0 0) ∧ W4.drew.cell? ⟨w3.heap.size, 1, none⟩ = some (.slice none 0 0) ∧ W4.drew.cell? ⟨w3.heap.size, 2, none⟩ = some (.int .i64 0)) ∧ True := ⟨⟨d0, d1, d2⟩, trivial⟩
      refine wp_region_ends (fun X => X.cell? ⟨w3.heap.size, 0, none⟩ = some (.slice none 0 0) ∧ X.cell? ⟨w3.heap.size, 1, none⟩ = some (.slice none 0 0) ∧ X.cell? ⟨w3.heap.size, 2, none⟩ = some (.int .i64 0)) (fun _ => True) 9 (by kernel_rfl) ?_
      refine wpAnyE_take0 (i := 0) (v := ?gnv0) rfl (by kernel_rfl) (by kernel_rfl) (by kernel_rfl) (by decide) (fun _ _ _ h => h) (Or.inl ⟨by rfl, ?gnhy0⟩) hS0 ?_
      case gnhy0 => (intro wz hSw; (try dsimp only at hSw); go_simp; try (with_reducible rfl))
      refine wpAnyE_take0 (i := 1) (v := ?gnv1) rfl (by kernel_rfl) (by kernel_rfl) (by kernel_rfl) (by decide) (fun _ _ _ h => h) (Or.inl ⟨by rfl, ?gnhy1⟩) hS0 ?_
      case gnhy1 => (intro wz hSw; (try dsimp only at hSw); go_simp; try (with_reducible rfl))
      refine wpAnyE_take0 (i := 2) (v := ?gnv2) rfl (by kernel_rfl) (by kernel_rfl) (by kernel_rfl) (by decide) (fun _ _ _ h => h) (Or.inl ⟨by rfl, ?gnhy2⟩) hS0 ?_
      case gnhy2 => (intro wz hSw; (try dsimp only at hSw); go_simp; try (with_reducible rfl))
      refine wpAnyE_take0 (i := 3) (v := ?gnv3) rfl (by kernel_rfl) (by kernel_rfl) (by kernel_rfl) (by decide) (fun _ _ _ h => h) (Or.inl ⟨by rfl, ?gnhy3⟩) hS0 ?_
      case gnhy3 => (intro wz hSw; (try dsimp only at hSw); go_simp; try (with_reducible rfl))
      refine wpAnyE_take0 (i := 4) (v := undef) rfl (by kernel_rfl) (by kernel_rfl) (by kernel_rfl) (by decide) (fun _ _ _ h => h) (Or.inr ⟨by rfl, rfl⟩) hS0 ?_
      refine wpAnyE_take0 (i := 5) (v := undef) rfl (by kernel_rfl) (by kernel_rfl) (by kernel_rfl) (by decide) (fun _ _ _ h => h) (Or.inr ⟨by rfl, rfl⟩) hS0 ?_
      refine wpAnyE_take0 (i := 6) (v := ?gnv6) rfl (by kernel_rfl) (by kernel_rfl) (by kernel_rfl) (by decide) (fun _ _ _ h => h) (Or.inl ⟨by rfl, ?gnhy6⟩) hS0 ?_
      case gnhy6 => (intro wz hSw; (try dsimp only at hSw); go_simp; try (with_reducible rfl))
      refine wpAnyE_take0 (i := 7) (v := ?gnv7) rfl (by kernel_rfl) (by kernel_rfl) (by kernel_rfl) (by decide) (fun _ _ _ h => h) (Or.inl ⟨by rfl, ?gnhy7⟩) hS0 ?_
      case gnhy7 => (intro wz hSw; (try dsimp only at hSw); go_simp; try (with_reducible rfl))
      have lt6 : w.heap.size < w3.heap.size := ltx
      have e8 := ((cbx.setOther (show w3.heap.size ≠ w.heap.size by omega) 0 (.slice none 0 0)).setOther (show w3.heap.size ≠ w.heap.size by omega) 1 (.slice none 0 0)).setOther (show w3.heap.size ≠ w.heap.size by omega) 2 (.int .i64 0)
      refine wpAnyE_one (i := 8) (by kernel_rfl) rfl (fun Kn hK => ?_)
      go_simp
      refine hK.out _ _ ⟨⟨e8.cell 0, e8.cell 1, e8.cell 2⟩, fun _ => trivial⟩ ?_
      clear hK
      refine wpAnyE_one (i := 9) (by kernel_rfl) rfl (fun Kn hK => ?_)
      go_simp
      refine hK.out _ _ ⟨⟨e8.cell 0, e8.cell 1, e8.cell 2⟩, fun _ => trivial⟩ ?_
      clear hK
      refine wpAnyE_done (by kernel_rfl) ?_ _
      clear hS0 e8
      go_wp2
      refine bodyPost_ret (v := .tuple #[.int .i64 v, formV none 0 0 none 0 0 0, .bool false]) (by simp [results, Tryz.results62, go_sem, r0, r1, r2]) rfl (Or.inr ⟨HR.out, _, _, _, _, _, _, _, _, rfl, ?_⟩)
      exact (((BB4.setCell (Nat.le_refl _) _).setCell (Nat.le_refl _) _).setCell (Nat.le_refl _) _).drew

  · go_wp2_with fail
    refine (ifread_any q _ (by omega) (ReadsN.below HA.out BW2) (Splits.belowA HS.out BW2) (Cuts.below HC.out BW2) (fun w' h' => HTB.out w' (BW2.trans (h'.mono BW2.size)))).mono ?_
    rintro e w3 (⟨C, D, K, B1, B2, hF, rfl, l1, l2, b3, o1, o12, o2, k1, k2⟩ | ⟨hF, rfl, b3⟩)
    · have bx3 := bx.below (bw2.trans (b3.mono bw2.size))
      have BB := B0.trans ((bw2.trans (b3.mono bw2.size)).mono B0.size)
      have bx4 := bx3.alloc (.cells #[.slice (some ⟨B1, 0, none⟩) 3 3, .slice (some ⟨B2, 0, none⟩) 2 2, .int .i64 K] 34)
      have cb4 := Cel.new w3 [.slice (some ⟨B1, 0, none⟩) 3 3, .slice (some ⟨B2, 0, none⟩) 2 2, .int .i64 K] 34
      have BB4 := BB.alloc BB.size (.cells #[.slice (some ⟨B1, 0, none⟩) 3 3, .slice (some ⟨B2, 0, none⟩) 2 2, .int .i64 K] 34)
      have k1' := k1.alloc (.cells #[.slice (some ⟨B1, 0, none⟩) 3 3, .slice (some ⟨B2, 0, none⟩) 2 2, .int .i64 K] 34)
      have k2' := k2.alloc (.cells #[.slice (some ⟨B1, 0, none⟩) 3 3, .slice (some ⟨B2, 0, none⟩) 2 2, .int .i64 K] 34)
      have zB1 : w.heap.size < B1 := by have := bw2.size; rw [World.size_alloc] at this; omega
      have zB2 : w.heap.size < B2 := by have := bw2.size; rw [World.size_alloc] at this; omega
      obtain ⟨W4, hW4⟩ : ∃ W, W = w3.alloc (.cells #[.slice (some ⟨B1, 0, none⟩) 3 3, .slice (some ⟨B2, 0, none⟩) 2 2, .int .i64 K] 34) := ⟨_, rfl⟩
      have r0 := bx4.cell 0
      have r1 := bx4.cell 1
      have r2 := bx4.cell 2
      have f0 := bx4.free 0
      have f1 := bx4.free 1
      have f2 := bx4.free 2
      have d0 := cb4.cell 0
      have d1 := cb4.cell 1
      have d2 := cb4.cell 2
      simp only [List.getElem?_cons_zero, List.getElem?_cons_succ] at r0 r1 r2 d0 d1 d2
      have lt4 := bx4.lt
      have lt5 := cb4.lt
      have HR : Hid (numForm s = none) := by show _ = _; rw [numForm, hc]; show (match Lib.atoiAll mm, rfF q with | .ok z, (f, true) => some (z, f) | _, _ => none) = _; cases hh : Lib.atoiAll mm with | ok v => exact absurd hh (hv v) | «syntax» => rfl | range => rfl
      have ltx := bx3.lt
      have cbx : Cel W4 w3.heap.size [.slice (some ⟨B1, 0, none⟩) 3 3, .slice (some ⟨B2, 0, none⟩) 2 2, .int .i64 K] 34 := by rw [hW4]; exact cb4
      clear hF b3 bx3 BB cb4
      go_upto_region 4 with fail
      rw [← hW4] at r0 r1 r2 f0 f1 f2 d0 d1 d2 lt4 lt5 BB4 bx4 k1' k2' ⊢
      clear hW4
      have hS0 : (W4.drew.cell? ⟨w3.heap.size, 0, none⟩ = some (.slice (some ⟨B1, 0, none⟩) 3 3) ∧ W4.drew.cell? ⟨w3.heap.size, 1, none⟩ = some (.slice (some ⟨B2, 0, none⟩) 2 2) ∧ W4.drew.cell? ⟨w3.heap.size, 2, none⟩ = some (.int .i64 K)) ∧ True := ⟨⟨d0, d1, d2⟩, trivial⟩
      refine wp_region_ends (fun X => X.cell? ⟨w3.heap.size, 0, none⟩ = some (.slice (some ⟨B1, 0, none⟩) 3 3) ∧ X.cell? ⟨w3.heap.size, 1, none⟩ = some (.slice (some ⟨B2, 0, none⟩) 2 2) ∧ X.cell? ⟨w3.heap.size, 2, none⟩ = some (.int .i64 K)) (fun _ => True) 9 (by kernel_rfl) ?_
      refine wpAnyE_take0 (i := 0) (v := ?bfv0) rfl (by kernel_rfl) (by kernel_rfl) (by kernel_rfl) (by decide) (fun _ _ _ h => h) (Or.inl ⟨by rfl, ?bfhy0⟩) hS0 ?_
      case bfhy0 => (intro wz hSw; (try dsimp only at hSw); go_simp; try (with_reducible rfl))
      refine wpAnyE_take0 (i := 1) (v := ?bfv1) rfl (by kernel_rfl) (by kernel_rfl) (by kernel_rfl) (by decide) (fun _ _ _ h => h) (Or.inl ⟨by rfl, ?bfhy1⟩) hS0 ?_
      case bfhy1 => (intro wz hSw; (try dsimp only at hSw); go_simp; try (with_reducible rfl))
      refine wpAnyE_take0 (i := 2) (v := ?bfv2) rfl (by kernel_rfl) (by kernel_rfl) (by kernel_rfl) (by decide) (fun _ _ _ h => h) (Or.inl ⟨by rfl, ?bfhy2⟩) hS0 ?_
      case bfhy2 => (intro wz hSw; (try dsimp only at hSw); go_simp; try (with_reducible rfl))
      refine wpAnyE_take0 (i := 3) (v := ?bfv3) rfl (by kernel_rfl) (by kernel_rfl) (by kernel_rfl) (by decide) (fun _ _ _ h => h) (Or.inl ⟨by rfl, ?bfhy3⟩) hS0 ?_
      case bfhy3 => (intro wz hSw; (try dsimp only at hSw); go_simp; try (with_reducible rfl))
      refine wpAnyE_take0 (i := 4) (v := ?bfv4) rfl (by kernel_rfl) (by kernel_rfl) (by kernel_rfl) (by decide) (fun _ _ _ h => h) (Or.inl ⟨by rfl, ?bfhy4⟩) hS0 ?_
      case bfhy4 => (intro wz hSw; (try dsimp only at hSw); go_simp; try (with_reducible rfl))
      refine wpAnyE_take0 (i := 5) (v := ?bfv5) rfl (by kernel_rfl) (by kernel_rfl) (by kernel_rfl) (by decide) (fun _ _ _ h => h) (Or.inl ⟨by rfl, ?bfhy5⟩) hS0 ?_
      case bfhy5 => (intro wz hSw; (try dsimp only at hSw); go_simp; try (with_reducible rfl))
      refine wpAnyE_take0 (i := 6) (v := ?bfv6) rfl (by kernel_rfl) (by kernel_rfl) (by kernel_rfl) (by decide) (fun _ _ _ h => h) (Or.inl ⟨by rfl, ?bfhy6⟩) hS0 ?_
      case bfhy6 => (intro wz hSw; (try dsimp only at hSw); go_simp; try (with_reducible rfl))
      refine wpAnyE_take0 (i := 7) (v := ?bfv7) rfl (by kernel_rfl) (by kernel_rfl) (by kernel_rfl) (by decide) (fun _ _ _ h => h) (Or.inl ⟨by rfl, ?bfhy7⟩) hS0 ?_
      case bfhy7 => (intro wz hSw; (try dsimp only at hSw); go_simp; try (with_reducible rfl))
      have lt6 : w.heap.size < w3.heap.size := ltx
      have e8 := ((cbx.setOther (show w3.heap.size ≠ w.heap.size by omega) 0 (.slice (some ⟨B1, 0, none⟩) 3 3)).setOther (show w3.heap.size ≠ w.heap.size by omega) 1 (.slice (some ⟨B2, 0, none⟩) 2 2)).setOther (show w3.heap.size ≠ w.heap.size by omega) 2 (.int .i64 K)
      refine wpAnyE_one (i := 8) (by kernel_rfl) rfl (fun Kn hK => ?_)
      go_simp
      refine hK.out _ _ ⟨⟨e8.cell 0, e8.cell 1, e8.cell 2⟩, fun _ => trivial⟩ ?_
      clear hK
      refine wpAnyE_one (i := 9) (by kernel_rfl) rfl (fun Kn hK => ?_)
      go_simp
      refine hK.out _ _ ⟨⟨e8.cell 0, e8.cell 1, e8.cell 2⟩, fun _ => trivial⟩ ?_
      clear hK
      refine wpAnyE_done (by kernel_rfl) ?_ _
      clear hS0 e8
      go_wp2
      refine bodyPost_ret (v := .tuple #[.int .i64 z, formV (some ⟨B1, 0, none⟩) 3 3 (some ⟨B2, 0, none⟩) 2 2 K, .bool false]) (by simp [results, Tryz.results62, go_sem, r0, r1, r2]) rfl (Or.inr ⟨HR.out, _, _, _, _, _, _, _, _, rfl, ?_⟩)
      exact (((BB4.setCell (Nat.le_refl _) _).setCell (Nat.le_refl _) _).setCell (Nat.le_refl _) _).drew
    · have bx3 := bx.below (bw2.trans (b3.mono bw2.size))
      have BB := B0.trans ((bw2.trans (b3.mono bw2.size)).mono B0.size)
      have bx4 := bx3.alloc (.cells #[.slice none 0 0, .slice none 0 0, .int .i64 0] 34)
      have cb4 := Cel.new w3 [.slice none 0 0, .slice none 0 0, .int .i64 0] 34
      have BB4 := BB.alloc BB.size (.cells #[.slice none 0 0, .slice none 0 0, .int .i64 0] 34)
      obtain ⟨W4, hW4⟩ : ∃ W, W = w3.alloc (.cells #[.slice none 0 0, .slice none 0 0, .int .i64 0] 34) := ⟨_, rfl⟩
      have r0 := bx4.cell 0
      have r1 := bx4.cell 1
      have r2 := bx4.cell 2
      have f0 := bx4.free 0
      have f1 := bx4.free 1
      have f2 := bx4.free 2
      have d0 := cb4.cell 0
      have d1 := cb4.cell 1
      have d2 := cb4.cell 2
      simp only [List.getElem?_cons_zero, List.getElem?_cons_succ] at r0 r1 r2 d0 d1 d2
      have lt4 := bx4.lt
      have lt5 := cb4.lt
      have HR : Hid (numForm s = none) := by show _ = _; rw [numForm, hc]; show (match Lib.atoiAll mm, rfF q with | .ok z, (f, true) => some (z, f) | _, _ => none) = _; cases hh : Lib.atoiAll mm with | ok v => exact absurd hh (hv v) | «syntax» => rfl | range => rfl
      have ltx := bx3.lt
      have cbx : Cel W4 w3.heap.size [.slice none 0 0, .slice none 0 0, .int .i64 0] 34 := by rw [hW4]; exact cb4
      clear hF b3 bx3 BB cb4
      go_upto_region 4 with fail
      rw [← hW4] at r0 r1 r2 f0 f1 f2 d0 d1 d2 lt4 lt5 BB4 bx4 ⊢
      clear hW4
      have hS0 : (W4.drew.cell? ⟨w3.heap.size, 0, none⟩ = some (.slice none 0 0) ∧ W4.drew.cell? ⟨w3.heap.size, 1, none⟩ = some (.slice none 0 0) ∧ W4.drew.cell? ⟨w3.heap.size, 2, none⟩ = some (.int .i64 0)) ∧ True := ⟨⟨d0, d1, d2⟩, trivial⟩
      refine wp_region_ends (fun X => X.cell? ⟨w3.heap.size, 0, none⟩ = some (.slice none 0 0) ∧ X.cell? ⟨w3.heap.size, 1, none⟩ = some (.slice none 0 0) ∧ X.cell? ⟨w3.heap.size, 2, none⟩ = some (.int .i64 0)) (fun _ => True) 9 (by kernel_rfl) ?_
      refine wpAnyE_take0 (i := 0) (v := ?bnv0) rfl (by kernel_rfl) (by kernel_rfl) (by kernel_rfl) (by decide) (fun _ _ _ h => h) (Or.inl ⟨by rfl, ?bnhy0⟩) hS0 ?_
      case bnhy0 => (intro wz hSw; (try dsimp only at hSw); go_simp; try (with_reducible rfl))
      refine wpAnyE_take0 (i := 1) (v := ?bnv1) rfl (by kernel_rfl) (by kernel_rfl) (by kernel_rfl) (by decide) (fun _ _ _ h => h) (Or.inl ⟨by rfl, ?bnhy1⟩) hS0 ?_
      case bnhy1 => (intro wz hSw; (try dsimp only at hSw); go_simp; try (with_reducible rfl))
      refine wpAnyE_take0 (i := 2) (v := ?bnv2) rfl (by kernel_rfl) (by kernel_rfl) (by kernel_rfl) (by decide) (fun _ _ _ h => h) (Or.inl ⟨by rfl, ?bnhy2⟩) hS0 ?_
      case bnhy2 => (intro wz hSw; (try dsimp only at hSw); go_simp; try (with_reducible rfl))
      refine wpAnyE_take0 (i := 3) (v := ?bnv3) rfl (by kernel_rfl) (by kernel_rfl) (by kernel_rfl) (by decide) (fun _ _ _ h => h) (Or.inl ⟨by rfl, ?bnhy3⟩) hS0 ?_
      case bnhy3 => (intro wz hSw; (try dsimp only at hSw); go_simp; try (with_reducible rfl))
      refine wpAnyE_take0 (i := 4) (v := undef) rfl (by kernel_rfl) (by kernel_rfl) (by kernel_rfl) (by decide) (fun _ _ _ h => h) (Or.inr ⟨by rfl, rfl⟩) hS0 ?_
      refine wpAnyE_take0 (i := 5) (v := undef) rfl (by kernel_rfl) (by kernel_rfl) (by kernel_rfl) (by decide) (fun _ _ _ h => h) (Or.inr ⟨by rfl, rfl⟩) hS0 ?_
      refine wpAnyE_take0 (i := 6) (v := ?bnv6) rfl (by kernel_rfl) (by kernel_rfl) (by kernel_rfl) (by decide) (fun _ _ _ h => h) (Or.inl ⟨by rfl, ?bnhy6⟩) hS0 ?_
      case bnhy6 => (intro wz hSw; (try dsimp only at hSw); go_simp; try (with_reducible rfl))
      refine wpAnyE_take0 (i := 7) (v := ?bnv7) rfl (by kernel_rfl) (by kernel_rfl) (by kernel_rfl) (by decide) (fun _ _ _ h => h) (Or.inl ⟨by rfl, ?bnhy7⟩) hS0 ?_
      case bnhy7 => (intro wz hSw; (try dsimp only at hSw); go_simp; try (with_reducible rfl))
      have lt6 : w.heap.size < w3.heap.size := ltx
      have e8 := ((cbx.setOther (show w3.heap.size ≠ w.heap.size by omega) 0 (.slice none 0 0)).setOther (show w3.heap.size ≠ w.heap.size by omega) 1 (.slice none 0 0)).setOther (show w3.heap.size ≠ w.heap.size by omega) 2 (.int .i64 0)
      refine wpAnyE_one (i := 8) (by kernel_rfl) rfl (fun Kn hK => ?_)
      go_simp
      refine hK.out _ _ ⟨⟨e8.cell 0, e8.cell 1, e8.cell 2⟩, fun _ => trivial⟩ ?_
      clear hK
      refine wpAnyE_one (i := 9) (by kernel_rfl) rfl (fun Kn hK => ?_)
      go_simp
      refine hK.out _ _ ⟨⟨e8.cell 0, e8.cell 1, e8.cell 2⟩, fun _ => trivial⟩ ?_
      clear hK
      refine wpAnyE_done (by kernel_rfl) ?_ _
      clear hS0 e8
      go_wp2
      refine bodyPost_ret (v := .tuple #[.int .i64 z, formV none 0 0 none 0 0 0, .bool false]) (by simp [results, Tryz.results62, go_sem, r0, r1, r2]) rfl (Or.inr ⟨HR.out, _, _, _, _, _, _, _, _, rfl, ?_⟩)
      exact (((BB4.setCell (Nat.le_refl _) _).setCell (Nat.le_refl _) _).setCell (Nat.le_refl _) _).drew


end Go.Proofs.YtfkcfjkojfnfnaaGreatDoor

namespace Go.Proofs.YtfkcfjkojfnfnaaGreatDoor
open Go.RowKit
set_option linter.unusedVariables false
set_option maxRecDepth 100000

theorem li_test {l wd rest : List UInt8} {f : Bool} {r : Option (Int × FR)} (hc : Lib.cut l [32] = (wd, rest, f)) (h : wd = testW) (hr : numForm rest = r) : lineI l = r.map fun r => (1, 0, r.1, r.2) := by
  rw [lineI, hc]; show (if wd = testW then _ else _) = _; rw [if_pos h, hr]
theorem li_add {l wd rest : List UInt8} {f : Bool} {r : Option (Int × FR)} (hc : Lib.cut l [32] = (wd, rest, f)) (h0 : ¬ wd = testW) (h : wd = addW) (hr : numForm rest = r) : lineI l = r.map fun r => (2, r.1, 0, r.2) := by
  rw [lineI, hc]; show (if wd = testW then _ else if wd = addW then _ else _) = _; rw [if_neg h0, if_pos h, hr]
theorem li_print {l wd rest : List UInt8} {f : Bool} {r : FR × Bool} (hc : Lib.cut l [32] = (wd, rest, f)) (h0 : ¬ wd = testW) (h1 : ¬ wd = addW) (h : wd = printW) (hr : rfF rest = r) : lineI l = if r.2 = true then some (3, 0, 0, r.1) else none := by
  rw [lineI, hc]; show (if wd = testW then _ else if wd = addW then _ else if wd = printW then _ else _) = _; rw [if_neg h0, if_neg h1, if_pos h]; show (if (rfF rest).2 = true then some (3, 0, 0, (rfF rest).1) else none) = _; rw [hr]
theorem li_stop {l wd rest : List UInt8} {f : Bool} (hc : Lib.cut l [32] = (wd, rest, f)) (h0 : ¬ wd = testW) (h1 : ¬ wd = addW) (h2 : ¬ wd = printW) (h : wd = stopT) : lineI l = some stopR := by
  rw [lineI, hc]; show (if wd = testW then _ else if wd = addW then _ else if wd = printW then _ else if wd = stopT then _ else _) = _; rw [if_neg h0, if_neg h1, if_neg h2, if_pos h]
theorem li_none {l wd rest : List UInt8} {f : Bool} (hc : Lib.cut l [32] = (wd, rest, f)) (h0 : ¬ wd = testW) (h1 : ¬ wd = addW) (h2 : ¬ wd = printW) (h : ¬ wd = stopT) : lineI l = none := by
  rw [lineI, hc]; show (if wd = testW then _ else if wd = addW then _ else if wd = printW then _ else if wd = stopT then _ else _) = _; rw [if_neg h0, if_neg h1, if_neg h2, if_neg h]

set_option maxHeartbeats 12800000 in
theorem iline_any (l : List UInt8) (w : World) (hl : l.length ≤ 120) (hA : ReadsN w) (hSp : Splits w) (hCu : Cuts w) (hT : Lib.TabBelow Tryz.prog w.heap.size w "internal/strconv.uint64pow10" .u64 Lib.pow10Tab) :
    Calls Tryz.prog 39 #[.string ⟨l.toArray⟩] w fun e w' =>
      (∃ (k p z : Int) (C D : List Int) (K : Int) (a : Option Addr) (n cap : Nat) (c : Option Addr) (m cap' : Nat) (B1 B2 : Nat), lineI l = some (k, p, z, C, D, K) ∧ e = .returned (.tuple #[lineV k p z a n cap c m cap' K, .bool true]) ∧ C.length = n ∧ D.length = m ∧ (n ≤ 3 ∧ m ≤ 2) ∧ Below w.heap.size w w' ∧ OwnAt w' a B1 C ∧ OwnAt w' c B2 D ∧ (0 < n → w.heap.size ≤ B1) ∧ (0 < m → w.heap.size ≤ B2) ∧ (0 < n → 0 < m → B1 ≠ B2)) ∨
      (lineI l = none ∧ ∃ (k p z : Int) (a : Option Addr) (n cap : Nat) (c : Option Addr) (m cap' : Nat) (K : Int), e = .returned (.tuple #[lineV k p z a n cap c m cap' K, .bool false]) ∧ Below w.heap.size w w') := by
  have HA : Hid _ := hA
  have HS : Hid _ := hSp
  have HC : Hid _ := hCu
  have HTB : Hid _ := hT
  clear hA hSp hCu hT
  have bx := Cel.new w [.int .i64 0, .int .i64 0, .int .i64 0, .slice none 0 0, .slice none 0 0, .int .i64 0] 36
  have B0 := (Below.refl w.heap.size w).alloc (Nat.le_refl _) (.cells #[.int .i64 0, .int .i64 0, .int .i64 0, .slice none 0 0, .slice none 0 0, .int .i64 0] 36)
  obtain ⟨⟨wd, rest, f⟩, hc⟩ : ∃ r, Lib.cut l [32] = r := ⟨_, rfl⟩
  obtain ⟨lm, lq⟩ := cut_len hc
  have hq120 : rest.length ≤ 120 := by omega
  have HCU : Hid _ := hc
  go_enter Tryz.func39, Tryz.ntmps39
  go_wp2_with fail
  refine (HC.out _ B0 l 32 hl).mono ?_
  rintro e w1 ⟨rfl, b1⟩
  rw [hc]
  have BW1 := B0.trans (b1.mono B0.size)
  have bx1 := bx.below b1
  have zw1 : w.heap.size < w1.heap.size := bx1.lt
  clear b1 B0 bx hc lm lq
  by_cases h_testW : wd = testW
  · have HE : Hid _ := h_testW
    have hp_testW : wd = [116, 101, 115, 116] := h_testW
    have hq_testW : (wd == [116, 101, 115, 116]) = true := by rw [hp_testW]; rfl
    clear h_testW
    go_wp2_with fail
    refine (inumform_any rest _ hq120 (ReadsN.below HA.out BW1) (Splits.belowA HS.out BW1) (Cuts.below HC.out BW1) (fun w' h' => HTB.out w' (BW1.trans (h'.mono BW1.size)))).mono ?_
    rintro e w3 (⟨z, C, D, K, B1, B2, hF, rfl, l1, l2, b3, o1, o12, o2, k1, k2⟩ | ⟨hF, z, a, n, cap, c, m, cap', K, rfl, b3⟩)
    · clear hp_testW hq_testW
      have bx3 := (bx1.below b3).alloc (.cells #[.slice (some ⟨B1, 0, none⟩) 3 3, .slice (some ⟨B2, 0, none⟩) 2 2, .int .i64 K] 34)
      have BB := BW1.trans (b3.mono BW1.size)
      have BB4 := BB.alloc BB.size (.cells #[.slice (some ⟨B1, 0, none⟩) 3 3, .slice (some ⟨B2, 0, none⟩) 2 2, .int .i64 K] 34)
      have cb := Cel.new w3 [.slice (some ⟨B1, 0, none⟩) 3 3, .slice (some ⟨B2, 0, none⟩) 2 2, .int .i64 K] 34
      have k1' := k1.alloc (.cells #[.slice (some ⟨B1, 0, none⟩) 3 3, .slice (some ⟨B2, 0, none⟩) 2 2, .int .i64 K] 34)
      have k2' := k2.alloc (.cells #[.slice (some ⟨B1, 0, none⟩) 3 3, .slice (some ⟨B2, 0, none⟩) 2 2, .int .i64 K] 34)
      have zB1 : w.heap.size < B1 := by omega
      have zB2 : w.heap.size < B2 := by omega
      obtain ⟨r0, r1, r2, r3, r4, r5⟩ := bx3.six
      obtain ⟨f0, f1, f2, f3, f4, f5⟩ := bx3.frees
      have lt3 := bx3.lt
      have d0 := cb.cell 0
      have d1 := cb.cell 1
      have d2 := cb.cell 2
      simp only [List.getElem?_cons_zero, List.getElem?_cons_succ] at d0 d1 d2
      have lt4 := cb.lt
      have HR : Hid _ := (li_test HCU.out HE.out hF)
      clear bx1 bx3 cb BB b3
      go_wp2
      refine bodyPost_ret (v := .tuple #[lineV 1 0 z (some ⟨B1, 0, none⟩) 3 3 (some ⟨B2, 0, none⟩) 2 2 K, .bool true]) (by simp [results, Tryz.results39, go_sem, r0, r1, r2, r3, r4, r5]) rfl (Or.inl ⟨1, 0, z, C, D, K, _, _, _, _, _, _, B1, B2, HR.out, rfl, l1, l2, ⟨by omega, by omega⟩, ?_, .inr ⟨rfl, ?_⟩, .inr ⟨rfl, ?_⟩, (fun _ => by omega), (fun _ => by omega), fun _ _ => o12⟩)
      · exact (((((BB4.setCell (Nat.le_refl _) _).setCell (Nat.le_refl _) _).setCell (Nat.le_refl _) _).setCell (Nat.le_refl _) _).setCell (Nat.le_refl _) _).setCell (Nat.le_refl _) _
      · exact (((((k1'.setOther (by omega) _ _).setOther (by omega) _ _).setOther (by omega) _ _).setOther (by omega) _ _).setOther (by omega) _ _).setOther (by omega) _ _
      · exact (((((k2'.setOther (by omega) _ _).setOther (by omega) _ _).setOther (by omega) _ _).setOther (by omega) _ _).setOther (by omega) _ _).setOther (by omega) _ _
    · clear hp_testW hq_testW
      have bx3 := (bx1.below b3).alloc (.cells #[.slice a n cap, .slice c m cap', .int .i64 K] 34)
      have BB := BW1.trans (b3.mono BW1.size)
      have BB4 := BB.alloc BB.size (.cells #[.slice a n cap, .slice c m cap', .int .i64 K] 34)
      have cb := Cel.new w3 [.slice a n cap, .slice c m cap', .int .i64 K] 34
      obtain ⟨r0, r1, r2, r3, r4, r5⟩ := bx3.six
      obtain ⟨f0, f1, f2, f3, f4, f5⟩ := bx3.frees
      have lt3 := bx3.lt
      have d0 := cb.cell 0
      have d1 := cb.cell 1
      have d2 := cb.cell 2
      simp only [List.getElem?_cons_zero, List.getElem?_cons_succ] at d0 d1 d2
      have lt4 := cb.lt
      have HR : Hid _ := (li_test HCU.out HE.out hF)
      clear bx1 bx3 cb BB b3
      go_wp2
      refine bodyPost_ret (v := .tuple #[lineV 1 0 z a n cap c m cap' K, .bool false]) (by simp [results, Tryz.results39, go_sem, r0, r1, r2, r3, r4, r5]) rfl (Or.inr ⟨HR.out, _, _, _, _, _, _, _, _, _, _, rfl, ?_⟩)
      exact (((((BB4.setCell (Nat.le_refl _) _).setCell (Nat.le_refl _) _).setCell (Nat.le_refl _) _).setCell (Nat.le_refl _) _).setCell (Nat.le_refl _) _).setCell (Nat.le_refl _) _
  have N1 : Hid _ := h_testW
  have hp_testW : ¬ wd = [116, 101, 115, 116] := h_testW
  have hq_testW : (wd == [116, 101, 115, 116]) = false := by simpa using hp_testW
  clear h_testW
  by_cases h_addW : wd = addW
  · have HE : Hid _ := h_addW
    have hp_addW : wd = [97, 100, 100] := h_addW
    have hq_addW : (wd == [97, 100, 100]) = true := by rw [hp_addW]; rfl
    clear h_addW
    go_wp2_with fail
    refine (inumform_any rest _ hq120 (ReadsN.below HA.out BW1) (Splits.belowA HS.out BW1) (Cuts.below HC.out BW1) (fun w' h' => HTB.out w' (BW1.trans (h'.mono BW1.size)))).mono ?_
    rintro e w3 (⟨z, C, D, K, B1, B2, hF, rfl, l1, l2, b3, o1, o12, o2, k1, k2⟩ | ⟨hF, z, a, n, cap, c, m, cap', K, rfl, b3⟩)
    · clear hp_testW hq_testW hp_addW hq_addW
      have bx3 := (bx1.below b3).alloc (.cells #[.slice (some ⟨B1, 0, none⟩) 3 3, .slice (some ⟨B2, 0, none⟩) 2 2, .int .i64 K] 34)
      have BB := BW1.trans (b3.mono BW1.size)
      have BB4 := BB.alloc BB.size (.cells #[.slice (some ⟨B1, 0, none⟩) 3 3, .slice (some ⟨B2, 0, none⟩) 2 2, .int .i64 K] 34)
      have cb := Cel.new w3 [.slice (some ⟨B1, 0, none⟩) 3 3, .slice (some ⟨B2, 0, none⟩) 2 2, .int .i64 K] 34
      have k1' := k1.alloc (.cells #[.slice (some ⟨B1, 0, none⟩) 3 3, .slice (some ⟨B2, 0, none⟩) 2 2, .int .i64 K] 34)
      have k2' := k2.alloc (.cells #[.slice (some ⟨B1, 0, none⟩) 3 3, .slice (some ⟨B2, 0, none⟩) 2 2, .int .i64 K] 34)
      have zB1 : w.heap.size < B1 := by omega
      have zB2 : w.heap.size < B2 := by omega
      obtain ⟨r0, r1, r2, r3, r4, r5⟩ := bx3.six
      obtain ⟨f0, f1, f2, f3, f4, f5⟩ := bx3.frees
      have lt3 := bx3.lt
      have d0 := cb.cell 0
      have d1 := cb.cell 1
      have d2 := cb.cell 2
      simp only [List.getElem?_cons_zero, List.getElem?_cons_succ] at d0 d1 d2
      have lt4 := cb.lt
      have HR : Hid _ := (li_add HCU.out N1.out HE.out hF)
      clear bx1 bx3 cb BB b3
      go_wp2
      refine bodyPost_ret (v := .tuple #[lineV 2 z 0 (some ⟨B1, 0, none⟩) 3 3 (some ⟨B2, 0, none⟩) 2 2 K, .bool true]) (by simp [results, Tryz.results39, go_sem, r0, r1, r2, r3, r4, r5]) rfl (Or.inl ⟨2, z, 0, C, D, K, _, _, _, _, _, _, B1, B2, HR.out, rfl, l1, l2, ⟨by omega, by omega⟩, ?_, .inr ⟨rfl, ?_⟩, .inr ⟨rfl, ?_⟩, (fun _ => by omega), (fun _ => by omega), fun _ _ => o12⟩)
      · exact (((((BB4.setCell (Nat.le_refl _) _).setCell (Nat.le_refl _) _).setCell (Nat.le_refl _) _).setCell (Nat.le_refl _) _).setCell (Nat.le_refl _) _).setCell (Nat.le_refl _) _
      · exact (((((k1'.setOther (by omega) _ _).setOther (by omega) _ _).setOther (by omega) _ _).setOther (by omega) _ _).setOther (by omega) _ _).setOther (by omega) _ _
      · exact (((((k2'.setOther (by omega) _ _).setOther (by omega) _ _).setOther (by omega) _ _).setOther (by omega) _ _).setOther (by omega) _ _).setOther (by omega) _ _
    · clear hp_testW hq_testW hp_addW hq_addW
      have bx3 := (bx1.below b3).alloc (.cells #[.slice a n cap, .slice c m cap', .int .i64 K] 34)
      have BB := BW1.trans (b3.mono BW1.size)
      have BB4 := BB.alloc BB.size (.cells #[.slice a n cap, .slice c m cap', .int .i64 K] 34)
      have cb := Cel.new w3 [.slice a n cap, .slice c m cap', .int .i64 K] 34
      obtain ⟨r0, r1, r2, r3, r4, r5⟩ := bx3.six
      obtain ⟨f0, f1, f2, f3, f4, f5⟩ := bx3.frees
      have lt3 := bx3.lt
      have d0 := cb.cell 0
      have d1 := cb.cell 1
      have d2 := cb.cell 2
      simp only [List.getElem?_cons_zero, List.getElem?_cons_succ] at d0 d1 d2
      have lt4 := cb.lt
      have HR : Hid _ := (li_add HCU.out N1.out HE.out hF)
      clear bx1 bx3 cb BB b3
      go_wp2
      refine bodyPost_ret (v := .tuple #[lineV 2 z 0 a n cap c m cap' K, .bool false]) (by simp [results, Tryz.results39, go_sem, r0, r1, r2, r3, r4, r5]) rfl (Or.inr ⟨HR.out, _, _, _, _, _, _, _, _, _, _, rfl, ?_⟩)
      exact (((((BB4.setCell (Nat.le_refl _) _).setCell (Nat.le_refl _) _).setCell (Nat.le_refl _) _).setCell (Nat.le_refl _) _).setCell (Nat.le_refl _) _).setCell (Nat.le_refl _) _
  have N2 : Hid _ := h_addW
  have hp_addW : ¬ wd = [97, 100, 100] := h_addW
  have hq_addW : (wd == [97, 100, 100]) = false := by simpa using hp_addW
  clear h_addW
  by_cases h_printW : wd = printW
  · have HE : Hid _ := h_printW
    have hp_printW : wd = [112, 114, 105, 110, 116] := h_printW
    have hq_printW : (wd == [112, 114, 105, 110, 116]) = true := by rw [hp_printW]; rfl
    clear h_printW
    go_wp2_with fail
    refine (ifread_any rest _ (by omega) (ReadsN.below HA.out BW1) (Splits.belowA HS.out BW1) (Cuts.below HC.out BW1) (fun w' h' => HTB.out w' (BW1.trans (h'.mono BW1.size)))).mono ?_
    rintro e w3 (⟨C, D, K, B1, B2, hF, rfl, l1, l2, b3, o1, o12, o2, k1, k2⟩ | ⟨hF, rfl, b3⟩)
    · clear hp_testW hq_testW hp_addW hq_addW hp_printW hq_printW
      have bx3 := (bx1.below b3).alloc (.cells #[.slice (some ⟨B1, 0, none⟩) 3 3, .slice (some ⟨B2, 0, none⟩) 2 2, .int .i64 K] 34)
      have BB := BW1.trans (b3.mono BW1.size)
      have BB4 := BB.alloc BB.size (.cells #[.slice (some ⟨B1, 0, none⟩) 3 3, .slice (some ⟨B2, 0, none⟩) 2 2, .int .i64 K] 34)
      have cb := Cel.new w3 [.slice (some ⟨B1, 0, none⟩) 3 3, .slice (some ⟨B2, 0, none⟩) 2 2, .int .i64 K] 34
      have k1' := k1.alloc (.cells #[.slice (some ⟨B1, 0, none⟩) 3 3, .slice (some ⟨B2, 0, none⟩) 2 2, .int .i64 K] 34)
      have k2' := k2.alloc (.cells #[.slice (some ⟨B1, 0, none⟩) 3 3, .slice (some ⟨B2, 0, none⟩) 2 2, .int .i64 K] 34)
      have zB1 : w.heap.size < B1 := by omega
      have zB2 : w.heap.size < B2 := by omega
      obtain ⟨r0, r1, r2, r3, r4, r5⟩ := bx3.six
      obtain ⟨f0, f1, f2, f3, f4, f5⟩ := bx3.frees
      have lt3 := bx3.lt
      have d0 := cb.cell 0
      have d1 := cb.cell 1
      have d2 := cb.cell 2
      simp only [List.getElem?_cons_zero, List.getElem?_cons_succ] at d0 d1 d2
      have lt4 := cb.lt
      have HR : Hid _ := (li_print HCU.out N1.out N2.out HE.out hF)
      clear bx1 bx3 cb BB b3
      go_wp2
      refine bodyPost_ret (v := .tuple #[lineV 3 0 0 (some ⟨B1, 0, none⟩) 3 3 (some ⟨B2, 0, none⟩) 2 2 K, .bool true]) (by simp [results, Tryz.results39, go_sem, r0, r1, r2, r3, r4, r5]) rfl (Or.inl ⟨3, 0, 0, C, D, K, _, _, _, _, _, _, B1, B2, HR.out, rfl, l1, l2, ⟨by omega, by omega⟩, ?_, .inr ⟨rfl, ?_⟩, .inr ⟨rfl, ?_⟩, (fun _ => by omega), (fun _ => by omega), fun _ _ => o12⟩)
      · exact (((((BB4.setCell (Nat.le_refl _) _).setCell (Nat.le_refl _) _).setCell (Nat.le_refl _) _).setCell (Nat.le_refl _) _).setCell (Nat.le_refl _) _).setCell (Nat.le_refl _) _
      · exact (((((k1'.setOther (by omega) _ _).setOther (by omega) _ _).setOther (by omega) _ _).setOther (by omega) _ _).setOther (by omega) _ _).setOther (by omega) _ _
      · exact (((((k2'.setOther (by omega) _ _).setOther (by omega) _ _).setOther (by omega) _ _).setOther (by omega) _ _).setOther (by omega) _ _).setOther (by omega) _ _
    · clear hp_testW hq_testW hp_addW hq_addW hp_printW hq_printW
      have bx3 := (bx1.below b3).alloc (.cells #[.slice none 0 0, .slice none 0 0, .int .i64 0] 34)
      have BB := BW1.trans (b3.mono BW1.size)
      have BB4 := BB.alloc BB.size (.cells #[.slice none 0 0, .slice none 0 0, .int .i64 0] 34)
      have cb := Cel.new w3 [.slice none 0 0, .slice none 0 0, .int .i64 0] 34
      obtain ⟨r0, r1, r2, r3, r4, r5⟩ := bx3.six
      obtain ⟨f0, f1, f2, f3, f4, f5⟩ := bx3.frees
      have lt3 := bx3.lt
      have d0 := cb.cell 0
      have d1 := cb.cell 1
      have d2 := cb.cell 2
      simp only [List.getElem?_cons_zero, List.getElem?_cons_succ] at d0 d1 d2
      have lt4 := cb.lt
      have HR : Hid _ := (li_print HCU.out N1.out N2.out HE.out hF)
      clear bx1 bx3 cb BB b3
      go_wp2
      refine bodyPost_ret (v := .tuple #[lineV 3 0 0 none 0 0 none 0 0 0, .bool false]) (by simp [results, Tryz.results39, go_sem, r0, r1, r2, r3, r4, r5]) rfl (Or.inr ⟨HR.out, _, _, _, _, _, _, _, _, _, _, rfl, ?_⟩)
      exact (((((BB4.setCell (Nat.le_refl _) _).setCell (Nat.le_refl _) _).setCell (Nat.le_refl _) _).setCell (Nat.le_refl _) _).setCell (Nat.le_refl _) _).setCell (Nat.le_refl _) _
  have N3 : Hid _ := h_printW
  have hp_printW : ¬ wd = [112, 114, 105, 110, 116] := h_printW
  have hq_printW : (wd == [112, 114, 105, 110, 116]) = false := by simpa using hp_printW
  clear h_printW
  have bx3 := bx1
  obtain ⟨r0, r1, r2, r3, r4, r5⟩ := bx3.six
  obtain ⟨f0, f1, f2, f3, f4, f5⟩ := bx3.frees
  have lt3 := bx3.lt
  by_cases h_stopT : wd = stopT
  · have HR : Hid _ := li_stop HCU.out N1.out N2.out N3.out h_stopT
    have hp_stopT : wd = [115, 116, 111, 112] := h_stopT
    have hq_stopT : (wd == [115, 116, 111, 112]) = true := by rw [hp_stopT]; rfl
    go_wp2
    refine bodyPost_ret (v := .tuple #[lineV 4 0 0 none 0 0 none 0 0 0, .bool true]) (by simp [results, Tryz.results39, go_sem, r0, r1, r2, r3, r4, r5]) rfl (Or.inl ⟨4, 0, 0, [], [], 0, none, 0, 0, none, 0, 0, 0, 0, HR.out, rfl, rfl, rfl, ⟨by omega, by omega⟩, ?_, .inl rfl, .inl rfl, (fun h => by omega), (fun h => by omega), fun h => by omega⟩)
    exact (((((BW1.setCell (Nat.le_refl _) _).setCell (Nat.le_refl _) _).setCell (Nat.le_refl _) _).setCell (Nat.le_refl _) _).setCell (Nat.le_refl _) _).setCell (Nat.le_refl _) _
  · have HR : Hid _ := li_none HCU.out N1.out N2.out N3.out h_stopT
    have hp_stopT : ¬ wd = [115, 116, 111, 112] := h_stopT
    have hq_stopT : (wd == [115, 116, 111, 112]) = false := by simpa using hp_stopT
    go_wp2
    refine bodyPost_ret (v := .tuple #[lineV 0 0 0 none 0 0 none 0 0 0, .bool false]) (by simp [results, Tryz.results39, go_sem, r0, r1, r2, r3, r4, r5]) rfl (Or.inr ⟨HR.out, _, _, _, _, _, _, _, _, _, _, rfl, ?_⟩)
    exact (((((BW1.setCell (Nat.le_refl _) _).setCell (Nat.le_refl _) _).setCell (Nat.le_refl _) _).setCell (Nat.le_refl _) _).setCell (Nat.le_refl _) _).setCell (Nat.le_refl _) _

end Go.Proofs.YtfkcfjkojfnfnaaGreatDoor
namespace Go.Proofs.YtfkcfjkojfnfnaaGreatDoor
open Go.RowKit
set_option linter.unusedVariables false
set_option maxRecDepth 100000

theorem Tryz.textTest (v : Value) (w : World) : (Go.method 335 103 v "loop.example/concord/impl.text").run Tryz.prog w = .ok (157, v) w := by kernel_rfl
theorem Tryz.textAdd (v : Value) (w : World) : (Go.method 335 105 v "loop.example/concord/impl.text").run Tryz.prog w = .ok (158, v) w := by kernel_rfl
theorem Tryz.textPrint (v : Value) (w : World) : (Go.method 335 107 v "loop.example/concord/impl.text").run Tryz.prog w = .ok (159, v) w := by kernel_rfl
theorem Tryz.textStop (v : Value) (w : World) : (Go.method 335 109 v "loop.example/concord/impl.text").run Tryz.prog w = .ok (160, v) w := by kernel_rfl

set_option maxHeartbeats 6400000 in
theorem itest_text (skip : Int) (a : Option Addr) (cap : Nat) (c : Option Addr) (cap' : Nat) (K : Int) (C D : List Int) (w : World) (hC : Ints w a 3 C) (hD : Ints w c 2 D) (hs : smallB 3 2 C D K = true) (y1 : -10 ≤ skip) (y2 : skip ≤ 10) (hT : Lib.TabBelow Tryz.prog w.heap.size w "internal/strconv.uint64pow10" .u64 Lib.pow10Tab) :
    Calls Tryz.prog 157 #[.agg #[.int .i64 skip, .slice a 3 cap, .slice c 2 cap', .int .i64 K]] w fun e w' => e = .returned (.string ⟨(testW ++ 32 :: (Lib.itoa skip ++ 32 :: formText 3 2 C D K)).toArray⟩) ∧ Below w.heap.size w w' := by
  have HTB : Hid _ := hT
  clear hT
  obtain ⟨-, -, bC, bD, bK1, bK2⟩ := small_bnd hs
  have BC : Hid _ := bC
  have BD : Hid _ := bD
  obtain ⟨F, hF⟩ : ∃ F, F = formText 3 2 C D K := ⟨_, rfl⟩
  have hFl : F.length ≤ 400 := by rw [hF]; exact form_len hs
  have HF : Hid (spaced (timesL 120 C 3 ++ timesL 97 D 2) ++ Lib.itoa K = F) := by show _ = _; rw [hF, formText_yes (small_ok hs)]
  have HAT : Hid (testW ++ 32 :: (Lib.itoa skip ++ 32 :: formText 3 2 C D K) = testW ++ 32 :: (Lib.itoa skip ++ 32 :: F)) := by show _ = _; rw [hF]
  clear hF hs bC bD
  have l1 := Lib.itoa_length_le skip (by omega) (by omega)
  obtain ⟨T1, e1⟩ : ∃ T : ByteArray, T = ⟨(Lib.itoa skip).toArray⟩ := ⟨_, rfl⟩
  have s1 : T1.size ≤ 21 := by rw [e1]; simpa [ByteArray.size] using l1
  have E1 : Hid _ := e1
  clear l1 e1
  obtain ⟨T2, e2⟩ : ∃ T : ByteArray, T = ⟨F.toArray⟩ := ⟨_, rfl⟩
  have s2 : T2.size ≤ 400 := by rw [e2]; simpa [ByteArray.size] using hFl
  have E2 : Hid _ := e2
  clear e2
  obtain ⟨R1, hR1⟩ : ∃ R : ByteArray, R = (⟨#[116, 101, 115, 116, 32]⟩ : ByteArray) ++ (T1 : ByteArray) := ⟨_, rfl⟩
  have z1 : R1.size ≤ 50 := by rw [hR1, ByteArray.size_append]; first | omega | (have := (show (⟨#[116, 101, 115, 116, 32]⟩ : ByteArray).size ≤ 5 by decide); omega)
  have A1 : ∀ X : World, (Op.stringOp .add (⟨#[116, 101, 115, 116, 32]⟩ : ByteArray) (T1 : ByteArray)).run Tryz.prog X = .ok (.string R1) X := fun X => by rw [hR1]; exact run_string_add_sum X _ _ (by rw [← ByteArray.size_append, ← hR1]; omega)
  have HR1 : Hid _ := hR1
  clear hR1
  obtain ⟨R2, hR2⟩ : ∃ R : ByteArray, R = (R1 : ByteArray) ++ (⟨#[32]⟩ : ByteArray) := ⟨_, rfl⟩
  have z2 : R2.size ≤ 60 := by rw [hR2, ByteArray.size_append]; first | omega | (have := (show (⟨#[32]⟩ : ByteArray).size ≤ 5 by decide); omega)
  have A2 : ∀ X : World, (Op.stringOp .add (R1 : ByteArray) (⟨#[32]⟩ : ByteArray)).run Tryz.prog X = .ok (.string R2) X := fun X => by rw [hR2]; exact run_string_add_sum X _ _ (by rw [← ByteArray.size_append, ← hR2]; omega)
  have HR2 : Hid _ := hR2
  clear hR2
  obtain ⟨R3, hR3⟩ : ∃ R : ByteArray, R = (R2 : ByteArray) ++ (T2 : ByteArray) := ⟨_, rfl⟩
  have z3 : R3.size ≤ 470 := by rw [hR3, ByteArray.size_append]; first | omega | (have := (show (T2 : ByteArray).size ≤ 5 by decide); omega)
  have A3 : ∀ X : World, (Op.stringOp .add (R2 : ByteArray) (T2 : ByteArray)).run Tryz.prog X = .ok (.string R3) X := fun X => by rw [hR3]; exact run_string_add_sum X _ _ (by rw [← ByteArray.size_append, ← hR3]; omega)
  have HR3 : Hid _ := hR3
  clear hR3
  go_enter Tryz.func157, Tryz.ntmps157
  go_upto_region 1 with fail
  obtain ⟨W, hW⟩ : ∃ W, W = w.alloc (.cells #[.int .i64 skip, .slice a 3 cap, .slice c 2 cap', .int .i64 K] 103) := ⟨_, rfl⟩
  have q_1 := Cel.new w [.int .i64 skip, .slice a 3 cap, .slice c 2 cap', .int .i64 K] 103
  have B_1 := (Below.refl w.heap.size w).alloc (Nat.le_refl _) (.cells #[.int .i64 skip, .slice a 3 cap, .slice c 2 cap', .int .i64 K] 103)
  rw [← hW] at q_1 B_1 ⊢
  clear hW
  have CC : Hid (∀ X : World, Cel X w.heap.size [.int .i64 skip, .slice a 3 cap, .slice c 2 cap', .int .i64 K] 103 → X.cell? ⟨w.heap.size, 0, none⟩ = some (.int .i64 skip) ∧ X.cell? ⟨w.heap.size, 1, none⟩ = some (.slice a 3 cap) ∧ X.cell? ⟨w.heap.size, 2, none⟩ = some (.slice c 2 cap') ∧ X.cell? ⟨w.heap.size, 3, none⟩ = some (.int .i64 K)) := fun X h => ⟨h.cell 0, h.cell 1, h.cell 2, h.cell 3⟩
  have hS0 : (W.drew.cell? ⟨w.heap.size, 0, none⟩ = some (.int .i64 skip) ∧ W.drew.cell? ⟨w.heap.size, 1, none⟩ = some (.slice a 3 cap) ∧ W.drew.cell? ⟨w.heap.size, 2, none⟩ = some (.slice c 2 cap') ∧ W.drew.cell? ⟨w.heap.size, 3, none⟩ = some (.int .i64 K)) ∧ True := ⟨CC.out _ q_1, trivial⟩
  refine wp_region_ends (fun X => X.cell? ⟨w.heap.size, 0, none⟩ = some (.int .i64 skip) ∧ X.cell? ⟨w.heap.size, 1, none⟩ = some (.slice a 3 cap) ∧ X.cell? ⟨w.heap.size, 2, none⟩ = some (.slice c 2 cap') ∧ X.cell? ⟨w.heap.size, 3, none⟩ = some (.int .i64 K)) (fun _ => True) 9 (by kernel_rfl) ?_
  refine wpAnyE_take0 (i := 0) (v := ?t0v0) rfl (by kernel_rfl) (by kernel_rfl) (by kernel_rfl) (by decide) (fun _ _ _ h => h) (Or.inl ⟨by rfl, ?t0hy0⟩) hS0 ?_
  case t0hy0 => (intro wz hSw; (try dsimp only at hSw); go_simp; try (with_reducible rfl))
  refine wpAnyE_take0 (i := 1) (v := ?t0v1) rfl (by kernel_rfl) (by kernel_rfl) (by kernel_rfl) (by decide) (fun _ _ _ h => h) (Or.inl ⟨by rfl, ?t0hy1⟩) hS0 ?_
  case t0hy1 => (intro wz hSw; (try dsimp only at hSw); go_simp; try (with_reducible rfl))
  refine wpAnyE_take0 (i := 5) (v := ?t0v5) rfl (by kernel_rfl) (by kernel_rfl) (by kernel_rfl) (by decide) (fun _ _ _ h => h) (Or.inl ⟨by rfl, ?t0hy5⟩) hS0 ?_
  case t0hy5 => (intro wz hSw; (try dsimp only at hSw); go_simp; try (with_reducible rfl))
  refine wpAnyE_take0 (i := 6) (v := ?t0v6) rfl (by kernel_rfl) (by kernel_rfl) (by kernel_rfl) (by decide) (fun _ _ _ h => h) (Or.inl ⟨by rfl, ?t0hy6⟩) hS0 ?_
  case t0hy6 => (intro wz hSw; (try dsimp only at hSw); go_simp; try (with_reducible rfl))
  refine wpAnyE_one (i := 2) (by kernel_rfl) rfl (fun Kn hK => ?_)
  go_simp
  refine (Tryz.strconv_Itoa skip (by omega) (by omega) _ (HTB.out _ (by exact Below.drew B_1))).mono ?_
  rintro ee w2 ⟨rfl, qq, os, hw2⟩
  rw [← E1.out]
  have bd_2 : Below W.drew.heap.size W.drew w2 := by rw [hw2]; exact Lib.below_grow _ _ (Nat.le_refl _) _ _
  clear hw2
  have b_2 := below_of_drew bd_2
  have B_2 := B_1.trans (b_2.mono B_1.size)
  have q_2 := q_1.below b_2
  have hS2 : (w2.cell? ⟨w.heap.size, 0, none⟩ = some (.int .i64 skip) ∧ w2.cell? ⟨w.heap.size, 1, none⟩ = some (.slice a 3 cap) ∧ w2.cell? ⟨w.heap.size, 2, none⟩ = some (.slice c 2 cap') ∧ w2.cell? ⟨w.heap.size, 3, none⟩ = some (.int .i64 K)) ∧ True := ⟨CC.out _ q_2, trivial⟩
  dsimp only
  refine hK.out _ _ ⟨hS2.1, fun _ => trivial⟩ ?_
  clear hK hS0
  refine wpAnyE_take0 (i := 3) (v := .string R1) rfl (by kernel_rfl) (by kernel_rfl) (by kernel_rfl) (by decide) (fun _ _ _ h => h) (Or.inl ⟨by rfl, ?t0hy3⟩) hS2 ?_
  case t0hy3 => (intro wz hSw; (try dsimp only at hSw); first | (go_simp; try (with_reducible rfl); done) | (simp only [go_sem, A1]; done) | (go_simp; exact A1 _) | (simp [go_sem, A1]; done) | skip)
  refine wpAnyE_take0 (i := 4) (v := .string R2) rfl (by kernel_rfl) (by kernel_rfl) (by kernel_rfl) (by decide) (fun _ _ _ h => h) (Or.inl ⟨by rfl, ?t0hy4⟩) hS2 ?_
  case t0hy4 => (intro wz hSw; (try dsimp only at hSw); first | (go_simp; try (with_reducible rfl); done) | (simp only [go_sem, A2]; done) | (go_simp; exact A2 _) | (simp [go_sem, A2]; done) | skip)
  refine wpAnyE_one (i := 7) (by kernel_rfl) rfl (fun Kn hK => ?_)
  go_simp
  refine (text_any _ _ _ _ _ C D _ (hC.below B_2) (hD.below B_2) BC.out BD.out (by omega) (by omega) (fun w' h' => HTB.out w' (B_2.trans (h'.mono B_2.size)))).mono ?_
  rintro ee w3 ⟨rfl, b_3⟩
  rw [HF.out, ← E2.out]
  have B_3 := B_2.trans (b_3.mono B_2.size)
  have q_3 := q_2.below b_3
  have hS3 : (w3.cell? ⟨w.heap.size, 0, none⟩ = some (.int .i64 skip) ∧ w3.cell? ⟨w.heap.size, 1, none⟩ = some (.slice a 3 cap) ∧ w3.cell? ⟨w.heap.size, 2, none⟩ = some (.slice c 2 cap') ∧ w3.cell? ⟨w.heap.size, 3, none⟩ = some (.int .i64 K)) ∧ True := ⟨CC.out _ q_3, trivial⟩
  dsimp only
  refine hK.out _ _ ⟨hS3.1, fun _ => trivial⟩ ?_
  clear hK hS2
  refine wpAnyE_take0 (i := 8) (v := .string R3) rfl (by kernel_rfl) (by kernel_rfl) (by kernel_rfl) (by decide) (fun _ _ _ h => h) (Or.inl ⟨by rfl, ?t0hy8⟩) hS3 ?_
  case t0hy8 => (intro wz hSw; (try dsimp only at hSw); first | (go_simp; try (with_reducible rfl); done) | (simp only [go_sem, A3]; done) | (go_simp; exact A3 _) | (simp [go_sem, A3]; done) | skip)
  refine wpAnyE_one (i := 9) (by kernel_rfl) rfl (fun Kn hK => ?_)
  go_simp
  refine hK.out _ _ ⟨hS3.1, fun _ => trivial⟩ ?_
  clear hK
  refine wpAnyE_done (by kernel_rfl) ?_ _
  clear hS3
  go_wp2
  go_ret
  refine ⟨?_, B_3⟩
  rw [HAT.out]
  have : R3 = ⟨(testW ++ 32 :: (Lib.itoa skip ++ 32 :: F)).toArray⟩ := by
    rw [HR3.out, HR2.out, HR1.out, E1.out, E2.out, show (⟨#[116, 101, 115, 116, 32]⟩ : ByteArray) = ⟨(testW ++ [32]).toArray⟩ from rfl, show (⟨#[32]⟩ : ByteArray) = ⟨[32].toArray⟩ from rfl]
    simp [cat_str, List.append_assoc]
  rw [← this]
  rfl

set_option maxHeartbeats 6400000 in
theorem iadd_text (pot : Int) (a : Option Addr) (cap : Nat) (c : Option Addr) (cap' : Nat) (K : Int) (C D : List Int) (w : World) (hC : Ints w a 3 C) (hD : Ints w c 2 D) (hs : smallB 3 2 C D K = true) (y1 : -10 ≤ pot) (y2 : pot ≤ 10) (hT : Lib.TabBelow Tryz.prog w.heap.size w "internal/strconv.uint64pow10" .u64 Lib.pow10Tab) :
    Calls Tryz.prog 158 #[.agg #[.int .i64 pot, .slice a 3 cap, .slice c 2 cap', .int .i64 K]] w fun e w' => e = .returned (.string ⟨(addW ++ 32 :: (Lib.itoa pot ++ 32 :: formText 3 2 C D K)).toArray⟩) ∧ Below w.heap.size w w' := by
  have HTB : Hid _ := hT
  clear hT
  obtain ⟨-, -, bC, bD, bK1, bK2⟩ := small_bnd hs
  have BC : Hid _ := bC
  have BD : Hid _ := bD
  obtain ⟨F, hF⟩ : ∃ F, F = formText 3 2 C D K := ⟨_, rfl⟩
  have hFl : F.length ≤ 400 := by rw [hF]; exact form_len hs
  have HF : Hid (spaced (timesL 120 C 3 ++ timesL 97 D 2) ++ Lib.itoa K = F) := by show _ = _; rw [hF, formText_yes (small_ok hs)]
  have HAT : Hid (addW ++ 32 :: (Lib.itoa pot ++ 32 :: formText 3 2 C D K) = addW ++ 32 :: (Lib.itoa pot ++ 32 :: F)) := by show _ = _; rw [hF]
  clear hF hs bC bD
  have l1 := Lib.itoa_length_le pot (by omega) (by omega)
  obtain ⟨T1, e1⟩ : ∃ T : ByteArray, T = ⟨(Lib.itoa pot).toArray⟩ := ⟨_, rfl⟩
  have s1 : T1.size ≤ 21 := by rw [e1]; simpa [ByteArray.size] using l1
  have E1 : Hid _ := e1
  clear l1 e1
  obtain ⟨T2, e2⟩ : ∃ T : ByteArray, T = ⟨F.toArray⟩ := ⟨_, rfl⟩
  have s2 : T2.size ≤ 400 := by rw [e2]; simpa [ByteArray.size] using hFl
  have E2 : Hid _ := e2
  clear e2
  obtain ⟨R1, hR1⟩ : ∃ R : ByteArray, R = (⟨#[97, 100, 100, 32]⟩ : ByteArray) ++ (T1 : ByteArray) := ⟨_, rfl⟩
  have z1 : R1.size ≤ 50 := by rw [hR1, ByteArray.size_append]; first | omega | (have := (show (⟨#[97, 100, 100, 32]⟩ : ByteArray).size ≤ 5 by decide); omega)
  have A1 : ∀ X : World, (Op.stringOp .add (⟨#[97, 100, 100, 32]⟩ : ByteArray) (T1 : ByteArray)).run Tryz.prog X = .ok (.string R1) X := fun X => by rw [hR1]; exact run_string_add_sum X _ _ (by rw [← ByteArray.size_append, ← hR1]; omega)
  have HR1 : Hid _ := hR1
  clear hR1
  obtain ⟨R2, hR2⟩ : ∃ R : ByteArray, R = (R1 : ByteArray) ++ (⟨#[32]⟩ : ByteArray) := ⟨_, rfl⟩
  have z2 : R2.size ≤ 60 := by rw [hR2, ByteArray.size_append]; first | omega | (have := (show (⟨#[32]⟩ : ByteArray).size ≤ 5 by decide); omega)
  have A2 : ∀ X : World, (Op.stringOp .add (R1 : ByteArray) (⟨#[32]⟩ : ByteArray)).run Tryz.prog X = .ok (.string R2) X := fun X => by rw [hR2]; exact run_string_add_sum X _ _ (by rw [← ByteArray.size_append, ← hR2]; omega)
  have HR2 : Hid _ := hR2
  clear hR2
  obtain ⟨R3, hR3⟩ : ∃ R : ByteArray, R = (R2 : ByteArray) ++ (T2 : ByteArray) := ⟨_, rfl⟩
  have z3 : R3.size ≤ 470 := by rw [hR3, ByteArray.size_append]; first | omega | (have := (show (T2 : ByteArray).size ≤ 5 by decide); omega)
  have A3 : ∀ X : World, (Op.stringOp .add (R2 : ByteArray) (T2 : ByteArray)).run Tryz.prog X = .ok (.string R3) X := fun X => by rw [hR3]; exact run_string_add_sum X _ _ (by rw [← ByteArray.size_append, ← hR3]; omega)
  have HR3 : Hid _ := hR3
  clear hR3
  go_enter Tryz.func158, Tryz.ntmps158
  go_upto_region 1 with fail
  obtain ⟨W, hW⟩ : ∃ W, W = w.alloc (.cells #[.int .i64 pot, .slice a 3 cap, .slice c 2 cap', .int .i64 K] 105) := ⟨_, rfl⟩
  have q_1 := Cel.new w [.int .i64 pot, .slice a 3 cap, .slice c 2 cap', .int .i64 K] 105
  have B_1 := (Below.refl w.heap.size w).alloc (Nat.le_refl _) (.cells #[.int .i64 pot, .slice a 3 cap, .slice c 2 cap', .int .i64 K] 105)
  rw [← hW] at q_1 B_1 ⊢
  clear hW
  have CC : Hid (∀ X : World, Cel X w.heap.size [.int .i64 pot, .slice a 3 cap, .slice c 2 cap', .int .i64 K] 105 → X.cell? ⟨w.heap.size, 0, none⟩ = some (.int .i64 pot) ∧ X.cell? ⟨w.heap.size, 1, none⟩ = some (.slice a 3 cap) ∧ X.cell? ⟨w.heap.size, 2, none⟩ = some (.slice c 2 cap') ∧ X.cell? ⟨w.heap.size, 3, none⟩ = some (.int .i64 K)) := fun X h => ⟨h.cell 0, h.cell 1, h.cell 2, h.cell 3⟩
  have hS0 : (W.drew.cell? ⟨w.heap.size, 0, none⟩ = some (.int .i64 pot) ∧ W.drew.cell? ⟨w.heap.size, 1, none⟩ = some (.slice a 3 cap) ∧ W.drew.cell? ⟨w.heap.size, 2, none⟩ = some (.slice c 2 cap') ∧ W.drew.cell? ⟨w.heap.size, 3, none⟩ = some (.int .i64 K)) ∧ True := ⟨CC.out _ q_1, trivial⟩
  refine wp_region_ends (fun X => X.cell? ⟨w.heap.size, 0, none⟩ = some (.int .i64 pot) ∧ X.cell? ⟨w.heap.size, 1, none⟩ = some (.slice a 3 cap) ∧ X.cell? ⟨w.heap.size, 2, none⟩ = some (.slice c 2 cap') ∧ X.cell? ⟨w.heap.size, 3, none⟩ = some (.int .i64 K)) (fun _ => True) 9 (by kernel_rfl) ?_
  refine wpAnyE_take0 (i := 0) (v := ?t1v0) rfl (by kernel_rfl) (by kernel_rfl) (by kernel_rfl) (by decide) (fun _ _ _ h => h) (Or.inl ⟨by rfl, ?t1hy0⟩) hS0 ?_
  case t1hy0 => (intro wz hSw; (try dsimp only at hSw); go_simp; try (with_reducible rfl))
  refine wpAnyE_take0 (i := 1) (v := ?t1v1) rfl (by kernel_rfl) (by kernel_rfl) (by kernel_rfl) (by decide) (fun _ _ _ h => h) (Or.inl ⟨by rfl, ?t1hy1⟩) hS0 ?_
  case t1hy1 => (intro wz hSw; (try dsimp only at hSw); go_simp; try (with_reducible rfl))
  refine wpAnyE_take0 (i := 5) (v := ?t1v5) rfl (by kernel_rfl) (by kernel_rfl) (by kernel_rfl) (by decide) (fun _ _ _ h => h) (Or.inl ⟨by rfl, ?t1hy5⟩) hS0 ?_
  case t1hy5 => (intro wz hSw; (try dsimp only at hSw); go_simp; try (with_reducible rfl))
  refine wpAnyE_take0 (i := 6) (v := ?t1v6) rfl (by kernel_rfl) (by kernel_rfl) (by kernel_rfl) (by decide) (fun _ _ _ h => h) (Or.inl ⟨by rfl, ?t1hy6⟩) hS0 ?_
  case t1hy6 => (intro wz hSw; (try dsimp only at hSw); go_simp; try (with_reducible rfl))
  refine wpAnyE_one (i := 2) (by kernel_rfl) rfl (fun Kn hK => ?_)
  go_simp
  refine (Tryz.strconv_Itoa pot (by omega) (by omega) _ (HTB.out _ (by exact Below.drew B_1))).mono ?_
  rintro ee w2 ⟨rfl, qq, os, hw2⟩
  rw [← E1.out]
  have bd_2 : Below W.drew.heap.size W.drew w2 := by rw [hw2]; exact Lib.below_grow _ _ (Nat.le_refl _) _ _
  clear hw2
  have b_2 := below_of_drew bd_2
  have B_2 := B_1.trans (b_2.mono B_1.size)
  have q_2 := q_1.below b_2
  have hS2 : (w2.cell? ⟨w.heap.size, 0, none⟩ = some (.int .i64 pot) ∧ w2.cell? ⟨w.heap.size, 1, none⟩ = some (.slice a 3 cap) ∧ w2.cell? ⟨w.heap.size, 2, none⟩ = some (.slice c 2 cap') ∧ w2.cell? ⟨w.heap.size, 3, none⟩ = some (.int .i64 K)) ∧ True := ⟨CC.out _ q_2, trivial⟩
  dsimp only
  refine hK.out _ _ ⟨hS2.1, fun _ => trivial⟩ ?_
  clear hK hS0
  refine wpAnyE_take0 (i := 3) (v := .string R1) rfl (by kernel_rfl) (by kernel_rfl) (by kernel_rfl) (by decide) (fun _ _ _ h => h) (Or.inl ⟨by rfl, ?t1hy3⟩) hS2 ?_
  case t1hy3 => (intro wz hSw; (try dsimp only at hSw); first | (go_simp; try (with_reducible rfl); done) | (simp only [go_sem, A1]; done) | (go_simp; exact A1 _) | (simp [go_sem, A1]; done) | skip)
  refine wpAnyE_take0 (i := 4) (v := .string R2) rfl (by kernel_rfl) (by kernel_rfl) (by kernel_rfl) (by decide) (fun _ _ _ h => h) (Or.inl ⟨by rfl, ?t1hy4⟩) hS2 ?_
  case t1hy4 => (intro wz hSw; (try dsimp only at hSw); first | (go_simp; try (with_reducible rfl); done) | (simp only [go_sem, A2]; done) | (go_simp; exact A2 _) | (simp [go_sem, A2]; done) | skip)
  refine wpAnyE_one (i := 7) (by kernel_rfl) rfl (fun Kn hK => ?_)
  go_simp
  refine (text_any _ _ _ _ _ C D _ (hC.below B_2) (hD.below B_2) BC.out BD.out (by omega) (by omega) (fun w' h' => HTB.out w' (B_2.trans (h'.mono B_2.size)))).mono ?_
  rintro ee w3 ⟨rfl, b_3⟩
  rw [HF.out, ← E2.out]
  have B_3 := B_2.trans (b_3.mono B_2.size)
  have q_3 := q_2.below b_3
  have hS3 : (w3.cell? ⟨w.heap.size, 0, none⟩ = some (.int .i64 pot) ∧ w3.cell? ⟨w.heap.size, 1, none⟩ = some (.slice a 3 cap) ∧ w3.cell? ⟨w.heap.size, 2, none⟩ = some (.slice c 2 cap') ∧ w3.cell? ⟨w.heap.size, 3, none⟩ = some (.int .i64 K)) ∧ True := ⟨CC.out _ q_3, trivial⟩
  dsimp only
  refine hK.out _ _ ⟨hS3.1, fun _ => trivial⟩ ?_
  clear hK hS2
  refine wpAnyE_take0 (i := 8) (v := .string R3) rfl (by kernel_rfl) (by kernel_rfl) (by kernel_rfl) (by decide) (fun _ _ _ h => h) (Or.inl ⟨by rfl, ?t1hy8⟩) hS3 ?_
  case t1hy8 => (intro wz hSw; (try dsimp only at hSw); first | (go_simp; try (with_reducible rfl); done) | (simp only [go_sem, A3]; done) | (go_simp; exact A3 _) | (simp [go_sem, A3]; done) | skip)
  refine wpAnyE_one (i := 9) (by kernel_rfl) rfl (fun Kn hK => ?_)
  go_simp
  refine hK.out _ _ ⟨hS3.1, fun _ => trivial⟩ ?_
  clear hK
  refine wpAnyE_done (by kernel_rfl) ?_ _
  clear hS3
  go_wp2
  go_ret
  refine ⟨?_, B_3⟩
  rw [HAT.out]
  have : R3 = ⟨(addW ++ 32 :: (Lib.itoa pot ++ 32 :: F)).toArray⟩ := by
    rw [HR3.out, HR2.out, HR1.out, E1.out, E2.out, show (⟨#[97, 100, 100, 32]⟩ : ByteArray) = ⟨(addW ++ [32]).toArray⟩ from rfl, show (⟨#[32]⟩ : ByteArray) = ⟨[32].toArray⟩ from rfl]
    simp [cat_str, List.append_assoc]
  rw [← this]
  rfl

set_option maxHeartbeats 1600000 in
theorem iprint_text (a : Option Addr) (cap : Nat) (c : Option Addr) (cap' : Nat) (K : Int) (C D : List Int) (w : World) (hC : Ints w a 3 C) (hD : Ints w c 2 D) (hs : smallB 3 2 C D K = true) (hT : Lib.TabBelow Tryz.prog w.heap.size w "internal/strconv.uint64pow10" .u64 Lib.pow10Tab) :
    Calls Tryz.prog 159 #[.agg #[.slice a 3 cap, .slice c 2 cap', .int .i64 K]] w fun e w' => e = .returned (.string ⟨(printW ++ 32 :: formText 3 2 C D K).toArray⟩) ∧ Below w.heap.size w w' := by
  have HTB : Hid _ := hT
  clear hT
  obtain ⟨-, -, bC, bD, bK1, bK2⟩ := small_bnd hs
  have BC : Hid _ := bC
  have BD : Hid _ := bD
  obtain ⟨F, hF⟩ : ∃ F, formText 3 2 C D K = F := ⟨_, rfl⟩
  have hFl : F.length ≤ 400 := by rw [← hF]; exact form_len hs
  have HF : Hid (spaced (timesL 120 C 3 ++ timesL 97 D 2) ++ Lib.itoa K = F) := by show _ = _; rw [← hF, formText_yes (small_ok hs)]
  rw [hF]
  clear hF hs bC bD
  have B_1 := (Below.refl w.heap.size w).alloc (Nat.le_refl _) (.cells #[.slice a 3 cap, .slice c 2 cap', .int .i64 K] 107)
  go_enter Tryz.func159, Tryz.ntmps159
  go_wp2_with fail
  refine (text_any _ _ _ _ _ C D _ (hC.below B_1) (hD.below B_1) BC.out BD.out (by omega) (by omega) (fun w' h' => HTB.out w' (B_1.trans (h'.mono B_1.size)))).mono ?_
  rintro e w3 ⟨rfl, b_3⟩
  rw [HF.out]
  have B_3 := B_1.trans (b_3.mono B_1.size)
  go_wp2
  go_ret
  refine ⟨?_, B_3⟩
  rw [show printW ++ 32 :: F = (printW ++ [32]) ++ F by simp, ← cat_str]
  rfl

theorem istop_text (v : Value) (w : World) (hv : v = .agg #[]) :
    Calls Tryz.prog 160 #[v] w fun e w' => e = .returned (.string ⟨stopT.toArray⟩) ∧ Below w.heap.size w w' := by
  subst hv
  have B_1 := (Below.refl w.heap.size w).alloc (Nat.le_refl _) (.cells #[] 109)
  go_enter Tryz.func160, Tryz.ntmps160
  go_wp2
  go_ret
  exact ⟨rfl, B_1⟩

set_option maxHeartbeats 6400000 in
theorem iatext_any (kind pot skip : Int) (a : Option Addr) (n cap : Nat) (c : Option Addr) (m cap' : Nat) (K : Int) (C D : List Int) (w : World) (hC : Ints w a n C) (hD : Ints w c m D) (hn : n ≤ 1048576) (hm : m ≤ 1048576) (hT : Lib.TabBelow Tryz.prog w.heap.size w "internal/strconv.uint64pow10" .u64 Lib.pow10Tab) :
    Calls Tryz.prog 13 #[lineV kind pot skip a n cap c m cap' K] w fun e w' => e = .returned (.string ⟨(actText (kind, pot, skip, C, D, K)).toArray⟩) ∧ Below w.heap.size w w' := by
  have HTB : Hid _ := hT
  clear hT
  have B_0 := (Below.refl w.heap.size w).alloc (Nat.le_refl _) (.cells #[.int .i64 kind, .int .i64 pot, .int .i64 skip, .slice a n cap, .slice c m cap', .int .i64 K] 36)
  have HC1 : Hid (C.length = n) := hC.1
  have HD1 : Hid (D.length = m) := hD.1
  cases hb : lineB kind pot skip n m C D K
  · have HT : Hid (actText (kind, pot, skip, C, D, K) = []) := actText_no (by rw [HC1.out, HD1.out]; exact hb)
    go_enter Tryz.func13, Tryz.ntmps13
    go_wp2_with fail
    refine (istep_any _ _ _ _ _ _ _ _ _ _ C D _ (hC.alloc _) (hD.alloc _) hn hm).mono ?_
    rintro e w1 ⟨rfl, b1⟩
    rw [hb]
    generalize stepV ⟨kind, pot, skip, ⟨a, n, cap, c, m, cap', K, C, D⟩⟩ = sv
    go_wp2
    go_ret
    exact ⟨by rw [HT.out]; rfl, B_0.trans (b1.mono B_0.size)⟩
  have HB : Hid _ := hb
  have HAY : Hid _ := actText_yes (k := kind) (p := pot) (z := skip) (C := C) (D := D) (K := K) (by rw [HC1.out, HD1.out]; exact hb)
  have hcs := line_cases (k := kind) (p := pot) (z := skip) (C := C) (D := D) (K := K) (by rw [HC1.out, HD1.out]; exact hb)
  clear hb
  have m1 := Tryz.textTest
  have m2 := Tryz.textAdd
  have m3 := Tryz.textPrint
  have m4 := Tryz.textStop
  rcases hcs with ⟨rfl, rfl, ⟨y1, y2⟩, hs⟩ | ⟨rfl, ⟨y1, y2⟩, rfl, hs⟩ | ⟨rfl, rfl, rfl, hs⟩ | ⟨rfl, rfl, rfl, rfl, rfl, rfl⟩
  · rw [HC1.out, HD1.out] at hs
    obtain ⟨e3, e2, -⟩ := small_bnd hs
    subst e3 e2
    have HAT : Hid (actText (1, 0, skip, C, D, K) = testW ++ 32 :: (Lib.itoa skip ++ 32 :: formText 3 2 C D K)) := by show _ = _; rw [HAY.out, if_pos rfl, textF, HC1.out, HD1.out]
    have hsv : stepV ⟨1, 0, skip, ⟨a, 3, cap, c, 2, cap', K, C, D⟩⟩ = .iface 103 (.agg #[.int .i64 skip, .slice a 3 cap, .slice c 2 cap', .int .i64 K]) := rfl
    have HSV : Hid _ := hsv
    clear hsv
    go_enter Tryz.func13, Tryz.ntmps13
    go_wp2_with fail
    refine (istep_any _ _ _ _ _ _ _ _ _ _ C D _ (hC.alloc _) (hD.alloc _) hn hm).mono ?_
    rintro e w1 ⟨rfl, b1⟩
    rw [HB.out, HSV.out]
    have B_1 := B_0.trans (b1.mono B_0.size)
    clear B_0 b1
    go_wp2_with fail
    refine (itest_text _ _ _ _ _ _ C D _ (hC.below B_1) (hD.below B_1) hs (by omega) (by omega) (fun w' h' => HTB.out w' (B_1.trans (h'.mono B_1.size)))).mono ?_
    rintro e w2 ⟨rfl, b2⟩
    have B_2 := B_1.trans (b2.mono B_1.size)
    rw [← HAT.out]
    go_wp2
    go_ret
    exact ⟨rfl, B_2⟩
  · rw [HC1.out, HD1.out] at hs
    obtain ⟨e3, e2, -⟩ := small_bnd hs
    subst e3 e2
    have HAT : Hid (actText (2, pot, 0, C, D, K) = addW ++ 32 :: (Lib.itoa pot ++ 32 :: formText 3 2 C D K)) := by show _ = _; rw [HAY.out, if_neg (by decide), if_pos rfl, textF, HC1.out, HD1.out]
    have hsv : stepV ⟨2, pot, 0, ⟨a, 3, cap, c, 2, cap', K, C, D⟩⟩ = .iface 105 (.agg #[.int .i64 pot, .slice a 3 cap, .slice c 2 cap', .int .i64 K]) := rfl
    have HSV : Hid _ := hsv
    clear hsv
    go_enter Tryz.func13, Tryz.ntmps13
    go_wp2_with fail
    refine (istep_any _ _ _ _ _ _ _ _ _ _ C D _ (hC.alloc _) (hD.alloc _) hn hm).mono ?_
    rintro e w1 ⟨rfl, b1⟩
    rw [HB.out, HSV.out]
    have B_1 := B_0.trans (b1.mono B_0.size)
    clear B_0 b1
    go_wp2_with fail
    refine (iadd_text _ _ _ _ _ _ C D _ (hC.below B_1) (hD.below B_1) hs (by omega) (by omega) (fun w' h' => HTB.out w' (B_1.trans (h'.mono B_1.size)))).mono ?_
    rintro e w2 ⟨rfl, b2⟩
    have B_2 := B_1.trans (b2.mono B_1.size)
    rw [← HAT.out]
    go_wp2
    go_ret
    exact ⟨rfl, B_2⟩
  · rw [HC1.out, HD1.out] at hs
    obtain ⟨e3, e2, -⟩ := small_bnd hs
    subst e3 e2
    have HAT : Hid (actText (3, 0, 0, C, D, K) = printW ++ 32 :: formText 3 2 C D K) := by show _ = _; rw [HAY.out, if_neg (by decide), if_neg (by decide), if_pos rfl, textF, HC1.out, HD1.out]
    have hsv : stepV ⟨3, 0, 0, ⟨a, 3, cap, c, 2, cap', K, C, D⟩⟩ = .iface 107 (.agg #[.slice a 3 cap, .slice c 2 cap', .int .i64 K]) := rfl
    have HSV : Hid _ := hsv
    clear hsv
    go_enter Tryz.func13, Tryz.ntmps13
    go_wp2_with fail
    refine (istep_any _ _ _ _ _ _ _ _ _ _ C D _ (hC.alloc _) (hD.alloc _) hn hm).mono ?_
    rintro e w1 ⟨rfl, b1⟩
    rw [HB.out, HSV.out]
    have B_1 := B_0.trans (b1.mono B_0.size)
    clear B_0 b1
    go_wp2_with fail
    refine (iprint_text _ _ _ _ _ C D _ (hC.below B_1) (hD.below B_1) hs (fun w' h' => HTB.out w' (B_1.trans (h'.mono B_1.size)))).mono ?_
    rintro e w2 ⟨rfl, b2⟩
    have B_2 := B_1.trans (b2.mono B_1.size)
    rw [← HAT.out]
    go_wp2
    go_ret
    exact ⟨rfl, B_2⟩
  · have HAT : Hid (actText (4, 0, 0, [], [], 0) = stopT) := by show _ = _; rw [HAY.out]; rfl
    have hsv : stepV ⟨4, 0, 0, ⟨a, n, cap, c, m, cap', 0, [], []⟩⟩ = .iface 109 (.agg #[]) := rfl
    have HSV : Hid _ := hsv
    clear hsv
    go_enter Tryz.func13, Tryz.ntmps13
    go_wp2_with fail
    refine (istep_any _ _ _ _ _ _ _ _ _ _ [] [] _ (hC.alloc _) (hD.alloc _) hn hm).mono ?_
    rintro e w1 ⟨rfl, b1⟩
    rw [HB.out, HSV.out]
    have B_1 := B_0.trans (b1.mono B_0.size)
    clear B_0 b1
    go_wp2_with fail
    refine (istop_text _ _ rfl).mono ?_
    rintro e w2 ⟨rfl, b2⟩
    have B_2 := B_1.trans (b2.mono B_1.size)
    rw [← HAT.out]
    go_wp2
    go_ret
    exact ⟨rfl, B_2⟩

end Go.Proofs.YtfkcfjkojfnfnaaGreatDoor

namespace Go.Proofs.YtfkcfjkojfnfnaaGreatDoor
open Go.RowKit
set_option linter.unusedVariables false
set_option maxRecDepth 100000

theorem ownAt_sets {W : World} {a : Option Addr} {B X : Nat} {zs : List Int} (h : OwnAt W a B zs) (hX : 0 < zs.length → X ≠ B) (v0 v1 v2 v3 v4 v5 : Value) :
    OwnAt ((((((W.setCell ⟨X, 0, none⟩ v0).setCell ⟨X, 1, none⟩ v1).setCell ⟨X, 2, none⟩ v2).setCell ⟨X, 3, none⟩ v3).setCell ⟨X, 4, none⟩ v4).setCell ⟨X, 5, none⟩ v5) a B zs := by
  rcases h with h | ⟨h1, h2⟩
  · exact .inl h
  · by_cases hz : zs = []
    · exact .inl hz
    · have hne : B ≠ X := fun e => hX (List.length_pos_iff.2 hz) e.symm
      exact .inr ⟨h1, (((((h2.setOther hne _ _).setOther hne _ _).setOther hne _ _).setOther hne _ _).setOther hne _ _).setOther hne _ _⟩

set_option maxHeartbeats 2000000 in
theorem iaread_any (l : List UInt8) (w : World) (hl : l.length ≤ 1048576) (hA : ReadsN w) (hSp : Splits w) (hCu : Cuts w) (hT : Lib.TabBelow Tryz.prog w.heap.size w "internal/strconv.uint64pow10" .u64 Lib.pow10Tab) :
    Calls Tryz.prog 15 #[.string ⟨l.toArray⟩] w fun e w' =>
      ∃ (k p z : Int) (C D : List Int) (K : Int) (a : Option Addr) (n cap : Nat) (c : Option Addr) (m cap' : Nat) (B1 B2 : Nat) (ok : Bool), e = .returned (.tuple #[lineV k p z a n cap c m cap' K, .bool ok]) ∧ C.length = n ∧ D.length = m ∧ (n ≤ 3 ∧ m ≤ 2) ∧ Below w.heap.size w w' ∧ OwnAt w' a B1 C ∧ OwnAt w' c B2 D ∧ (0 < n → w.heap.size ≤ B1) ∧ (0 < m → w.heap.size ≤ B2) ∧ (0 < n → 0 < m → B1 ≠ B2) ∧ raI l = ((k, p, z, C, D, K), ok) := by
  have HA : Hid _ := hA
  have HS : Hid _ := hSp
  have HC : Hid _ := hCu
  have HTB : Hid _ := hT
  clear hA hSp hCu hT
  have bx := Cel.new w [.int .i64 0, .int .i64 0, .int .i64 0, .slice none 0 0, .slice none 0 0, .int .i64 0] 36
  have B0 := (Below.refl w.heap.size w).alloc (Nat.le_refl _) (.cells #[.int .i64 0, .int .i64 0, .int .i64 0, .slice none 0 0, .slice none 0 0, .int .i64 0] 36)
  by_cases h120 : l.length ≤ 120
  case neg =>
    have hi : (120 : Int) < (l.length : Int) := by omega
    have HR : Hid (raI l = noA) := by show _ = _; rw [raI, if_neg h120]
    obtain ⟨r0, r1, r2, r3, r4, r5⟩ := bx.six
    obtain ⟨f0, f1, f2, f3, f4, f5⟩ := bx.frees
    have lt_bx := bx.lt
    go_enter Tryz.func15, Tryz.ntmps15
    go_wp2
    refine bodyPost_ret (v := .tuple #[lineV 0 0 0 none 0 0 none 0 0 0, .bool false]) (by simp [results, Tryz.results15, go_sem, r0, r1, r2, r3, r4, r5]) rfl ⟨0, 0, 0, [], [], 0, none, 0, 0, none, 0, 0, 0, 0, false, rfl, rfl, rfl, ⟨by omega, by omega⟩, ?_, .inl rfl, .inl rfl, (fun h => by omega), (fun h => by omega), (fun h => by omega), HR.out⟩
    exact B0
  have hi : ¬ (120 : Int) < (l.length : Int) := by omega
  go_enter Tryz.func15, Tryz.ntmps15
  go_wp2_with fail
  refine (iline_any l _ h120 (ReadsN.below HA.out B0) (Splits.belowA HS.out B0) (Cuts.below HC.out B0) (fun w' h' => HTB.out w' (B0.trans (h'.mono B0.size)))).mono ?_
  rintro e w1 (⟨k, p, z, C, D, K, a, n, cap, c, m, cap', B1, B2, hI, rfl, l1, l2, ⟨u1, u2⟩, b1, o1, o2, g1, g2, g12⟩ | ⟨hI, k, p, z, a, n, cap, c, m, cap', K, rfl, b1⟩)
  case inr =>
    have HR : Hid (raI l = noA) := by show _ = _; rw [raI, if_pos h120, hI]
    have A1 := b1.alloc b1.size (.cells #[.int .i64 k, .int .i64 p, .int .i64 z, .slice a n cap, .slice c m cap', .int .i64 K] 36)
    have bx1 := bx.below A1
    have BW := B0.trans (A1.mono B0.size)
    obtain ⟨r0, r1, r2, r3, r4, r5⟩ := bx1.six
    obtain ⟨f0, f1, f2, f3, f4, f5⟩ := bx1.frees
    have lt_bx1 := bx1.lt
    clear bx B0 b1 A1
    go_wp2
    refine bodyPost_ret (v := .tuple #[lineV 0 0 0 none 0 0 none 0 0 0, .bool false]) (by simp [results, Tryz.results15, go_sem, r0, r1, r2, r3, r4, r5]) rfl ⟨0, 0, 0, [], [], 0, none, 0, 0, none, 0, 0, 0, 0, false, rfl, rfl, rfl, ⟨by omega, by omega⟩, ?_, .inl rfl, .inl rfl, (fun h => by omega), (fun h => by omega), (fun h => by omega), HR.out⟩
    exact (((((BW.setCell (Nat.le_refl _) _).setCell (Nat.le_refl _) _).setCell (Nat.le_refl _) _).setCell (Nat.le_refl _) _).setCell (Nat.le_refl _) _).setCell (Nat.le_refl _) _
  have HI : Hid _ := hI
  have HL1 : Hid _ := l1
  have HL2 : Hid _ := l2
  have z1 : 0 < n → w.heap.size < B1 := fun h => by have := g1 h; rw [World.size_alloc] at this; omega
  have z2 : 0 < m → w.heap.size < B2 := fun h => by have := g2 h; rw [World.size_alloc] at this; omega
  have A1 := b1.alloc b1.size (.cells #[.int .i64 k, .int .i64 p, .int .i64 z, .slice a n cap, .slice c m cap', .int .i64 K] 36)
  have al : Below w1.heap.size w1 (w1.alloc (.cells #[.int .i64 k, .int .i64 p, .int .i64 z, .slice a n cap, .slice c m cap', .int .i64 K] 36)) := (Below.refl _ _).alloc (Nat.le_refl _) _
  have bx1 := bx.below A1
  have BW := B0.trans (A1.mono B0.size)
  have cb1 := Cel.new w1 [.int .i64 k, .int .i64 p, .int .i64 z, .slice a n cap, .slice c m cap', .int .i64 K] 36
  have o1' := o1.below al
  have o2' := o2.below al
  obtain ⟨W1, hW1⟩ : ∃ W, W = w1.alloc (.cells #[.int .i64 k, .int .i64 p, .int .i64 z, .slice a n cap, .slice c m cap', .int .i64 K] 36) := ⟨_, rfl⟩
  obtain ⟨T, hT⟩ : ∃ T, actText (k, p, z, C, D, K) = T := ⟨_, rfl⟩
  have HT : Hid _ := hT
  have hn1 : n ≤ 1048576 := by omega
  have hm1 : m ≤ 1048576 := by omega
  clear hI l1 l2 g1 g2 b1 A1 al bx B0 o1 o2 hT
  go_wp2_with fail
  rw [← hW1]
  rw [← hW1] at bx1 BW cb1 o1' o2'
  clear hW1
  refine (iatext_any _ _ _ _ _ _ _ _ _ _ C D _ (o1'.ints' HL1.out) (o2'.ints' HL2.out) hn1 hm1 (fun w' h' => HTB.out w' (BW.trans (h'.mono BW.size)))).mono ?_
  rintro e w2 ⟨rfl, b2⟩
  rw [HT.out]
  have bx2 := bx1.below b2
  have BW2 := BW.trans (b2.mono BW.size)
  have cb2 := cb1.below b2
  have o3 := o1'.below b2
  have o4 := o2'.below b2
  clear bx1 BW cb1 o1' o2' b2
  obtain ⟨r0, r1, r2, r3, r4, r5⟩ := bx2.six
  obtain ⟨f0, f1, f2, f3, f4, f5⟩ := bx2.frees
  have lt_bx2 := bx2.lt
  obtain ⟨d0, d1, d2, d3, d4, d5⟩ := cb2.six
  have lt_cb2 := cb2.lt
  by_cases he : T = l
  · have hE : (T == l) = true := by rw [he]; simp
    have hE2 : (T != l) = false := by rw [he]; simp
    have HR : Hid (raI l = ((k, p, z, C, D, K), true)) := by
      show raI l = _
      rw [raI, if_pos h120, HI.out]
      show (if actText (k, p, z, C, D, K) = l then _ else _) = _
      rw [if_pos (by rw [HT.out]; exact he)]
    clear he
    go_wp2
    refine bodyPost_ret (v := .tuple #[lineV k p z a n cap c m cap' K, .bool true]) (by simp [results, Tryz.results15, go_sem, r0, r1, r2, r3, r4, r5]) rfl ⟨k, p, z, C, D, K, a, n, cap, c, m, cap', B1, B2, true, rfl, HL1.out, HL2.out, ⟨u1, u2⟩, ?_, ownAt_sets o3 (fun h => by have := z1 (by rw [← HL1.out]; exact h); omega) _ _ _ _ _ _, ownAt_sets o4 (fun h => by have := z2 (by rw [← HL2.out]; exact h); omega) _ _ _ _ _ _, (fun h => Nat.le_of_lt (z1 h)), (fun h => Nat.le_of_lt (z2 h)), g12, HR.out⟩
    exact (((((BW2.setCell (Nat.le_refl _) _).setCell (Nat.le_refl _) _).setCell (Nat.le_refl _) _).setCell (Nat.le_refl _) _).setCell (Nat.le_refl _) _).setCell (Nat.le_refl _) _
  · have hE : (T == l) = false := by simpa using he
    have hE2 : (T != l) = true := by simpa using he
    have HR : Hid (raI l = noA) := by
      show raI l = _
      rw [raI, if_pos h120, HI.out]
      show (if actText (k, p, z, C, D, K) = l then _ else _) = _
      rw [if_neg (by rw [HT.out]; exact he)]
    clear he
    go_wp2
    refine bodyPost_ret (v := .tuple #[lineV 0 0 0 none 0 0 none 0 0 0, .bool false]) (by simp [results, Tryz.results15, go_sem, r0, r1, r2, r3, r4, r5]) rfl ⟨0, 0, 0, [], [], 0, none, 0, 0, none, 0, 0, 0, 0, false, rfl, rfl, rfl, ⟨by omega, by omega⟩, ?_, .inl rfl, .inl rfl, (fun h => by omega), (fun h => by omega), (fun h => by omega), HR.out⟩
    exact (((((BW2.setCell (Nat.le_refl _) _).setCell (Nat.le_refl _) _).setCell (Nat.le_refl _) _).setCell (Nat.le_refl _) _).setCell (Nat.le_refl _) _).setCell (Nat.le_refl _) _

end Go.Proofs.YtfkcfjkojfnfnaaGreatDoor
namespace Go.Proofs
open Go.Shelf
def Tryz.lays145_ren : Go.Shelf.Ren := ⟨fun | 145 => 61 | 220 => 81 | 219 => 98 | 217 => 114 | 225 => 115 | 224 => 116 | 267 => 117 | 266 => 129 | 314 => 130 | n => n, fun | 9 => 9 | 4 => 4 | 59 => 110 | 3 => 3 | 5 => 5 | 46 => 175 | 146 => 190 | 51 => 180 | n => n, fun | 1 => 1 | n => n⟩
theorem Tryz.lays145 : Go.Proofs.Lays.n145 Tryz.prog Tryz.lays145_ren := {
  mixed := by kernel_rfl
  f145 := Tryz.func61.trans (congrArg some (by kernel_rfl))
  f217 := Tryz.func114.trans (congrArg some (by kernel_rfl))
  f219 := Tryz.func98.trans (congrArg some (by kernel_rfl))
  f220 := Tryz.func81.trans (congrArg some (by kernel_rfl))
  f224 := Tryz.func116.trans (congrArg some (by kernel_rfl))
  f225 := Tryz.func115.trans (congrArg some (by kernel_rfl))
  f266 := Tryz.func129.trans (congrArg some (by kernel_rfl))
  f267 := Tryz.func117.trans (congrArg some (by kernel_rfl))
  f314 := Tryz.func130.trans (congrArg some (by kernel_rfl))
  t3 := Tryz.underlying3
  a3 := Tryz.isAgg3
  z3 := Tryz.sizeOf3
  v3 := Tryz.zeroValue3
  t4 := Tryz.underlying4
  a4 := Tryz.isAgg4
  z4 := Tryz.sizeOf4
  v4 := Tryz.zeroValue4
  t5 := Tryz.underlying5
  a5 := Tryz.isAgg5
  z5 := Tryz.sizeOf5
  v5 := Tryz.zeroValue5
  t9 := Tryz.underlying9
  a9 := Tryz.isAgg9
  z9 := Tryz.sizeOf9
  v9 := Tryz.zeroValue9
  t46 := Tryz.underlying175
  a46 := Tryz.isAgg175
  z46 := Tryz.sizeOf175
  v46 := Tryz.zeroValue175
  t51 := Tryz.underlying180
  a51 := Tryz.isAgg180
  z51 := Tryz.sizeOf180
  v51 := Tryz.zeroValue180
  t59 := Tryz.underlying110
  a59 := Tryz.isAgg110
  z59 := Tryz.sizeOf110
  v59 := Tryz.zeroValue110
  t146 := Tryz.underlying190
  a146 := Tryz.isAgg190
  z146 := Tryz.sizeOf190
  v146 := Tryz.zeroValue190
  g1 := by kernel_rfl }
end Go.Proofs
namespace Go.Proofs.YtfkcfjkojfnfnaaGreatDoor
open Go.RowKit Go.Shelf
set_option linter.unusedVariables false
set_option maxRecDepth 100000

theorem cuts_of (w : World) (m : Int) (hm : w.cell? ⟨Tryz.lays145_ren.g 1, 0, none⟩ = some (.int .i64 m)) : Cuts w := fun W b s x hs => by
  have hmW : W.cell? ⟨Tryz.lays145_ren.g 1, 0, none⟩ = some (.int .i64 m) := by rw [b.cell (p := ⟨_, 0, none⟩) (block_lt hm)]; exact hm
  have hss : (⟨s.toArray⟩ : ByteArray).size < 4294967281 := by show s.toArray.size < _; rw [List.size_toArray]; omega
  refine (Any.strings_Cut Tryz.lays145 ⟨s.toArray⟩ ⟨#[x]⟩ m W hss hmW).mono ?_
  rintro e w' ⟨rfl, n, rfl⟩
  exact ⟨rfl, below_drewN (Below.refl _ _) n⟩
theorem rfF_small {l : List UInt8} {C D : List Int} {K : Int} {ok : Bool} (h : rfF l = ((C, D, K), ok)) : C.length ≤ 3 ∧ D.length ≤ 2 := by
  rw [rfF_spec] at h
  split at h
  · rename_i hb
    have e : preW l = (C, D, K) := congrArg Prod.fst h
    rw [e] at hb
    have hok : formB C.length D.length C D K = true := by
      cases e2 : formB C.length D.length C D K with
      | true => rfl
      | false => exact absurd (formText_no e2) hb.1
    obtain ⟨h3, h2, -⟩ := formB_elim hok
    omega
  · have e : (([], [], 0) : FR) = (C, D, K) := congrArg Prod.fst h
    cases e
    exact ⟨by simp, by simp⟩

theorem sfread_at {l : List UInt8} {C D : List Int} {K : Int} {ok : Bool} {n m : Nat} (hF : rfF l = ((C, D, K), ok)) (hn : C.length = n) (hm : D.length = m) (w : World) :
    Calls Tryz.prog 40 #[.string ⟨l.toArray⟩] w fun e w' => ∃ a cap c cap', e = .returned (.tuple #[formV a n cap c m cap' K, .bool ok]) ∧ Below w.heap.size w w' ∧ Ints w' a n C ∧ Ints w' c m D := by
  refine (sfread_any l w).mono ?_
  rintro e w' (⟨C', D', K', B1, B2, h1, rfl, h3, h4, h5, k1, k2⟩ | ⟨h1, rfl, h5⟩)
  · rw [hF] at h1
    cases h1
    obtain rfl : n = 3 := hn.symm.trans h3
    obtain rfl : m = 2 := hm.symm.trans h4
    exact ⟨_, _, _, _, rfl, h5, k1.ints' h3, k2.ints' h4⟩
  · rw [hF, noF] at h1
    cases h1
    obtain rfl : n = 0 := hn.symm
    obtain rfl : m = 0 := hm.symm
    exact ⟨_, _, _, _, rfl, h5, ⟨rfl, fun i hi => by omega⟩, ⟨rfl, fun i hi => by omega⟩⟩

theorem ifread_at {l : List UInt8} {C D : List Int} {K : Int} {ok : Bool} {n m : Nat} (hF : rfF l = ((C, D, K), ok)) (hn : C.length = n) (hm : D.length = m) (w : World) (hl : l.length ≤ 1048576) (hA : ReadsN w) (hSp : Splits w) (hC : Cuts w) (hT : Lib.TabBelow Tryz.prog w.heap.size w "internal/strconv.uint64pow10" .u64 Lib.pow10Tab) :
    Calls Tryz.prog 63 #[.string ⟨l.toArray⟩] w fun e w' => ∃ a cap c cap' B1 B2, e = .returned (.tuple #[formV a n cap c m cap' K, .bool ok]) ∧ Below w.heap.size w w' ∧ OwnAt w' a B1 C ∧ OwnAt w' c B2 D ∧ (0 < n → w.heap.size ≤ B1 ∧ B1 < w'.heap.size) ∧ (0 < m → w.heap.size ≤ B2 ∧ B2 < w'.heap.size) ∧ (0 < n → 0 < m → B1 ≠ B2) := by
  refine (ifread_any l w hl hA hSp hC hT).mono ?_
  rintro e w' (⟨C', D', K', B1, B2, h1, rfl, h3, h4, h5, o1, o12, o2, k1, k2⟩ | ⟨h1, rfl, h5⟩)
  · rw [hF] at h1
    cases h1
    obtain rfl : n = 3 := hn.symm.trans h3
    obtain rfl : m = 2 := hm.symm.trans h4
    exact ⟨_, _, _, _, B1, B2, rfl, h5, .inr ⟨rfl, k1⟩, .inr ⟨rfl, k2⟩, fun _ => ⟨o1, k1.lt⟩, fun _ => ⟨o2, k2.lt⟩, fun _ _ => o12⟩
  · rw [hF, noF] at h1
    cases h1
    obtain rfl : n = 0 := hn.symm
    obtain rfl : m = 0 := hm.symm
    exact ⟨_, _, _, _, 0, 0, rfl, h5, .inl rfl, .inl rfl, fun h => by omega, fun h => by omega, fun h => by omega⟩

end Go.Proofs.YtfkcfjkojfnfnaaGreatDoor
namespace Go.Proofs.YtfkcfjkojfnfnaaGreatDoor
open Go.RowKit
set_option linter.unusedVariables false
set_option maxRecDepth 100000

theorem ra_small {l : List UInt8} {k p z : Int} {C D : List Int} {K : Int} {ok : Bool} (h : raS l = ((k, p, z, C, D, K), ok)) : C.length ≤ 3 ∧ D.length ≤ 2 := by
  rw [raS] at h
  split at h
  · rename_i hb
    have e : lineS l = (k, p, z, C, D, K) := congrArg Prod.fst h
    rw [e] at hb
    have hok : lineB k p z C.length D.length C D K = true := by
      cases hh : lineB k p z C.length D.length C D K with
      | true => rfl
      | false => exact absurd (actText_no hh) hb.1
    rcases line_cases hok with ⟨-, -, -, hs⟩ | ⟨-, -, -, hs⟩ | ⟨-, -, -, hs⟩ | ⟨-, -, -, rfl, rfl, -⟩
    · have := small_bnd hs; omega
    · have := small_bnd hs; omega
    · have := small_bnd hs; omega
    · simp
  · rw [noA] at h
    cases h
    simp

theorem saread_at {l : List UInt8} {k p z : Int} {C D : List Int} {K : Int} {ok : Bool} {n m : Nat} (hF : raS l = ((k, p, z, C, D, K), ok)) (hn : C.length = n) (hm : D.length = m) (w : World) :
    Calls Tryz.prog 16 #[.string ⟨l.toArray⟩] w fun e w' => ∃ a cap c cap', e = .returned (.tuple #[lineV k p z a n cap c m cap' K, .bool ok]) ∧ Below w.heap.size w w' ∧ Ints w' a n C ∧ Ints w' c m D := by
  refine (saread_any l w).mono ?_
  rintro e w' ⟨k', p', z', C', D', K', a, n', cap, c, m', cap', ok', h1, h2, h3, h4, h5⟩
  rw [hF] at h5
  cases h5
  obtain rfl : n' = n := h3.1.symm.trans hn
  obtain rfl : m' = m := h4.1.symm.trans hm
  exact ⟨a, cap, c, cap', h1, h2, h3, h4⟩

theorem iaread_at {l : List UInt8} {k p z : Int} {C D : List Int} {K : Int} {ok : Bool} {n m : Nat} (hF : raS l = ((k, p, z, C, D, K), ok)) (hn : C.length = n) (hm : D.length = m) (w : World) (hl : l.length ≤ 1048576) (hA : ReadsN w) (hSp : Splits w) (hC : Cuts w) (hT : Lib.TabBelow Tryz.prog w.heap.size w "internal/strconv.uint64pow10" .u64 Lib.pow10Tab) :
    Calls Tryz.prog 15 #[.string ⟨l.toArray⟩] w fun e w' => ∃ a cap c cap' B1 B2, e = .returned (.tuple #[lineV k p z a n cap c m cap' K, .bool ok]) ∧ Below w.heap.size w w' ∧ OwnAt w' a B1 C ∧ OwnAt w' c B2 D ∧ (0 < n → w.heap.size ≤ B1 ∧ B1 < w'.heap.size) ∧ (0 < m → w.heap.size ≤ B2 ∧ B2 < w'.heap.size) ∧ (0 < n → 0 < m → B1 ≠ B2) := by
  refine (iaread_any l w hl hA hSp hC hT).mono ?_
  rintro e w' ⟨k', p', z', C', D', K', a, n', cap, c, m', cap', B1, B2, ok', h1, l1, l2, -, h2, o1, o2, g1, g2, g12, h5⟩
  rw [ra_same, hF] at h5
  cases h5
  obtain rfl : n' = n := l1.symm.trans hn
  obtain rfl : m' = m := l2.symm.trans hm
  exact ⟨a, cap, c, cap', B1, B2, h1, h2, o1, o2, fun h => ⟨g1 h, o1.lt (by omega)⟩, fun h => ⟨g2 h, o2.lt (by omega)⟩, g12⟩

end Go.Proofs.YtfkcfjkojfnfnaaGreatDoor
