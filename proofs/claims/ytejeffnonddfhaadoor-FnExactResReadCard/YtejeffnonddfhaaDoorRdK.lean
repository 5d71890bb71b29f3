/-
  A result, as the program reads it. The library's strconv.Atoi and strings.Split are taken by what they answer (ReadsN, Splits); its table of powers of ten is as its text lays it.
-/
import Derived.Test.YtejeffnonddfhaaDoorRdJ
namespace Go.Proofs.YtejeffnonddfhaaDoor
open Go.RowKit
set_option linter.unusedVariables false
set_option maxRecDepth 100000

/-- What a text is read as, of whatever length. -/
def rdF (l : List UInt8) : Int × List Int × Bool := if l.length ≤ 120 then rdI l else (0, [], false)
theorem rdF_no {l x0 : List UInt8} {ws : List (List UInt8)} (hw : wordsOf l = x0 :: ws) (h : codeTo x0 4 = 0 ∨ atoiS ws = none) : rdF l = (0, [], false) := by
  rw [rdF]
  split
  · rw [rdI, hw]
    show (match atoiS ws with | none => _ | some xs => _) = _
    rcases h with h | h
    · cases atoiS ws with
      | none => rfl
      | some xs =>
        show (if _ then _ else _) = _
        rw [if_neg]
        rintro ⟨h1, -⟩
        exact h1 h
    · rw [h]
  · rfl
theorem rdF_yes {l x0 : List UInt8} {ws : List (List UInt8)} {c : Int} {xs : List Int} {q : Nat} (hl : l.length ≤ 120) (hw : wordsOf l = x0 :: ws) (h0 : c ≠ 0) (hc : c = codeTo x0 4) (h : atoiS ws = some xs) (hq : xs.length = q) : rdF l = if resText c q xs = l then (c, xs, true) else (0, [], false) := by
  subst hq
  rw [rdF, if_pos hl, rdI, hw]
  show (match atoiS ws with | none => _ | some xs => _) = _
  rw [h]
  show (if codeTo x0 4 ≠ 0 ∧ resText (codeTo x0 4) xs.length xs = l then (codeTo x0 4, xs, true) else _) = _
  rw [← hc]
  by_cases e : resText c xs.length xs = l
  · rw [if_pos ⟨h0, e⟩, if_pos e]
  · rw [if_neg (fun h => e h.2), if_neg e]

theorem atoiS_len : ∀ {ws : List (List UInt8)} {xs : List Int}, atoiS ws = some xs → xs.length = ws.length
  | [], xs, h => by
    have : [] = xs := by simpa [atoiS] using h
    rw [← this]; rfl
  | x :: t, xs, h => by
    rw [atoiS] at h
    cases hx : Lib.atoiAll x with
    | ok z =>
      rw [hx] at h
      cases ht : atoiS t with
      | none => rw [ht] at h; cases h
      | some ys =>
        rw [ht] at h
        have : z :: ys = xs := by simpa using h
        rw [← this, List.length_cons, List.length_cons, atoiS_len ht]
    | «syntax» => rw [hx] at h; cases h
    | range => rw [hx] at h; cases h
theorem JA.ints' {w W : World} {a : Option Addr} {q qc : Nat} {xs : List Int} (j : JA w (.slice a q qc) xs W) (hq : xs.length = q) : Ints W a q xs := by
  subst hq
  obtain ⟨a', c', e, -, h, -⟩ := j.ints
  cases e
  exact h

set_option maxHeartbeats 6400000 in
theorem iread_any (l : List UInt8) (w : World) (hl : l.length ≤ 1048576) (hA : ReadsN w) (hSp : Splits w) (hT : Lib.TabBelow Tryd.prog w.heap.size w "internal/strconv.uint64pow10" .u64 Lib.pow10Tab) :
    Calls Tryd.prog 26 #[.string ⟨l.toArray⟩] w fun e w' => ∃ c a n cap xs ok, e = .returned (.tuple #[resP c a n cap, .bool ok]) ∧ xs.length = n ∧ JA w (.slice a n cap) xs w' ∧ rdF l = (c, xs, ok) := by
  have HA : Hid _ := hA
  have HP : Hid _ := hSp
  have HT : Hid _ := hT
  clear hA hSp hT
  have bx := Cel.new w [.int .i64 0, .slice none 0 0] 27
  have B0 := (Below.refl w.heap.size w).alloc (Nat.le_refl _) (.cells #[.int .i64 0, .slice none 0 0] 27)
  by_cases h120 : l.length ≤ 120
  · have hi : ¬ (120 : Int) < (l.length : Int) := by omega
    obtain ⟨x0, ws, hws⟩ : ∃ x0 ws, wordsOf l = x0 :: ws := by
      cases h : wordsOf l with
      | nil => exact absurd h (words_ne l)
      | cons a b => exact ⟨a, b, rfl⟩
    have HWS : Hid _ := hws
    obtain ⟨n, hn⟩ : ∃ n, ws.length = n := ⟨_, rfl⟩
    have HN : Hid _ := hn
    have hn121 : n ≤ 121 := by rw [← hn]; exact words_few h120 hws
    have HS : Hid _ := fun x hx => Nat.le_trans (words_short hws x hx) h120
    have hlen : (wordsOf l).length = n + 1 := by rw [hws, List.length_cons, hn]
    have HLEN : Hid _ := hlen
    clear hws hn hlen
    go_enter Tryd.func26, Tryd.ntmps26
    go_wp2_with fail
    refine (HP.out _ B0 l h120).mono ?_
    rintro e w1 ⟨rfl, hg, hcs, b1⟩
    rw [HLEN.out]
    have bx1 := bx.below b1
    have B1 := B0.trans (b1.mono B0.size)
    rw [World.size_alloc] at hg hcs ⊢
    have lt1 := bx1.lt
    have HCS : Hid (∀ (i : Nat) (x : List UInt8), (x0 :: ws)[i]? = some x → w1.cell? ⟨w.heap.size + 1, i, none⟩ = some (.string ⟨x.toArray⟩)) := fun i x hx => hcs i x (by rw [HWS.out]; exact hx)
    clear hcs bx b1
    go_wp2_with fail
    refine (iwords_any x0 ws _ n _ _ HN.out hn121 (Nat.le_refl _) hg HCS.out HS.out (ReadsN.below HA.out B1)).mono ?_
    rintro e w2 ⟨c, a, q, qc, xs, ok, rfl, hq, jj, hok, hnok⟩
    have HQ : Hid _ := hq
    clear hq
    have B2 := B1.trans (jj.b.mono B1.size)
    have bx2 := bx1.below jj.b
    have r0 := bx2.cell 0
    have r1 := bx2.cell 1
    have f0 := bx2.free 0
    have f1 := bx2.free 1
    have lt2 := bx2.lt
    simp only [List.getElem?_cons_zero, List.getElem?_cons_succ] at r0 r1
    cases ok with
    | false =>
      have HR : Hid _ := rdF_no HWS.out (hnok rfl)
      have d := ((bx2.set 0 (.int .i64 0)).set 1 (.slice none 0 0)).below ((Below.refl _ _).alloc (Nat.le_refl _) (.cells #[.int .i64 c, .slice a q qc] 27))
      have d0 : (((w2.setCell ⟨w.heap.size, 0, none⟩ (.int .i64 0)).setCell ⟨w.heap.size, 1, none⟩ (.slice none 0 0)).alloc (.cells #[.int .i64 c, .slice a q qc] 27)).cell? ⟨w.heap.size, 0, none⟩ = some (.int .i64 0) := d.cell 0
      have d1 : (((w2.setCell ⟨w.heap.size, 0, none⟩ (.int .i64 0)).setCell ⟨w.heap.size, 1, none⟩ (.slice none 0 0)).alloc (.cells #[.int .i64 c, .slice a q qc] 27)).cell? ⟨w.heap.size, 1, none⟩ = some (.slice none 0 0) := d.cell 1
      have BE := ((B2.setCell (p := ⟨w.heap.size, 0, none⟩) (Nat.le_refl _) (.int .i64 0)).setCell (p := ⟨w.heap.size, 1, none⟩) (Nat.le_refl _) (.slice none 0 0))
      have BF := BE.alloc BE.size (.cells #[.int .i64 c, .slice a q qc] 27)
      clear hok hnok jj bx1 bx2 d BE
      go_wp2
      exact bodyPost_ret (v := .tuple #[resP 0 none 0 0, .bool false]) (by simp [results, Tryd.results26, go_sem, d0, d1]) rfl ⟨0, none, 0, 0, [], false, rfl, rfl, ⟨BF, World.ownsRow_nil _ _ _ _⟩, HR.out⟩
    | true =>
      obtain ⟨h0, hc, hx⟩ := hok rfl
      have HR : Hid _ := rdF_yes h120 HWS.out h0 hc hx HQ.out
      have HQ2 : Hid (q ≤ 1048576) := by show _ ≤ _; rw [← HQ.out, atoiS_len hx, HN.out]; omega
      clear hok hnok h0 hc hx
      go_wp2_with fail
      obtain ⟨W3, hW3⟩ : ∃ W3, W3 = w2.alloc (.cells #[.int .i64 c, .slice a q qc] 27) := ⟨_, rfl⟩
      have j3 : JA w1 (.slice a q qc) xs W3 := by rw [hW3]; exact jj.alloc _
      have bn : Cel W3 w2.heap.size [.int .i64 c, .slice a q qc] 27 := by rw [hW3]; exact Cel.new w2 _ _
      have bx3 : Cel W3 w.heap.size [.int .i64 0, .slice none 0 0] 27 := by rw [hW3]; exact bx2.below ((Below.refl _ _).alloc (Nat.le_refl _) _)
      have B3 : Below w.heap.size w W3 := by rw [hW3]; exact B2.alloc B2.size _
      rw [← hW3]
      clear hW3 jj bx1 bx2 r0 r1 f0 f1 B2
      refine (itext_any c a q qc xs W3 (j3.ints' HQ.out) HQ2.out (fun w' h' => HT.out w' (B3.trans (h'.mono B3.size)))).mono ?_
      rintro e w4 ⟨rfl, b4⟩
      obtain ⟨T, hTx⟩ : ∃ T, resText c q xs = T := ⟨_, rfl⟩
      rw [hTx]
      have HTX : Hid _ := hTx
      clear hTx
      have j4 := j3.below b4
      have B4 := B3.trans (b4.mono B3.size)
      have bx4 := bx3.below b4
      have bn4 := bn.below b4
      have r0 := bx4.cell 0
      have r1 := bx4.cell 1
      have f0 := bx4.free 0
      have f1 := bx4.free 1
      have n0 := bn4.cell 0
      have n1 := bn4.cell 1
      have lt4 := bx4.lt
      have lt5 := bn4.lt
      simp only [List.getElem?_cons_zero, List.getElem?_cons_succ] at r0 r1 n0 n1
      clear j3 bn bx3 B3 bx4 bn4 b4
      by_cases he : T = l
      · have hE : (T == l) = true := by rw [he]; simp
        have hE2 : (T != l) = false := by rw [he]; simp
        have HR2 : Hid (rdF l = (c, xs, true)) := by show _ = _; rw [HR.out, if_pos (by rw [HTX.out]; exact he)]
        clear he HR
        go_wp2
        exact bodyPost_ret (v := .tuple #[resP c a q qc, .bool true]) (by simp [results, Tryd.results26, go_sem, r0, r1]) rfl ⟨c, a, q, qc, xs, true, rfl, HQ.out, JA.box B1 j4 (Nat.le_refl _) lt1 _ _ _ _, HR2.out⟩
      · have hE : (T == l) = false := by simpa using he
        have hE2 : (T != l) = true := by simpa using he
        have HR2 : Hid (rdF l = (0, [], false)) := by show _ = _; rw [HR.out, if_neg (by rw [HTX.out]; exact he)]
        clear he HR
        go_wp2
        exact bodyPost_ret (v := .tuple #[resP 0 none 0 0, .bool false]) (by simp [results, Tryd.results26, go_sem, r0, r1]) rfl ⟨0, none, 0, 0, [], false, rfl, rfl, ⟨(B4.setCell (Nat.le_refl _) _).setCell (Nat.le_refl _) _, World.ownsRow_nil _ _ _ _⟩, HR2.out⟩
  · have hi : (120 : Int) < (l.length : Int) := by omega
    have r0 := bx.cell 0
    have r1 := bx.cell 1
    have f0 := bx.free 0
    have f1 := bx.free 1
    simp only [List.getElem?_cons_zero, List.getElem?_cons_succ] at r0 r1
    have HR : Hid (rdF l = (0, [], false)) := by show _ = _; rw [rdF, if_neg h120]
    go_enter Tryd.func26, Tryd.ntmps26
    go_wp2
    refine bodyPost_ret (v := .tuple #[resP 0 none 0 0, .bool false]) (by simp [results, Tryd.results26, go_sem]) rfl ⟨0, none, 0, 0, [], false, rfl, rfl, ⟨?_, World.ownsRow_nil _ _ _ _⟩, HR.out⟩
    exact B0

end Go.Proofs.YtejeffnonddfhaaDoor
