/-
  A result, as the program reads it: its word. The library's strconv.Atoi is taken by what it answers (ReadsN).
-/
import Derived.Test.YtejeffnonddfhaaDoorRdI
import Derived.Deep.RegionHeld3
import Derived.Deep.DeepCutAuto
namespace Go.Proofs.YtejeffnonddfhaaDoor
open Go.RowKit Go.Deep
set_option linter.unusedVariables false
set_option maxRecDepth 100000

theorem code_at {x : List UInt8} {k : Nat} (h1 : 1 ≤ k) (h3 : k ≤ 3) (h : wordL k = x) : codeTo x 4 = k := by
  subst h
  have : k = 1 ∨ k = 2 ∨ k = 3 := by omega
  rcases this with rfl | rfl | rfl <;> decide
theorem code_none {x : List UInt8} (h : ∀ k : Nat, 1 ≤ k → k < 4 → wordL k ≠ x) : codeTo x 4 = 0 := by
  rw [codeTo, if_neg (h 3 (by omega) (by omega)), codeTo, if_neg (h 2 (by omega) (by omega)), codeTo, if_neg (h 1 (by omega) (by omega)), codeTo]

theorem JA.box {w w3 w4 : World} {v : Value} {xs : List Int} {r : Nat} (B3 : Below w.heap.size w w3) (j : JA w3 v xs w4) (hB : w.heap.size ≤ r) (hr : r < w3.heap.size) (i l : Nat) (x y : Value) : JA w v xs ((w4.setCell ⟨r, i, none⟩ x).setCell ⟨r, l, none⟩ y) := by
  refine ⟨((B3.trans (j.b.mono B3.size)).setCell hB _).setCell hB _, j.o.1, ?_⟩
  rcases j.o.2 with h2 | ⟨g, cap, cur, hv, hg, hh, q⟩
  · exact Or.inl h2
  · have := B3.size
    refine Or.inr ⟨g, cap, cur, hv, by omega, ?_, q⟩
    rw [Below.heap_setCell _ _ _ _ (show g ≠ r by omega), Below.heap_setCell _ _ _ _ (show g ≠ r by omega)]; exact hh
theorem wordB_any (c : Int) (w : World) : Calls Tryd.prog 34 #[.int .i64 c] w fun e w' => e = .returned (.string ⟨(wordL c).toArray⟩) ∧ Below w.heap.size w w' := by
  refine (word_any c w).mono ?_
  rintro e w' ⟨h, rfl⟩
  exact ⟨h, Below.refl _ _⟩

set_option maxHeartbeats 3200000 in
theorem iwords_any (x0 : List UInt8) (ws : List (List UInt8)) (b n cap : Nat) (w : World) (hn : ws.length = n) (hn1 : n ≤ 121) (hcap : n + 1 ≤ cap) (hb : b < w.heap.size) (hW : ∀ (i : Nat) (x : List UInt8), (x0 :: ws)[i]? = some x → w.cell? ⟨b, i, none⟩ = some (.string ⟨x.toArray⟩)) (hws : ∀ x ∈ ws, x.length ≤ 120) (hA : ReadsN w) :
    Calls Tryd.prog 52 #[.slice (some ⟨b, 0, none⟩) (n + 1) cap] w fun e w' => ∃ c a q qc xs ok, e = .returned (.tuple #[resP c a q qc, .bool ok]) ∧ xs.length = q ∧ JA w (.slice a q qc) xs w' ∧ (ok = true → c ≠ 0 ∧ c = codeTo x0 4 ∧ atoiS ws = some xs) ∧ (ok = false → codeTo x0 4 = 0 ∨ atoiS ws = none) := by
  have HN : Hid _ := hn
  have HW : Hid _ := hW
  have HS : Hid _ := hws
  have HA : Hid _ := hA
  clear hn hW hws hA
  have bx0 := Cel.new w [.int .i64 0, .slice none 0 0] 27
  have B0 := (Below.refl w.heap.size w).alloc (Nat.le_refl _) (.cells #[.int .i64 0, .slice none 0 0] 27)
  go_enter Tryd.func52, Tryd.ntmps52
  go_wp2_with fail
  go_loopw [4] (fun i wr => ∃ k : Nat, 1 ≤ k ∧ k ≤ 4 ∧ i = .int .i64 k ∧ Below w.heap.size w wr ∧ Cel wr w.heap.size [.int .i64 0, .slice none 0 0] 27 ∧ ∀ q : Nat, 1 ≤ q → q < k → wordL q ≠ x0) (fun i _ => 4 - (intOf i).toNat)
  case atStart => exact ⟨1, by omega, by omega, rfl, B0, bx0, fun q h1 h2 => by omega⟩
  case round =>
    clear B0 bx0
    obtain ⟨k, hk1, hk4, rfl, B, bx, hno⟩ := hrel
    have HNO : Hid _ := hno
    clear hno
    by_cases hk : k ≤ 3
    · have hk3 : (k : Int) ≤ 3 := by omega
      have h0 : wr.cell? ⟨b, 0, none⟩ = some (.string ⟨x0.toArray⟩) := by
        rw [B.cell (p := ⟨b, 0, none⟩) hb]; exact HW.out 0 x0 rfl
      have hn0 : (0 : Int) < (n : Int) + 1 := by omega
      have hbr : b < wr.heap.size := Nat.lt_of_lt_of_le hb B.size
      obtain ⟨wk, hwk⟩ : ∃ wk, wordL k = wk := ⟨_, rfl⟩
      have HWK : Hid _ := hwk
      clear hwk
      by_cases he : x0 = wk
      · have hE1 : (x0 == wk) = true := by rw [he]; simp
        have hE2 : (wk == x0) = true := by rw [he]; simp
        have HC : Hid (codeTo x0 4 = k) := code_at hk1 hk (by rw [HWK.out, he])
        clear he
        go_upto_region 4 with fail
        go_region_held3 (fun w' => w'.cell? ⟨b, 0, none⟩ = some (.string ⟨x0.toArray⟩)) (first | with_reducible assumption | exact h0)
          (first
            | (go_at_call 34
               refine (wordB_any _ _).mono ?_
               rintro ee w3 ⟨rfl, bd⟩
               rw [HWK.out]
               have b3 := below_of_drew bd
               have h3 : w3.cell? ⟨b, 0, none⟩ = some (.string ⟨x0.toArray⟩) := by rw [b3.cell (p := ⟨b, 0, none⟩) hbr]; exact h0))
        have B3 := B.trans (b3.mono B.size)
        have bx3 := bx.below b3
        have lt3 := bx3.lt
        have hb3 : b < w3.heap.size := Nat.lt_of_lt_of_le hb B3.size
        have HW3 : Hid (∀ (i : Nat) (x : List UInt8), ws[i]? = some x → w3.cell? ⟨b, 1 + i, none⟩ = some (.string ⟨x.toArray⟩)) := fun i x hx => by
          rw [B3.cell (p := ⟨b, 1 + i, none⟩) hb, Nat.add_comm 1 i]; exact HW.out (i + 1) x (by rw [List.getElem?_cons_succ]; exact hx)
        have HA3 : Hid (ReadsN w3) := ReadsN.below HA.out B3
        clear bx b3 bd h0 h3 hn0 HW HA HNO HWK
        go_wp2_with fail
        · refine (inums_any ws b 0 n _ _ HN.out hn1 hb3 (fun i x hx => by exfalso; have := (List.getElem?_eq_some_iff.1 hx).1; have := HN.out; omega) HS.out HA3.out).mono ?_
          rintro e w4 ⟨v, xs, ok, rfl, jj, hok, hnok⟩
          obtain ⟨a, qc, rfl, -, -, -⟩ := jj.ints
          have HOK : Hid _ := hok
          have HNOK : Hid _ := hnok
          have jx := JA.box B3 jj (Nat.le_refl _) lt3
          have bx4 := bx3.below jj.b
          clear hok hnok jj bx3
          obtain ⟨q, hq⟩ : ∃ q, xs.length = q := ⟨_, rfl⟩
          rw [hq] at jx ⊢
          have HQ : Hid _ := hq
          clear hq
          have r0 := bx4.cell 0
          have r1 := bx4.cell 1
          have f0 := bx4.free 0
          have f1 := bx4.free 1
          simp only [List.getElem?_cons_zero, List.getElem?_cons_succ] at r0 r1
          go_wp2
          refine bodyPost_ret (v := .tuple #[resP k a q qc, .bool ok]) (by simp [results, Tryd.results52, go_sem, r0, r1]) rfl ⟨k, a, q, qc, xs, ok, rfl, HQ.out, jx _ _ _ _, (fun h => ⟨by omega, HC.out.symm, HOK.out h⟩), (fun h => Or.inr (HNOK.out h))⟩
        · refine (inums_any ws b 1 n _ _ HN.out hn1 hb3 HW3.out HS.out HA3.out).mono ?_
          rintro e w4 ⟨v, xs, ok, rfl, jj, hok, hnok⟩
          obtain ⟨a, qc, rfl, -, -, -⟩ := jj.ints
          have HOK : Hid _ := hok
          have HNOK : Hid _ := hnok
          have jx := JA.box B3 jj (Nat.le_refl _) lt3
          have bx4 := bx3.below jj.b
          clear hok hnok jj bx3
          obtain ⟨q, hq⟩ : ∃ q, xs.length = q := ⟨_, rfl⟩
          rw [hq] at jx ⊢
          have HQ : Hid _ := hq
          clear hq
          have r0 := bx4.cell 0
          have r1 := bx4.cell 1
          have f0 := bx4.free 0
          have f1 := bx4.free 1
          simp only [List.getElem?_cons_zero, List.getElem?_cons_succ] at r0 r1
          go_wp2
          refine bodyPost_ret (v := .tuple #[resP k a q qc, .bool ok]) (by simp [results, Tryd.results52, go_sem, r0, r1]) rfl ⟨k, a, q, qc, xs, ok, rfl, HQ.out, jx _ _ _ _, (fun h => ⟨by omega, HC.out.symm, HOK.out h⟩), (fun h => Or.inr (HNOK.out h))⟩
      · have hE1 : (x0 == wk) = false := by simpa using he
        have hE2 : (wk == x0) = false := by simpa using fun e => he e.symm
        have HNO2 : Hid (∀ q : Nat, 1 ≤ q → q < k + 1 → wordL q ≠ x0) := fun q h1 h2 => by
          by_cases e : q = k
          · subst e; rw [HWK.out]; exact fun e => he e.symm
          · exact HNO.out q h1 (by omega)
        clear he
        go_upto_region 4 with fail
        go_region_held3 (fun w' => w'.cell? ⟨b, 0, none⟩ = some (.string ⟨x0.toArray⟩)) (first | with_reducible assumption | exact h0)
          (first
            | (go_at_call 34
               refine (wordB_any _ _).mono ?_
               rintro ee w3 ⟨rfl, bd⟩
               rw [HWK.out]
               have b3 := below_of_drew bd
               have h3 : w3.cell? ⟨b, 0, none⟩ = some (.string ⟨x0.toArray⟩) := by rw [b3.cell (p := ⟨b, 0, none⟩) hbr]; exact h0))
        have B3 := B.trans (b3.mono B.size)
        have bx3 := bx.below b3
        clear bx b3 bd h0 h3 hn0
        go_wp2
        go_roundw
        case rel => exact ⟨k + 1, by omega, by omega, by go_num, B3, bx3, HNO2.out⟩
        case measure => simp [intOf]; omega
    · obtain rfl : k = 4 := by omega
      have HC : Hid (codeTo x0 4 = 0) := code_none HNO.out
      have r0 := bx.cell 0
      have r1 := bx.cell 1
      have f0 := bx.free 0
      have f1 := bx.free 1
      have lt3 := bx.lt
      simp only [List.getElem?_cons_zero, List.getElem?_cons_succ] at r0 r1
      go_wp2
      refine bodyPost_ret (v := .tuple #[resP 0 none 0 0, .bool false]) (by simp [results, Tryd.results52, go_sem, r0, r1]) rfl ⟨0, none, 0, 0, [], false, rfl, rfl, ⟨?_, World.ownsRow_nil _ _ _ _⟩, (fun h => by cases h), (fun _ => Or.inl HC.out)⟩
      exact (B.setCell (Nat.le_refl _) _).setCell (Nat.le_refl _) _

end Go.Proofs.YtejeffnonddfhaaDoor
