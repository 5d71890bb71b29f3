/-
  The first word of a line, and the numbers behind it, as the program reads them. A line of at most 1048576 letters.
-/
import Derived.Test.YtmdjcfplhmkocaaDoorDeJ
namespace Go.Proofs.YtmdjcfplhmkocaaDoor
open Go.RowKit Go.MapKept
set_option linter.unusedVariables false
set_option maxRecDepth 100000

/-- What strings.Cut answers where it cuts at a blank, in this world and in all behind it. -/
def CutsB (w : World) : Prop := ∀ W, Below w.heap.size w W → ∀ s : List UInt8, s.length ≤ 1048576 → Calls Tryd.prog 30 #[.string ⟨s.toArray⟩, .string ⟨#[32]⟩] W fun e w' =>
  e = .returned (.tuple #[.string ⟨(Lib.cut s [32]).1.toArray⟩, .string ⟨(Lib.cut s [32]).2.1.toArray⟩, .bool (Lib.cut s [32]).2.2]) ∧ Below W.heap.size W w'
theorem CutsB.below {w w' : World} (h : CutsB w) (b : Below w.heap.size w w') : CutsB w' := fun W hW => h W (b.trans (hW.mono b.size))
theorem cutsB_of (w : World) (m : Int) (hm : w.cell? ⟨Tryd.lays145_ren.g 1, 0, none⟩ = some (.int .i64 m)) : CutsB w := fun W b s hs => by
  have hmW : W.cell? ⟨Tryd.lays145_ren.g 1, 0, none⟩ = some (.int .i64 m) := by rw [b.cell (p := ⟨_, 0, none⟩) (block_lt hm)]; exact hm
  have hss : (⟨s.toArray⟩ : ByteArray).size < 4294967281 := by show s.toArray.size < _; rw [List.size_toArray]; omega
  refine (Any.strings_Cut Tryd.lays145 ⟨s.toArray⟩ ⟨#[32]⟩ m W hss hmW).mono ?_
  rintro e w' ⟨rfl, n, rfl⟩
  exact ⟨rfl, below_drewN (Below.refl _ _) n⟩
theorem ifirst_any (l : List UInt8) (w : World) (hl : l.length ≤ 1048576) (hC : CutsB w) :
    Calls Tryd.prog 15 #[.string ⟨l.toArray⟩] w fun e w' => e = .returned (.string ⟨(Lib.cut l [32]).1.toArray⟩) ∧ Below w.heap.size w w' := by
  go_enter Tryd.func15, Tryd.ntmps15
  go_wp2_with fail
  refine (hC w (Below.refl _ _) l hl).mono ?_
  rintro e w1 ⟨rfl, b1⟩
  go_wp2
  go_ret
  exact ⟨rfl, b1⟩

theorem atoiS_len' : ∀ {ws : List (List UInt8)} {xs : List Int}, atoiS ws = some xs → xs.length = ws.length := fun h => atoiS_len h
/-- The numbers of a line, as both sides read them. -/
def lineN (l : List UInt8) : Option (List Int) := if l.length ≤ 120 then nmS ((wordsOf l).drop 1) else none

set_option maxHeartbeats 1600000 in
theorem inol_any (l : List UInt8) (w : World) (hl : l.length ≤ 1048576) (hA : ReadsN w) (hSp : Splits w) (hT : Lib.TabBelow Tryd.prog w.heap.size w "internal/strconv.uint64pow10" .u64 Lib.pow10Tab) :
    Calls Tryd.prog 16 #[.string ⟨l.toArray⟩] w fun e w' => ∃ v xs ok, e = .returned (.tuple #[v, .bool ok]) ∧ JA w v xs w' ∧ (ok = true → lineN l = some xs) ∧ (ok = false → lineN l = none) := by
  have HA : Hid _ := hA
  have HP : Hid _ := hSp
  have HT : Hid _ := hT
  clear hA hSp hT
  by_cases h120 : l.length ≤ 120
  · have hi : ¬ (120 : Int) < (l.length : Int) := by omega
    obtain ⟨x0, ws, hws⟩ : ∃ x0 ws, wordsOf l = x0 :: ws := by
      cases h : wordsOf l with
      | nil => exact absurd h (words_ne l)
      | cons a b => exact ⟨a, b, rfl⟩
    have HWS : Hid _ := hws
    obtain ⟨n, hn⟩ : ∃ n, ws.length = n := ⟨_, rfl⟩
    have HN : Hid _ := hn
    have hn121 : n ≤ 121 := by rw [← hn]; exact words_few h120 hws
    have HS : Hid (∀ x ∈ ws, x.length ≤ 120) := fun x hx => Nat.le_trans (words_short hws x hx) h120
    have hx0 : x0.length ≤ 120 := by
      have h := congrArg List.length (words_whole hws).1
      rw [List.length_append] at h
      omega
    have HLEN : Hid ((wordsOf l).length = n + 1) := by show _ = _; rw [hws, List.length_cons, hn]
    have HE : Hid (lineN l = nmI l x0 ws) := by show _ = _; rw [lineN, if_pos h120, nm_same hws, hws]; rfl
    clear hws hn
    go_enter Tryd.func16, Tryd.ntmps16
    go_wp2_with fail
    refine (HP.out w (Below.refl _ _) l h120).mono ?_
    rintro e w1 ⟨rfl, hg, hcs, b1⟩
    rw [HLEN.out]
    have c0 : w1.cell? ⟨w.heap.size, 0, none⟩ = some (.string ⟨x0.toArray⟩) := hcs 0 x0 (by rw [HWS.out]; rfl)
    have HCS : Hid (∀ (i : Nat) (x : List UInt8), ws[i]? = some x → w1.cell? ⟨w.heap.size, 1 + i, none⟩ = some (.string ⟨x.toArray⟩)) := fun i x hx => hcs (1 + i) x (by rw [HWS.out, Nat.add_comm]; exact hx)
    have HW2 : Hid (∀ o : Nat, n = 0 ∨ o = 1 → ∀ (i : Nat) (x : List UInt8), ws[i]? = some x → w1.cell? ⟨w.heap.size, o + i, none⟩ = some (.string ⟨x.toArray⟩)) := fun o ho i x hx => by
      rcases ho with ho | rfl
      · exact absurd (List.getElem?_eq_some_iff.1 hx).1 (by have := HN.out; omega)
      · exact HCS.out i x hx
    clear hcs HCS
    rcases Nat.eq_zero_or_pos n with hz | hz
    · subst hz
      have HW3 : ∀ (o i : Nat) (x : List UInt8), ws[i]? = some x → w1.cell? ⟨w.heap.size, o + i, none⟩ = some (.string ⟨x.toArray⟩) := fun o i x hx => absurd (List.getElem?_eq_some_iff.1 hx).1 (by have := HN.out; omega)
      go_wp2_with fail
      refine (inums_any ws w.heap.size _ _ _ w1 HN.out hn121 hg (HW3 _) HS.out (ReadsN.below HA.out b1)).mono ?_
      rintro e w2 ⟨v, xs, ok, rfl, j, hok, hnok⟩
      obtain ⟨a, cap, rfl, hcap, hI, -⟩ := j.ints
      have J : JA w (.slice a xs.length cap) xs w2 := ⟨b1.trans (j.b.mono b1.size), own_weak j.o b1.size⟩
      obtain ⟨q, hq⟩ : ∃ q, xs.length = q := ⟨_, rfl⟩
      rw [hq] at J hI ⊢
      have c2 : w2.cell? ⟨w.heap.size, 0, none⟩ = some (.string ⟨x0.toArray⟩) := (j.b.cell (p := ⟨w.heap.size, 0, none⟩) hg).trans c0
      cases ok with
      | false =>
        have HR : Hid (lineN l = none) := by show _ = _; rw [HE.out, nmI, hnok rfl]
        clear hok hnok j
        go_wp2
        refine bodyPost_ret (v := .tuple #[.slice none 0 0, .bool false]) (by simp [results, Tryd.results16, go_sem]) rfl ?_
        exact ⟨_, [], false, rfl, ⟨J.b, World.ownsRow_nil _ _ _ _⟩, (fun h => by cases h), (fun _ => HR.out)⟩
      | true =>
        have HX : Hid (atoiS ws = some xs) := hok rfl
        have HQ : Hid (xs.length = q) := hq
        have hq1 : q ≤ 1000 := by rw [← hq, atoiS_len' HX.out, HN.out]; omega
        clear hok hnok j hq hcap
        go_wp2_with fail
        refine (within_any a q cap xs 999999999999 w2 hI (by omega) (by omega) (by omega)).mono ?_
        rintro e w3 ⟨rfl, rfl⟩
        cases hB : allB 999999999999 xs with
        | false =>
          have HR : Hid (lineN l = none) := by show _ = _; rw [HE.out, nmI, HX.out]; simp [hB]
          clear hB
          go_wp2
          refine bodyPost_ret (v := .tuple #[.slice none 0 0, .bool false]) (by simp [results, Tryd.results16, go_sem]) rfl ?_
          exact ⟨_, [], false, rfl, ⟨J.b, World.ownsRow_nil _ _ _ _⟩, (fun h => by cases h), (fun _ => HR.out)⟩
        | true =>
          have HB : Hid (allB 999999999999 xs = true) := hB
          have hz : ∀ i : Nat, -999999999999 ≤ xs[i]?.getD 0 ∧ xs[i]?.getD 0 ≤ 999999999999 := fun i => by
            cases hx : xs[i]? with
            | none => simp
            | some z => exact allB_iff.1 HB.out z (List.mem_of_getElem? hx)
          clear hB
          go_wp2_with fail
          refine (itwn_any x0 a q cap xs _ hI hq1 (by omega) hz (fun w' h' => HT.out w' (J.b.trans (h'.mono J.b.size)))).mono ?_
          rintro e w4 ⟨rfl, b4⟩
          have J4 := J.below b4
          obtain ⟨T, hTx⟩ : ∃ T, x0 ++ tailL xs = T := ⟨_, rfl⟩
          rw [hTx]
          have HTX : Hid _ := hTx
          clear hTx hz
          by_cases he : T = l
          · have hE : (T == l) = true := by rw [he]; simp
            have hE2 : (T != l) = false := by rw [he]; simp
            have HR : Hid (lineN l = some xs) := by show _ = _; rw [HE.out, nmI, HX.out]; simp [HB.out, HTX.out, he]
            clear he
            go_wp2
            refine bodyPost_ret (v := .tuple #[.slice a q cap, .bool true]) (by simp [results, Tryd.results16, go_sem]) rfl ?_
            exact ⟨_, xs, true, rfl, J4, (fun _ => HR.out), (fun h => by cases h)⟩
          · have hE : (T == l) = false := by simpa using he
            have hE2 : (T != l) = true := by simpa using he
            have HR : Hid (lineN l = none) := by show _ = _; rw [HE.out, nmI, HX.out]; simp [HB.out, HTX.out, he]
            clear he
            go_wp2
            refine bodyPost_ret (v := .tuple #[.slice none 0 0, .bool false]) (by simp [results, Tryd.results16, go_sem]) rfl ?_
            exact ⟨_, [], false, rfl, ⟨J4.b, World.ownsRow_nil _ _ _ _⟩, (fun h => by cases h), (fun _ => HR.out)⟩
    · have hnz : ¬ n = 0 := by omega
      go_wp2_with fail
      refine (inums_any ws w.heap.size _ _ _ w1 HN.out hn121 hg (HW2.out _ (by omega)) HS.out (ReadsN.below HA.out b1)).mono ?_
      rintro e w2 ⟨v, xs, ok, rfl, j, hok, hnok⟩
      obtain ⟨a, cap, rfl, hcap, hI, -⟩ := j.ints
      have J : JA w (.slice a xs.length cap) xs w2 := ⟨b1.trans (j.b.mono b1.size), own_weak j.o b1.size⟩
      obtain ⟨q, hq⟩ : ∃ q, xs.length = q := ⟨_, rfl⟩
      rw [hq] at J hI ⊢
      have c2 : w2.cell? ⟨w.heap.size, 0, none⟩ = some (.string ⟨x0.toArray⟩) := (j.b.cell (p := ⟨w.heap.size, 0, none⟩) hg).trans c0
      cases ok with
      | false =>
        have HR : Hid (lineN l = none) := by show _ = _; rw [HE.out, nmI, hnok rfl]
        clear hok hnok j
        go_wp2
        refine bodyPost_ret (v := .tuple #[.slice none 0 0, .bool false]) (by simp [results, Tryd.results16, go_sem]) rfl ?_
        exact ⟨_, [], false, rfl, ⟨J.b, World.ownsRow_nil _ _ _ _⟩, (fun h => by cases h), (fun _ => HR.out)⟩
      | true =>
        have HX : Hid (atoiS ws = some xs) := hok rfl
        have HQ : Hid (xs.length = q) := hq
        have hq1 : q ≤ 1000 := by rw [← hq, atoiS_len' HX.out, HN.out]; omega
        clear hok hnok j hq hcap
        go_wp2_with fail
        refine (within_any a q cap xs 999999999999 w2 hI (by omega) (by omega) (by omega)).mono ?_
        rintro e w3 ⟨rfl, rfl⟩
        cases hB : allB 999999999999 xs with
        | false =>
          have HR : Hid (lineN l = none) := by show _ = _; rw [HE.out, nmI, HX.out]; simp [hB]
          clear hB
          go_wp2
          refine bodyPost_ret (v := .tuple #[.slice none 0 0, .bool false]) (by simp [results, Tryd.results16, go_sem]) rfl ?_
          exact ⟨_, [], false, rfl, ⟨J.b, World.ownsRow_nil _ _ _ _⟩, (fun h => by cases h), (fun _ => HR.out)⟩
        | true =>
          have HB : Hid (allB 999999999999 xs = true) := hB
          have hz : ∀ i : Nat, -999999999999 ≤ xs[i]?.getD 0 ∧ xs[i]?.getD 0 ≤ 999999999999 := fun i => by
            cases hx : xs[i]? with
            | none => simp
            | some z => exact allB_iff.1 HB.out z (List.mem_of_getElem? hx)
          clear hB
          go_wp2_with fail
          refine (itwn_any x0 a q cap xs _ hI hq1 (by omega) hz (fun w' h' => HT.out w' (J.b.trans (h'.mono J.b.size)))).mono ?_
          rintro e w4 ⟨rfl, b4⟩
          have J4 := J.below b4
          obtain ⟨T, hTx⟩ : ∃ T, x0 ++ tailL xs = T := ⟨_, rfl⟩
          rw [hTx]
          have HTX : Hid _ := hTx
          clear hTx hz
          by_cases he : T = l
          · have hE : (T == l) = true := by rw [he]; simp
            have hE2 : (T != l) = false := by rw [he]; simp
            have HR : Hid (lineN l = some xs) := by show _ = _; rw [HE.out, nmI, HX.out]; simp [HB.out, HTX.out, he]
            clear he
            go_wp2
            refine bodyPost_ret (v := .tuple #[.slice a q cap, .bool true]) (by simp [results, Tryd.results16, go_sem]) rfl ?_
            exact ⟨_, xs, true, rfl, J4, (fun _ => HR.out), (fun h => by cases h)⟩
          · have hE : (T == l) = false := by simpa using he
            have hE2 : (T != l) = true := by simpa using he
            have HR : Hid (lineN l = none) := by show _ = _; rw [HE.out, nmI, HX.out]; simp [HB.out, HTX.out, he]
            clear he
            go_wp2
            refine bodyPost_ret (v := .tuple #[.slice none 0 0, .bool false]) (by simp [results, Tryd.results16, go_sem]) rfl ?_
            exact ⟨_, [], false, rfl, ⟨J4.b, World.ownsRow_nil _ _ _ _⟩, (fun h => by cases h), (fun _ => HR.out)⟩
  · have hi : (120 : Int) < (l.length : Int) := by omega
    go_enter Tryd.func16, Tryd.ntmps16
    go_wp2
    refine bodyPost_ret (v := .tuple #[.slice none 0 0, .bool false]) (by simp [results, Tryd.results16, go_sem]) rfl ?_
    exact ⟨_, [], false, rfl, JA.nil w, (fun h => by cases h), (fun _ => by rw [lineN, if_neg h120])⟩

end Go.Proofs.YtmdjcfplhmkocaaDoor
