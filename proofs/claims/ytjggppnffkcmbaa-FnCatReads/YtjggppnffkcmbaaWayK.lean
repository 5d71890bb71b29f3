/-
  slices.Concat of forms and one form more. At most 100 forms.
-/
import Derived.Test.YtjggppnffkcmbaaWayG
import Derived.Deep.Upon
namespace Go.Proofs.Ytjggppnffkcmbaa
open Go.RowKit Go.Deep
set_option linter.unusedVariables false
set_option maxRecDepth 100000

/-- The cells of forms that can be read. -/
theorem FormsAt.cells {w : World} {b off : Nat} {fs : List Frm} (h : FormsAt w (some ⟨b, off, none⟩) fs) : ∀ k, k ≤ fs.length → ∃ xs : List Value, xs.length = k * 3 ∧ (∀ j u, xs[j]? = some u → w.cell? ⟨b, off + j, none⟩ = some u) ∧ (∀ u ∈ xs, u.oneCell' = true) ∧ (∀ G, w.heap.size ≤ G → TermsOk w G xs fs k) := by
  intro k
  induction k with
  | zero => intro _; exact ⟨[], rfl, fun j u hu => by simp at hu, fun u hu => by simp at hu, fun G _ j hj => by omega⟩
  | succ k ih =>
    intro hk
    obtain ⟨xs, h1, h2, h3, h4⟩ := ih (by omega)
    obtain ⟨b', off', e, a', c', ca, cc, c0, c1, c2, iC, iD⟩ := h k (by omega)
    simp only [Option.some.injEq, Addr.mk.injEq, and_true] at e
    obtain ⟨rfl, rfl⟩ := e
    refine ⟨xs ++ [.slice a' 3 ca, .slice c' 2 cc, .int .i64 (fs[k]?.getD ([], [], 0)).2.2], by rw [List.length_append, h1]; simp; omega, fun j u hu => ?_, fun u hu => ?_, fun G hG j hj => ?_⟩
    · by_cases hj : j < xs.length
      · rw [List.getElem?_append_left hj] at hu; exact h2 j u hu
      · rw [List.getElem?_append_right (by omega), h1] at hu
        obtain ⟨r, rfl⟩ : ∃ r, j = k * 3 + r := ⟨j - k * 3, by omega⟩
        rw [show k * 3 + r - k * 3 = r by omega] at hu
        match r with
        | 0 => simp only [List.getElem?_cons_zero, Option.some.injEq] at hu; subst hu; exact c0
        | 1 => simp only [List.getElem?_cons_zero, List.getElem?_cons_succ, Option.some.injEq] at hu; subst hu; exact c1
        | 2 => simp only [List.getElem?_cons_zero, List.getElem?_cons_succ, Option.some.injEq] at hu; subst hu; exact c2
        | r + 3 => simp at hu
    · rcases List.mem_append.1 hu with hu | hu
      · exact h3 u hu
      · simp only [List.mem_cons, List.not_mem_nil, or_false] at hu
        rcases hu with rfl | rfl | rfl <;> rfl
    · by_cases hjk : j < k
      · obtain ⟨a2, c2', x, y, e0, e1, e2, i1, i2, n1, n2⟩ := h4 G hG j hjk
        exact ⟨a2, c2', x, y, by rw [List.getElem?_append_left (by omega)]; exact e0, by rw [List.getElem?_append_left (by omega)]; exact e1, by rw [List.getElem?_append_left (by omega)]; exact e2, i1, i2, n1, n2⟩
      · obtain rfl : j = k := by omega
        refine ⟨a', c', ca, cc, ?_, ?_, ?_, iC, iD, fun b o e => by have := iC.blt (by omega) b o e; omega, fun b o e => by have := iD.blt (by omega) b o e; omega⟩
        · rw [List.getElem?_append_right (by omega), h1, Nat.sub_self]; rfl
        · rw [List.getElem?_append_right (by omega), h1, show j * 3 + 1 - j * 3 = 1 by omega]; rfl
        · rw [List.getElem?_append_right (by omega), h1, show j * 3 + 2 - j * 3 = 2 by omega]; rfl
theorem TermsOk.move {W W' : World} {G g : Nat} {xs : List Value} {T : List Frm} {n : Nat} (h : TermsOk W G xs T n) (t : Touch (fun x => x = G) W W') (hg : g = G ∨ W.heap.size ≤ g) : TermsOk W' g xs T n := fun j hj => by
  obtain ⟨a', c', ca, cc, e0, e1, e2, i1, i2, n1, n2⟩ := h j hj
  refine ⟨a', c', ca, cc, e0, e1, e2, i1.by t n1, i2.by t n2, fun b o e => ?_, fun b o e => ?_⟩
  · have := n1 b o e
    have := i1.blt (by omega) b o e
    omega
  · have := n2 b o e
    have := i2.blt (by omega) b o e
    omega
theorem TermsOk.join {W : World} {G : Nat} {xs ys : List Value} {T U : List Frm} {n m : Nat} (h : TermsOk W G xs T n) (h' : TermsOk W G ys U m) (hx : xs.length = n * 3) (hT : T.length = n) : TermsOk W G (xs ++ ys) (T ++ U) (n + m) := fun j hj => by
  by_cases hjn : j < n
  · obtain ⟨a', c', ca, cc, e0, e1, e2, r⟩ := h j hjn
    refine ⟨a', c', ca, cc, by rw [List.getElem?_append_left (by omega)]; exact e0, by rw [List.getElem?_append_left (by omega)]; exact e1, ?_, ?_⟩
    · rw [List.getElem?_append_left (by omega), List.getElem?_append_left (l₁ := T) (by omega)]; exact e2
    · rw [List.getElem?_append_left (l₁ := T) (by omega)]; exact r
  · obtain ⟨a', c', ca, cc, e0, e1, e2, r⟩ := h' (j - n) (by omega)
    refine ⟨a', c', ca, cc, ?_, ?_, ?_, ?_⟩
    · rw [List.getElem?_append_right (by omega), hx, show j * 3 - n * 3 = (j - n) * 3 by omega]; exact e0
    · rw [List.getElem?_append_right (by omega), hx, show j * 3 + 1 - n * 3 = (j - n) * 3 + 1 by omega]; exact e1
    · rw [List.getElem?_append_right (by omega), hx, show j * 3 + 2 - n * 3 = (j - n) * 3 + 2 by omega, List.getElem?_append_right (l₁ := T) (by omega), hT]; exact e2
    · rw [List.getElem?_append_right (l₁ := T) (by omega), hT]; exact r
theorem grown_touch {W W' : World} {G : Nat} (h : W.grownBy W' (some G)) : Touch (fun x => x = G) W W' := ⟨h.os, h.tape, h.output, h.size, fun z hz hn => h.block z hz (fun e => hn (by simpa using e))⟩

theorem igrow_at (x : Int) (n : Nat) (hx : x = (n : Int)) (h0 : 0 < n) (hn : n ≤ 1000) (w : World) :
    Calls Try.prog 149 #[.slice none 0 0, .int .i64 x] w fun e w' => ∃ G cap, e = .returned (.slice (some ⟨G, 0, none⟩) 0 cap) ∧ Below w.heap.size w w' ∧ w'.ownsRow w.heap.size 34 3 (.slice (some ⟨G, 0, none⟩) 0 cap) 0 [] ∧ n ≤ cap := by
  subst hx
  exact igrow_any n h0 hn w
theorem own_lo {W : World} {base g cap n : Nat} {xs : List Value} (h : W.ownsRow base 34 3 (.slice (some ⟨g, 0, none⟩) n cap) n xs) : base ≤ g ∧ g < W.heap.size ∧ n ≤ cap := by
  rcases h.2 with ⟨h', _⟩ | ⟨g', cap', cur, h', hb, hh, hc, _⟩
  · cases h'
  · simp only [Value.slice.injEq, Option.some.injEq, Addr.mk.injEq, and_true, true_and] at h'
    obtain ⟨rfl, rfl⟩ := h'
    exact ⟨hb, lt_of_block hh, hc⟩

set_option maxHeartbeats 3200000 in
theorem iconcat_any (Q : Nat) (ga : Option Addr) (ng gc : Nat) (fs : List Frm) (F fcap : Nat) (X : Frm) (w : World) (hQ : Cel w Q [.slice ga ng gc, .slice (some ⟨F, 0, none⟩) 1 fcap] 23) (hn : fs.length = ng) (hng : ng ≤ 100) (hG : FormsAt w ga fs) (hX : FormsAt w (some ⟨F, 0, none⟩) [X]) :
    Calls Try.prog 147 #[.slice (some ⟨Q, 0, none⟩) 2 2] w fun e w' => ∃ G cap, e = .returned (.slice (some ⟨G, 0, none⟩) (ng + 1) cap) ∧ Below w.heap.size w w' ∧ FormsAt w' (some ⟨G, 0, none⟩) (fs ++ [X]) := by
  have HN : Hid (fs.length = ng) := hn
  have HG : Hid (FormsAt w ga fs) := hG
  have HX : Hid (FormsAt w (some ⟨F, 0, none⟩) [X]) := hX
  have HQ : Hid (Cel w Q [.slice ga ng gc, .slice (some ⟨F, 0, none⟩) 1 fcap] 23) := hQ
  clear hn hG hX hQ
  obtain ⟨zi, hi, hz0, hz1, hz2⟩ := info_parts Try.infoForm
  go_enter Try.func147, Try.ntmps147
  go_wp2_with fail
  go_loopw [3, 5, 11] (fun s _ i wr => ∃ k : Nat, k ≤ 2 ∧ i = .int .i64 k ∧ (∃ x : Int, s = .int .i64 x ∧ ((k = 0 ∧ x = 0) ∨ (k = 1 ∧ x = ng) ∨ (k = 2 ∧ x = ng + 1))) ∧ wr = w) (fun _ _ i _ => 2 - (intOf i).toNat)
  case atStart => exact ⟨0, by omega, rfl, ⟨0, rfl, .inl ⟨rfl, rfl⟩⟩, rfl⟩
  case round =>
    obtain ⟨k, hk, rfl, ⟨x, rfl, hx⟩, hwr⟩ := hrel
    have hwr' : w = wr := hwr.symm
    subst hwr'
    have c0 : w.cell? ⟨Q, 0, none⟩ = some (.slice ga ng gc) := HQ.out.cell 0
    have c1 : w.cell? ⟨Q, 1, none⟩ = some (.slice (some ⟨F, 0, none⟩) 1 fcap) := HQ.out.cell 1
    rcases hx with ⟨rfl, rfl⟩ | ⟨rfl, rfl⟩ | ⟨rfl, rfl⟩
    · have p1 : ¬ ((ng : Int) < 0) := by omega
      go_wp2
      go_roundw
      case rel => exact ⟨1, by omega, rfl, ⟨_, rfl, .inr (.inl ⟨rfl, rfl⟩)⟩, trivial⟩
      case measure => simp [intOf]
    · have p1 : ¬ ((ng : Int) + 1 < 0) := by omega
      go_wp2
      go_roundw
      case rel => exact ⟨2, by omega, rfl, ⟨_, rfl, .inr (.inr ⟨rfl, rfl⟩)⟩, trivial⟩
      case measure => simp [intOf]
    · go_wp2_with fail
      refine (igrow_at _ (ng + 1) (by omega) (by omega) (by omega) _).mono ?_
      rintro e w1 ⟨G, cap, rfl, b1, o1, hcap⟩
      clear c0 c1
      go_wp2_with fail
      go_loopw [6, 8, 27] (fun r _ i w2 => ∃ (k n g cp : Nat) (xs : List Value) (T : List Frm), k ≤ 2 ∧ i = .int .i64 k ∧ r = .slice (some ⟨g, 0, none⟩) n cp ∧ T.length = n ∧ ((k = 0 ∧ n = 0 ∧ T = []) ∨ (k = 1 ∧ n = ng ∧ T = fs) ∨ (k = 2 ∧ n = ng + 1 ∧ T = fs ++ [X])) ∧ Below w.heap.size w w2 ∧ w2.ownsRow w.heap.size 34 3 (.slice (some ⟨g, 0, none⟩) n cp) n xs ∧ TermsOk w2 g xs T n) (fun _ _ i _ => 2 - (intOf i).toNat)
      case atStart => exact ⟨0, 0, G, cap, [], [], by omega, rfl, rfl, rfl, .inl ⟨rfl, rfl, rfl⟩, b1, o1, fun j hj => by omega⟩
      case round =>
        clear b1 o1 hcap
        obtain ⟨k, n, g, cp, xs, T, hk, rfl, rfl, hT, hx, hb, ho, ht⟩ := hrel
        have HT : Hid (T.length = n) := hT
        have HTT : Hid (TermsOk wr g xs T n) := ht
        have q := HQ.out.below hb
        have c0 : wr.cell? ⟨Q, 0, none⟩ = some (.slice ga ng gc) := q.cell 0
        have c1 : wr.cell? ⟨Q, 1, none⟩ = some (.slice (some ⟨F, 0, none⟩) 1 fcap) := q.cell 1
        obtain ⟨lo1, lo2, lo3⟩ := own_lo ho
        have sz := hb.size
        clear hT ht q
        rcases hx with ⟨rfl, rfl, rfl⟩ | ⟨rfl, rfl, rfl⟩ | ⟨rfl, rfl, rfl⟩
        · rcases Nat.eq_zero_or_pos ng with h0 | h0
          · have HNG : Hid (ng = 0) := h0
            clear h0
            have hs : ∀ w : World, Src Try.prog zi.size 23 (.slice ga ng gc) 0 [] w := fun w => by
              rw [HNG.out]
              cases ga with
              | none => exact Src.ofNil w Try.underlying23 gc
              | some a => exact Src.ofSlice w Try.underlying23 a 0 gc [] (by simp) (fun j u hu => by simp at hu) (fun u hu => by simp at hu)
            go_wp2_with (at_builtin; go_must (refine wpList_append_made rfl (.tmp 31) (.tmp 32) 23 23 rfl _ _ _ _ rfl rfl (run_append_nothing _ _ _ _ _ zi Try.underlying23 hi _ _ _ lo3 _ (hs _)) ?_))
            (try go_wp2)
            go_roundw
            case rel => exact ⟨1, 0, g, cp, xs, fs, by omega, rfl, rfl, HN.out.trans HNG.out, .inr (.inl ⟨rfl, HNG.out.symm, rfl⟩), hb, ho, fun j hj => by omega⟩
            case measure => simp [intOf]
          · obtain ⟨gb, go', rfl, -⟩ := HG.out 0 (by rw [HN.out]; exact h0)
            obtain ⟨ys, y1, y2, y3, y4⟩ := (HG.out.keep hb).cells ng (by rw [HN.out]; exact Nat.le_refl _)
            have HY2 : Hid (∀ j u, ys[j]? = some u → wr.cell? ((⟨gb, go', none⟩ : Addr).add j) = some u) := fun j u hu => by rw [addr_add]; exact y2 j u hu
            have HY3 : Hid _ := y3
            have HY1 : Hid (ys.length = ng * 3) := y1
            have HG2 := (HG.out.keep hb)
            obtain ⟨zs, z1, z2, z3, z4⟩ := HG.out.cells ng (by rw [HN.out]; exact Nat.le_refl _)
            have hxs : xs = [] := List.eq_nil_of_length_eq_zero (by have := ho.1; omega)
            subst hxs
            have HTG : Hid (TermsOk wr g ys fs ng) := fun j hj => by
              obtain ⟨a', c', ca, cc, e0, e1, e2, i1, i2, n1, n2⟩ := y4 wr.heap.size (Nat.le_refl _) j hj
              obtain ⟨b0, o0, e, a'', c'', ca', cc', k0, k1, k2, iC, iD⟩ := HG.out j (by rw [HN.out]; exact hj)
              simp only [Option.some.injEq, Addr.mk.injEq, and_true] at e
              obtain ⟨rfl, rfl⟩ := e
              have f0 := (hb.cell (p := ⟨gb, go' + j * 3, none⟩) (block_lt k0)).trans k0
              have f1 := (hb.cell (p := ⟨gb, go' + j * 3 + 1, none⟩) (block_lt k1)).trans k1
              have g0 := y2 (j * 3) _ e0
              have g1 := y2 (j * 3 + 1) _ e1
              rw [f0] at g0
              rw [show go' + (j * 3 + 1) = go' + j * 3 + 1 by omega, f1] at g1
              simp only [Option.some.injEq, Value.slice.injEq, true_and] at g0 g1
              obtain ⟨rfl, rfl⟩ := g0
              obtain ⟨rfl, rfl⟩ := g1
              exact ⟨a'', c'', ca', cc', e0, e1, e2, i1, i2, fun b o e => by have := iC.blt (by omega) b o e; omega, fun b o e => by have := iD.blt (by omega) b o e; omega⟩
            clear y1 y2 y3 y4 z1 z2 z3 z4 zs HG2
            go_wp2_with (at_builtin; go_must (refine wpList_append_lies _ rfl (.tmp 31) (.tmp 32) 23 rfl w.heap.size 34 zi _ 3 56 Try.underlying23 hi hz0 hz1 hz2 rfl (by decide) (.slice (some ⟨g, 0, none⟩) 0 cp) 0 [] rfl ho ⟨gb, go', none⟩ ng gc ys rfl HY1.out HY2.out HY3.out h0 (by unfold maxLen; omega) (by omega) sz _ rfl ?_); intro g2 cp2 w3 hown hgrow hat hlt1)
            have t3 : Touch (fun x => x = g) wr w3 := grown_touch hgrow
            have hat' : g2 = g ∨ wr.heap.size ≤ g2 := by
              rcases hat with h | h
              · have h' : some g = some g2 := h
                simp only [Option.some.injEq] at h'
                omega
              · omega
            have T3 := HTG.out.move t3 hat'
            have b3 := hb.trans (t3.below hb.size (fun k hk => by omega))
            have ow : w3.ownsRow w.heap.size 34 3 (.slice (some ⟨g2, 0, none⟩) ng cp2) ng ys := by
              have := hown
              rw [Nat.zero_add, List.nil_append] at this
              exact this
            clear hown hgrow hat t3 hat' HTG
            (try go_wp2)
            go_roundw
            case rel => exact ⟨1, ng, g2, cp2, ys, fs, by omega, rfl, rfl, HN.out, .inr (.inl ⟨rfl, rfl, rfl⟩), b3, ow, T3⟩
            case measure => simp [intOf]
        · obtain ⟨ys, y1, y2, y3, y4⟩ := (HX.out.keep hb).cells 1 (Nat.le_refl _)
          have HY2 : Hid (∀ j u, ys[j]? = some u → wr.cell? ((⟨F, 0, none⟩ : Addr).add j) = some u) := fun j u hu => by rw [addr_add]; exact y2 j u hu
          have HY3 : Hid _ := y3
          have HY1 : Hid (ys.length = 1 * 3) := y1
          have HTG : Hid (TermsOk wr g ys [X] 1) := fun j hj => by
            obtain ⟨a', c', ca, cc, e0, e1, e2, i1, i2, n1, n2⟩ := y4 wr.heap.size (Nat.le_refl _) j hj
            obtain ⟨b0, o0, e, a'', c'', ca', cc', k0, k1, k2, iC, iD⟩ := HX.out j hj
            simp only [Option.some.injEq, Addr.mk.injEq, and_true] at e
            obtain ⟨rfl, rfl⟩ := e
            have f0 := (hb.cell (p := ⟨F, 0 + j * 3, none⟩) (block_lt k0)).trans k0
            have f1 := (hb.cell (p := ⟨F, 0 + j * 3 + 1, none⟩) (block_lt k1)).trans k1
            have g0 := y2 (j * 3) _ e0
            have g1 := y2 (j * 3 + 1) _ e1
            rw [f0] at g0
            rw [show 0 + (j * 3 + 1) = 0 + j * 3 + 1 by omega, f1] at g1
            simp only [Option.some.injEq, Value.slice.injEq, true_and] at g0 g1
            obtain ⟨rfl, rfl⟩ := g0
            obtain ⟨rfl, rfl⟩ := g1
            exact ⟨a'', c'', ca', cc', e0, e1, e2, i1, i2, fun b o e => by have := iC.blt (by omega) b o e; omega, fun b o e => by have := iD.blt (by omega) b o e; omega⟩
          have HJ : Hid (TermsOk wr g (xs ++ ys) (T ++ [X]) (n + 1)) := HTT.out.join HTG.out ho.1 HT.out
          clear y1 y2 y3 y4
          go_wp2_with (at_builtin; go_must (refine wpList_append_lies _ rfl (.tmp 31) (.tmp 32) 23 rfl w.heap.size 34 zi _ 3 56 Try.underlying23 hi hz0 hz1 hz2 rfl (by decide) (.slice (some ⟨g, 0, none⟩) n cp) n xs rfl ho ⟨F, 0, none⟩ 1 fcap ys rfl HY1.out HY2.out HY3.out (by omega) (by unfold maxLen; omega) (by omega) sz _ rfl ?_); intro g2 cp2 w3 hown hgrow hat hlt1)
          have t3 : Touch (fun x => x = g) wr w3 := grown_touch hgrow
          have hat' : g2 = g ∨ wr.heap.size ≤ g2 := by
            rcases hat with h | h
            · have h' : some g = some g2 := h
              simp only [Option.some.injEq] at h'
              omega
            · omega
          have T3 := HJ.out.move t3 hat'
          have b3 := hb.trans (t3.below hb.size (fun k hk => by omega))
          clear hgrow hat t3 hat' HTG HJ
          (try go_wp2)
          go_roundw
          case rel => exact ⟨2, _, g2, cp2, _, T ++ [X], by omega, rfl, rfl, by rw [List.length_append, HT.out]; rfl, .inr (.inr ⟨rfl, rfl, rfl⟩), b3, hown, T3⟩
          case measure => simp [intOf]
        · go_wp2
          go_ret
          exact ⟨g, cp, rfl, hb, HTT.out.forms HT.out ho⟩

end Go.Proofs.Ytjggppnffkcmbaa
