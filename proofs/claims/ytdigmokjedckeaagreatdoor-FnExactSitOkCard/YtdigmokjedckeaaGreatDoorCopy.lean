/-
  A copy of forms, in new memory (spec.l3Copy).
-/
import Derived.Test.YtdigmokjedckeaaGreatDoorWays
import Derived.Test.YtdigmokjedckeaaGreatDoorKeyed
import Derived.Deep.DeepCutAuto
namespace Go.Proofs.YtdigmokjedckeaaGreatDoor
open Go.RowKit Go.Deep
set_option linter.unusedVariables false
set_option maxRecDepth 100000

/-- No slice among these lies below B. -/
def Lo (B : Nat) (xs : List Value) : Prop := ∀ (i b o : Nat) (m c : Nat), xs[i]? = some (Value.slice (some ⟨b, o, none⟩) m c) → B ≤ b
theorem Lo.nil (B : Nat) : Lo B [] := fun i b o m c h => by simp at h
theorem Lo.app {B : Nat} {xs : List Value} (h : Lo B xs) {B1 B2 n1 n2 c1 c2 : Nat} {K : Int} (h1 : B ≤ B1) (h2 : B ≤ B2) : Lo B (xs ++ [.slice (some ⟨B1, 0, none⟩) n1 c1, .slice (some ⟨B2, 0, none⟩) n2 c2, .int .i64 K]) := fun i b o m c e => by
  by_cases hi : i < xs.length
  · rw [List.getElem?_append_left hi] at e; exact h i b o m c e
  · rw [List.getElem?_append_right (by omega)] at e
    generalize i - xs.length = j at e
    match j with
    | 0 => simp at e; omega
    | 1 => simp at e; omega
    | 2 => simp at e
    | j + 3 => simp at e
theorem Ints.offC {S : Nat → Prop} {W W' : World} {a : Option Addr} {n : Nat} {zs : List Int} (h : Ints W a n zs) (hb : ∀ b o, a = some ⟨b, o, none⟩ → ¬ S b) (t : Touch S W W') : Ints W' a n zs := by
  refine ⟨h.1, fun i hi => ?_⟩
  obtain ⟨b, off, e, hc⟩ := h.2 i hi
  refine ⟨b, off, e, ?_⟩
  have hl := block_lt hc
  simp only [World.cell?] at hc ⊢
  rw [t.block b hl (hb b off e)]; exact hc
theorem own_off {S : Nat → Prop} {W W' : World} {base : Nat} {e : TypeId} {s : Nat} {v : Value} {n : Nat} {xs : List Value} (h : W.ownsRow base e s v n xs) (hn : ∀ g, v.ownBlock = some g → ¬ S g) (t : Touch S W W') : W'.ownsRow base e s v n xs := by
  refine ⟨h.1, ?_⟩
  rcases h.2 with h2 | ⟨g, cap, cur, hv, hg, hh, r⟩
  · exact Or.inl h2
  · refine Or.inr ⟨g, cap, cur, hv, hg, ?_, r⟩
    rw [t.block g (lt_of_block hh) (hn g (by rw [hv]; rfl))]; exact hh
theorem TermsOk.off {S : Nat → Prop} {W W' : World} {G : Nat} {xs : List Value} {fs : List Frm} {n : Nat} (h : TermsOk W G xs fs n) {B : Nat} (hl : Lo B xs) (hS : ∀ k, S k → k < B) (t : Touch S W W') : TermsOk W' G xs fs n := fun i hi => by
  obtain ⟨a', c', ca, cc, e0, e1, e2, i1, i2, n1, n2⟩ := h i hi
  refine ⟨a', c', ca, cc, e0, e1, e2, i1.offC (fun b o e hs => ?_) t, i2.offC (fun b o e hs => ?_) t, n1, n2⟩
  · rw [e] at e0
    have := hl _ _ _ _ _ e0
    have := hS _ hs
    omega
  · rw [e] at e1
    have := hl _ _ _ _ _ e1
    have := hS _ hs
    omega

/-- A slice of the first n forms, in memory made since w. -/
structure JF (w : World) (G cap n : Nat) (xs : List Value) (fs : List Frm) (W : World) : Prop where
  b : Below w.heap.size w W
  o : W.ownsRow w.heap.size 98 3 (.slice (some ⟨G, 0, none⟩) n cap) n xs
  t : TermsOk W G xs fs n
  l : Lo w.heap.size xs
theorem JF.below {w W W' : World} {G cap n : Nat} {xs : List Value} {fs : List Frm} (j : JF w G cap n xs fs W) (h : Below W.heap.size W W') : JF w G cap n xs fs W' := ⟨j.b.trans (h.mono j.b.size), own_below j.o h, j.t.below h, j.l⟩
theorem JF.at {w W : World} {G cap n : Nat} {xs : List Value} {fs : List Frm} (j : JF w G cap n xs fs W) (hn : fs.length = n) : FormsAt W (some ⟨G, 0, none⟩) fs := j.t.forms hn j.o
theorem JF.lt {w W : World} {G cap n : Nat} {xs : List Value} {fs : List Frm} (j : JF w G cap n xs fs W) : w.heap.size ≤ G ∧ G < W.heap.size := by
  rcases j.o.2 with ⟨h, _⟩ | ⟨g, cap', cur, h, hg, hh, _⟩
  · cases h
  · simp only [Value.slice.injEq, Option.some.injEq, Addr.mk.injEq, and_true, true_and] at h
    obtain ⟨rfl, _⟩ := h
    exact ⟨hg, lt_of_block hh⟩
/-- Whatever becomes of elder memory, the forms read as they did. -/
theorem JF.off {w W W' : World} {G cap n : Nat} {xs : List Value} {fs : List Frm} (j : JF w G cap n xs fs W) (hn : fs.length = n) {S : Nat → Prop} (hS : ∀ k, S k → k < w.heap.size) (t : Touch S W W') : FormsAt W' (some ⟨G, 0, none⟩) fs := by
  have hG := j.lt
  have o' := own_off j.o (fun g hg hs => by
    have : some G = some g := hg
    simp only [Option.some.injEq] at this
    have := hS _ hs
    omega) t
  exact (j.t.off j.l hS t).forms hn o'
theorem lin3_one {xs : List Int} (h : xs.length = 3) : lin [0, 0, 0] xs 1 = xs := by
  match xs, h with
  | [x, y, z], _ => simp [lin]
theorem lin2_one {xs : List Int} (h : xs.length = 2) : lin [0, 0] xs 1 = xs := by
  match xs, h with
  | [x, y], _ => simp [lin]

set_option maxHeartbeats 6400000 in
theorem scopy_any (ad : Option Addr) (N cap : Nat) (fs : List Frm) (w : World) (hN : fs.length = N) (hF : FormsAt w ad fs) (hfit : ∀ k, k < N → fitX 10000000 (fs[k]?.getD ([], [], 0))) (hN1 : N ≤ 1048576) :
    Calls Tryz.prog 123 #[.slice ad N cap] w fun e w' => ∃ G cp xs, e = .returned (.slice (some ⟨G, 0, none⟩) N cp) ∧ JF w G cp N xs fs w' := by
  have HN : Hid (fs.length = N) := hN
  have HFT : Hid _ := hfit
  have HF : Hid (FormsAt w ad fs) := hF
  clear hN hfit hF
  obtain ⟨i0, hi, hz0, hz1, hz2⟩ := info_parts Tryz.infoForm
  have j0 : JF w w.heap.size 0 0 [] fs (w.alloc (.cells #[] 98)) :=
    ⟨(Below.refl _ _).alloc (Nat.le_refl _) _, World.ownsRow_lit w #[] 0 (Nat.le_refl _) (by unfold maxLen; omega) rfl, fun j hj => by omega, Lo.nil _⟩
  go_enter Tryz.func123, Tryz.ntmps123
  go_wp2_with fail
  go_loopw [3, 4] (fun r i wr => ∃ (k G cp : Nat) (xs : List Value), k ≤ N ∧ i = .int .i64 k ∧ r = .slice (some ⟨G, 0, none⟩) k cp ∧ JF w G cp k xs fs wr) (fun _ i _ => N - (intOf i).toNat)
  case atStart => exact ⟨0, _, _, _, Nat.zero_le _, rfl, rfl, j0⟩
  case round =>
    clear j0
    obtain ⟨k, G, cp, xs, hk, rfl, rfl, j⟩ := hrel
    by_cases hlt : k < N
    · obtain ⟨b, off, rfl, a', c', ca, cc, c0, c1, c2, iC, iD⟩ := HF.out k (by rw [HN.out]; exact hlt)
      have hfit := HFT.out k hlt
      have HK : Hid (fs[k]?.getD ([], [], 0) = fs[k]?.getD ([], [], 0)) := rfl
      generalize HG : fs[k]?.getD ([], [], 0) = f at *
      have HT : Hid (fs[k]?.getD ([], [], 0) = f) := HG
      clear HG HK
      obtain ⟨fC, fD, fK⟩ := f
      obtain ⟨lC, lD, bC, bD, k1, k2⟩ := hfit
      simp only at c2 iC iD lC lD bC bD k1 k2
      have keep : ∀ W : World, Below w.heap.size w W → (W.cell? ⟨b, off + k * 3, none⟩ = some (.slice a' 3 ca) ∧ W.cell? ⟨b, off + k * 3 + 1, none⟩ = some (.slice c' 2 cc) ∧ W.cell? ⟨b, off + k * 3 + 2, none⟩ = some (.int .i64 fK)) := fun W hW =>
        ⟨by rw [hW.cell (p := ⟨b, off + k * 3, none⟩) (block_lt c0)]; exact c0, by rw [hW.cell (p := ⟨b, off + k * 3 + 1, none⟩) (block_lt c1)]; exact c1, by rw [hW.cell (p := ⟨b, off + k * 3 + 2, none⟩) (block_lt c2)]; exact c2⟩
      have KP : Hid _ := keep
      clear keep
      have hSS := And.intro (KP.out _ j.b.drew) (True.intro)
      clear c0 c1 c2
      have hlt' : (k : Int) < N := by omega
      go_upto_region 5 with fail
      refine wp_region_ends (fun w' => w'.cell? ⟨b, off + k * 3, none⟩ = some (.slice a' 3 ca) ∧ w'.cell? ⟨b, off + k * 3 + 1, none⟩ = some (.slice c' 2 cc) ∧ w'.cell? ⟨b, off + k * 3 + 2, none⟩ = some (.int .i64 fK)) (fun _ => True) 9 (by kernel_rfl) ?_
      refine wpAnyE_take0 (i := 0) (v := ?v0) rfl (by kernel_rfl) (by kernel_rfl) (by kernel_rfl) (by decide) (fun _ _ _ h => h) (Or.inl ⟨by rfl, ?hy0⟩) hSS ?_
      case hy0 => (intro wz hSw; (try dsimp only at hSw); go_simp; try (with_reducible rfl))
      refine wpAnyE_take0 (i := 2) (v := ?v2) rfl (by kernel_rfl) (by kernel_rfl) (by kernel_rfl) (by decide) (fun _ _ _ h => h) (Or.inl ⟨by rfl, ?hy2⟩) hSS ?_
      case hy2 => (intro wz hSw; (try dsimp only at hSw); go_simp; try (with_reducible rfl))
      refine wpAnyE_take0 (i := 3) (v := ?v3) rfl (by kernel_rfl) (by kernel_rfl) (by kernel_rfl) (by decide) (fun _ _ _ h => h) (Or.inl ⟨by rfl, ?hy3⟩) hSS ?_
      case hy3 => (intro wz hSw; (try dsimp only at hSw); go_simp; try (with_reducible rfl))
      refine wpAnyE_take0 (i := 4) (v := ?v4) rfl (by kernel_rfl) (by kernel_rfl) (by kernel_rfl) (by decide) (fun _ _ _ h => h) (Or.inl ⟨by rfl, ?hy4⟩) hSS ?_
      case hy4 => (intro wz hSw; (try dsimp only at hSw); go_simp; try (with_reducible rfl))
      refine wpAnyE_take0 (i := 5) (v := ?v5) rfl (by kernel_rfl) (by kernel_rfl) (by kernel_rfl) (by decide) (fun _ _ _ h => h) (Or.inl ⟨by rfl, ?hy5⟩) hSS ?_
      case hy5 => (intro wz hSw; (try dsimp only at hSw); go_simp; try (with_reducible rfl))
      refine wpAnyE_one (i := 1) (by kernel_rfl) rfl (fun K hK => ?_)
      go_simp
      refine (szero_any _).mono ?_
      rintro ee w3 ⟨Z1, Z2, rfl, b3, y1, y2, y3, z1, z2⟩
      have j3 := j.below (below_of_drew b3)
      dsimp only
      refine hK.out _ _ ⟨KP.out _ j3.b, fun _ => trivial⟩ ?_
      clear hK K hSS j
      refine wpAnyE_one (i := 6) (by kernel_rfl) rfl (fun K hK => ?_)
      go_simp
      refine (l1sum_any _ _ _ _ _ [0, 0, 0] [0, 0] _ _ _ _ _ fC fD _ _ (z1.ints' rfl) (z2.ints' rfl) (iC.below j3.b) (iD.below j3.b) bnd_lit3 bnd_lit2 (by omega) (fun i => by have := bC i; omega) (fun i => by have := bD i; omega) (by omega)).mono ?_
      rintro ee w4 ⟨B1, B2, rfl, b4, g1, g2, g3, u1, u2⟩
      rw [lin3_one lC] at u1
      rw [lin2_one lD] at u2
      have e0 : (0 : Int) + 1 * fK = fK := by omega
      rw [e0]
      have j4 := j3.below b4
      have lG := j3.lt
      have hs3 := j3.b.size
      have l1 := u1.lt
      have l2 := u2.lt
      dsimp only
      refine hK.out _ _ ⟨KP.out _ j4.b, fun _ => trivial⟩ ?_
      clear hK K z1 z2 b3 b4 y1 y2 y3
      refine wpAnyE_one (i := 7) (by kernel_rfl) rfl (fun K hK => ?_)
      go_simp
      have A5 : Below w4.heap.size w4 (w4.alloc (.cells #[.slice (some ⟨B1, 0, none⟩) 3 3, .slice (some ⟨B2, 0, none⟩) 2 2, .int .i64 fK] 98)) := (Below.refl _ _).alloc (Nat.le_refl _) _
      have j5 := j4.below A5
      have hs5 := j5.b.size
      have v1 := u1.below A5
      have v2 := u2.below A5
      have s43 := A5.size
      have lG4 := j4.lt
      refine hK.out _ _ ⟨KP.out _ j5.b, fun _ => trivial⟩ ?_
      clear hK K A5 j3 j4
      refine wpAnyE_one (i := 8) (by kernel_rfl) rfl (fun K hK => ?_)
      rw [if_pos (by rfl)]
      refine wp_append_lies _ (.tmp 12) (.tmp 19) 104 rfl w.heap.size 98 i0 _ 3 56 Tryz.underlying104 hi hz0 hz1 hz2 rfl (by omega) (.slice (some ⟨G, 0, none⟩) k cp) k xs (by rfl) j5.o ⟨w4.heap.size, 0, none⟩ 1 1 [Value.slice (some ⟨B1, 0, none⟩) 3 3, Value.slice (some ⟨B2, 0, none⟩) 2 2, Value.int .i64 fK] (by rfl) (by rfl) (World.news_of_block (cs := #[Value.slice (some ⟨B1, 0, none⟩) 3 3, Value.slice (some ⟨B2, 0, none⟩) 2 2, Value.int .i64 fK]) (t := 98) (fr := (0, 0)) (heap_alloc_new w4 _)) (by simp [Value.oneCell']) (by omega) (by unfold maxLen; omega) (by omega) hs5 (w4.heap.size + 1) (by rw [World.size_alloc]) ?_
      intro g cp2 w6 hown hgrow hat hlt6
      have j6 : JF w g cp2 (k + 1) (xs ++ [Value.slice (some ⟨B1, 0, none⟩) 3 3, Value.slice (some ⟨B2, 0, none⟩) 2 2, Value.int .i64 fK]) fs w6 := by
        refine ⟨j5.b.grown hgrow hs5 (fun z hz => ?_), hown, j5.t.step j5.o.1 hgrow ?_ (v1.ints' lC) (v2.ints' lD) (by omega) (by omega) HT.out, j5.l.app (by omega) (by omega)⟩
        · have : some G = some z := hz
          simp only [Option.some.injEq] at this
          omega
        · rcases hat with h | h
          · have : some G = some g := h
            simp only [Option.some.injEq] at this
            exact Or.inl this.symm
          · exact Or.inr (by rw [World.size_alloc]; omega)
      refine hK.out _ _ ⟨KP.out _ j6.b, fun _ => trivial⟩ ?_
      clear hK K hown hgrow hat j5 v1 v2 u1 u2
      refine wpAnyE_one (i := 9) (by kernel_rfl) rfl (fun K hK => ?_)
      go_simp
      refine hK.out _ _ ⟨KP.out _ j6.b, fun _ => trivial⟩ ?_
      clear hK K
      refine wpAnyE_done (by kernel_rfl) ?_ _
      go_wp2
      go_roundw
      case rel => exact ⟨k + 1, g, cp2, _, by omega, by go_num, rfl, j6⟩
      case measure => simp [intOf]; omega
    · obtain rfl : k = N := by omega
      go_wp2
      go_ret
      exact ⟨G, cp, xs, rfl, j⟩

end Go.Proofs.YtdigmokjedckeaaGreatDoor
