/-
  Texts that the claim's last one rests on, behind one another: IntoI, IntoL, Open, OpenF, Lines, OpenS, Line, LineS.
-/
import Derived.Test.YtacjjhfbnbmnlaaGreatDoorPackB
import Derived.Test.YtacjjhfbnbmnlaaGreatDoorPackA
import Derived.Lib.SmallJoins
import Derived.Deep.Slices
import Derived.Deep.AppendLies
namespace Go.Proofs.YtacjjhfbnbmnlaaGreatDoor
open Go.RowKit
set_option linter.unusedVariables false
set_option maxRecDepth 100000

theorem own_below {W W' : World} {base : Nat} {e : TypeId} {s : Nat} {v : Value} {n : Nat} {xs : List Value} (h : W.ownsRow base e s v n xs) (b : Below W.heap.size W W') : W'.ownsRow base e s v n xs := by
  refine ⟨h.1, ?_⟩
  rcases h.2 with h0 | ⟨g, cap, cur, hv, hb, hg, hr⟩
  · exact .inl h0
  · exact .inr ⟨g, cap, cur, hv, hb, by rw [b.block g (lt_of_block hg)]; exact hg, hr⟩
theorem own_cell {W : World} {base g cap n s : Nat} {e : TypeId} {xs : List Value} (h : W.ownsRow base e s (.slice (some ⟨g, 0, none⟩) n cap) n xs) (j : Nat) (hj : j < n * s) : W.cell? ⟨g, j, none⟩ = xs[j]? := by
  rcases h.2 with ⟨h', _⟩ | ⟨g', cap', cur, h', _, hg, _, _, hcs, htake⟩
  · simp at h'
  · simp only [Value.slice.injEq, Option.some.injEq, Addr.mk.injEq, and_true, true_and] at h'
    obtain ⟨rfl, rfl⟩ := h'
    have e : cur[j]? = xs[j]? := by
      rw [← htake, List.getElem?_take_of_lt hj]
      simp
    simp only [World.cell?, hg]
    exact e
theorem Ints.grown {W W' : World} {a : Option Addr} {n G : Nat} {zs : List Int} (h : Ints W a n zs) (hg : W.grownBy W' (some G)) (hx : ∀ b o, a = some ⟨b, o, none⟩ → b ≠ G) : Ints W' a n zs := by
  refine ⟨h.1, fun j hj => ?_⟩
  obtain ⟨b, off, hab, hc⟩ := h.2 j hj
  refine ⟨b, off, hab, ?_⟩
  rw [hg.cell_far ⟨b, off + j, none⟩ (block_lt hc) (by simpa using hx b off hab)]
  exact hc
theorem Ints.blt {W : World} {a : Option Addr} {n : Nat} {zs : List Int} (h : Ints W a n zs) (hn : 0 < n) (b o : Nat) (e : a = some ⟨b, o, none⟩) : b < W.heap.size := by
  obtain ⟨b', o', e', hc⟩ := h.2 0 hn
  rw [e] at e'
  simp only [Option.some.injEq, Addr.mk.injEq, and_true] at e'
  rw [e'.1]
  exact block_lt hc

/-- The first so many terms, in a row of cells. -/
def TermsOk (W : World) (G : Nat) (xs : List Value) (T : List Frm) (n : Nat) : Prop :=
  ∀ j, j < n → ∃ a' c' ca cc, xs[j * 3]? = some (.slice a' 3 ca) ∧ xs[j * 3 + 1]? = some (.slice c' 2 cc) ∧ xs[j * 3 + 2]? = some (.int .i64 (T[j]?.getD ([], [], 0)).2.2) ∧ Ints W a' 3 (T[j]?.getD ([], [], 0)).1 ∧ Ints W c' 2 (T[j]?.getD ([], [], 0)).2.1 ∧ (∀ b o, a' = some ⟨b, o, none⟩ → b ≠ G) ∧ (∀ b o, c' = some ⟨b, o, none⟩ → b ≠ G)
theorem TermsOk.below {W W' : World} {G : Nat} {xs : List Value} {T : List Frm} {n : Nat} (h : TermsOk W G xs T n) (b : Below W.heap.size W W') : TermsOk W' G xs T n := fun j hj => by
  obtain ⟨a', c', ca, cc, e0, e1, e2, i1, i2, n1, n2⟩ := h j hj
  exact ⟨a', c', ca, cc, e0, e1, e2, i1.below b, i2.below b, n1, n2⟩
theorem TermsOk.step {W W' : World} {G g n : Nat} {xs : List Value} {T : List Frm} (h : TermsOk W G xs T n) (hl : xs.length = n * 3) (hg : W.grownBy W' (some G)) (hat : g = G ∨ W.heap.size ≤ g) {B1 B2 ca cc : Nat} {C D : List Int} {K : Int}
    (k1 : Ints W (some ⟨B1, 0, none⟩) 3 C) (k2 : Ints W (some ⟨B2, 0, none⟩) 2 D) (n1 : B1 ≠ G) (n2 : B2 ≠ G) (hT : T[n]?.getD ([], [], 0) = (C, D, K)) :
    TermsOk W' g (xs ++ [.slice (some ⟨B1, 0, none⟩) 3 ca, .slice (some ⟨B2, 0, none⟩) 2 cc, .int .i64 K]) T (n + 1) := fun j hj => by
  have l1 := k1.blt (by omega) B1 0 rfl
  have l2 := k2.blt (by omega) B2 0 rfl
  by_cases hjn : j < n
  · obtain ⟨a', c', ca, cc, e0, e1, e2, i1, i2, m1, m2⟩ := h j hjn
    refine ⟨a', c', ca, cc, ?_, ?_, ?_, i1.grown hg m1, i2.grown hg m2, fun b o e => ?_, fun b o e => ?_⟩
    · rw [List.getElem?_append_left (by omega)]; exact e0
    · rw [List.getElem?_append_left (by omega)]; exact e1
    · rw [List.getElem?_append_left (by omega)]; exact e2
    · have := m1 b o e
      have := i1.blt (by omega) b o e
      omega
    · have := m2 b o e
      have := i2.blt (by omega) b o e
      omega
  · obtain rfl : j = n := by omega
    rw [hT]
    refine ⟨some ⟨B1, 0, none⟩, some ⟨B2, 0, none⟩, ca, cc, ?_, ?_, ?_, k1.grown hg (fun b o e => ?_), k2.grown hg (fun b o e => ?_), fun b o e => ?_, fun b o e => ?_⟩
    · rw [List.getElem?_append_right (by omega), hl]; simp
    · rw [List.getElem?_append_right (by omega), hl, Nat.add_sub_cancel_left]; rfl
    · rw [List.getElem?_append_right (by omega), hl, Nat.add_sub_cancel_left]; rfl
    all_goals
      simp only [Option.some.injEq, Addr.mk.injEq, and_true] at e
      omega
theorem TermsOk.forms {W : World} {base G cap : Nat} {xs : List Value} {T : List Frm} {n : Nat} (h : TermsOk W G xs T n) (hT : T.length = n) (ho : W.ownsRow base 127 3 (.slice (some ⟨G, 0, none⟩) n cap) n xs) : FormsAt W (some ⟨G, 0, none⟩) T := fun i hi => by
  obtain ⟨a', c', ca, cc, e0, e1, e2, i1, i2, _, _⟩ := h i (by omega)
  refine ⟨G, 0, rfl, a', c', ca, cc, ?_, ?_, ?_, i1, i2⟩
  · rw [own_cell ho _ (by omega), Nat.zero_add]; exact e0
  · rw [own_cell ho _ (by omega), Nat.zero_add]; exact e1
  · rw [own_cell ho _ (by omega), Nat.zero_add]; exact e2

theorem terms_at {C D : List Int} {K : Int} {fs : List FV} {k : Nat} (h : k < 3) : (terms C D K fs)[k + 1]?.getD ([], [], 0) = (mulL (C[k]?.getD 0) (fs[k]?.getD noFV).C, mulL (C[k]?.getD 0) (fs[k]?.getD noFV).D, C[k]?.getD 0 * (fs[k]?.getD noFV).K) := by
  match k, h with
  | 0, _ => rfl
  | 1, _ => rfl
  | 2, _ => rfl
theorem mulL_bnd {n P : Int} {zs : List Int} (h : bndT P n zs) (h0 : 0 ≤ P) : bnd P (mulL n zs) := fun i => by
  by_cases hi : i < zs.length
  · rw [mulL_get hi]; exact h i
  · have : (mulL n zs)[i]? = none := List.getElem?_eq_none (by rw [mulL_len]; omega)
    rw [this]
    simp only [Option.getD_none]
    omega
theorem terms_fit {C D : List Int} {K : Int} {fs : List FV} (hD : D.length = 2) (bC : bnd 10000000 C) (bD : bnd 10000000 D) (k1 : -10000000 ≤ K) (k2 : K ≤ 10000000) (ho : ∀ i, i < 3 → OkF (fs[i]?.getD noFV)) : ∀ i, i < (terms C D K fs).length → fits 100000000000000 ((terms C D K fs)[i]?.getD ([], [], 0)) := fun i hi => by
  have hl : (terms C D K fs).length = 4 := rfl
  match i, hi with
  | 0, _ => exact ⟨rfl, hD, fun i => by have := bnd_zeros 3 i; simp only [List.replicate] at this; show -100000000000000 ≤ ([0, 0, 0] : List Int)[i]?.getD 0 ∧ ([0, 0, 0] : List Int)[i]?.getD 0 ≤ 100000000000000; omega, fun i => by have := bD i; show -100000000000000 ≤ D[i]?.getD 0 ∧ D[i]?.getD 0 ≤ 100000000000000; omega, by show -100000000000000 ≤ K; omega, by show K ≤ 100000000000000; omega⟩
  | j + 1, hj =>
    have hj' : j < 3 := by omega
    rw [terms_at hj']
    have g := ho j hj'
    have bc := bC j
    have tK := mul_bnd bc.1 bc.2 g.k1 g.k2
    exact ⟨by simp only [mulL_len]; exact g.lC, by simp only [mulL_len]; exact g.lD, mulL_bnd (mulT_bnd g.bC bc.1 bc.2) (by omega), mulL_bnd (mulT_bnd g.bD bc.1 bc.2) (by omega), tK.1, tK.2⟩

set_option maxHeartbeats 1600000 in
theorem iinto_no (a : Option Addr) (n cap : Nat) (c : Option Addr) (m cap' : Nat) (K : Int) (C D : List Int) (ad : Option Addr) (N capN : Nat) (fs : List FV) (w : World) (hC : Ints w a n C) (hD : Ints w c m D) (hn : n ≤ 1048576) (hm : m ≤ 1048576)
    (hN : fs.length = N) (hF : FormsG w ad fs) (hN1 : N ≤ 1048576) (hno : (formB n m C D K && decide (N = 3) && fs.all FV.ok) = false) :
    Calls Tryz.prog 214 #[formV a n cap c m cap' K, .slice ad N capN] w fun e w' => Res w w' e [] [] 0 := by
  have n0 := IH.new (w := w) (a := a) (n := n) (cap := cap) (c := c) (m := m) (cap' := cap') (K := K)
  by_cases h2 : (N : Int) = 3
  · have h2' : ((N : Int) != 3) = false := by simpa using h2
    have hN3 : N = 3 := by omega
    have HN3 : Hid (N = 3) := hN3
    clear h2 hN3
    cases h1 : formB n m C D K
    · clear hno
      go_enter Tryz.func214, Tryz.ntmps214
      go_wp2_with fail
      refine (iok_any _ _ _ _ _ _ _ C D _ (hC.below n0.b) (hD.below n0.b) hn hm).mono ?_
      rintro e w1 ⟨rfl, b1⟩
      have H := n0.below b1
      obtain ⟨r0, r1, r2, r3, r4, r5⟩ := H.room
      go_wp2
      exact bodyPost_ret (v := formV none 0 0 none 0 0 0) (by simp [results, Tryz.results214, go_sem, r0, r1, r2]) rfl H.none
    · have hno' : fs.all FV.ok = false := by simpa [h1, HN3.out] using hno
      clear hno
      go_enter Tryz.func214, Tryz.ntmps214
      go_wp2_with fail
      refine (iok_any _ _ _ _ _ _ _ C D _ (hC.below n0.b) (hD.below n0.b) hn hm).mono ?_
      rintro e w1 ⟨rfl, b1⟩
      have H1 := n0.below b1
      go_wp2_with fail
      refine (allForms_any _ _ _ fs _ hN (hF.below H1.b) hN1).mono ?_
      rintro e w2 ⟨rfl, b2⟩
      rw [hno']
      have H := H1.below b2
      obtain ⟨r0, r1, r2, r3, r4, r5⟩ := H.room
      go_wp2
      exact bodyPost_ret (v := formV none 0 0 none 0 0 0) (by simp [results, Tryz.results214, go_sem, r0, r1, r2]) rfl H.none
  · clear hno
    have h2' : ((N : Int) != 3) = true := by simpa using h2
    obtain ⟨r0, r1, r2, r3, r4, r5⟩ := n0.room
    go_enter Tryz.func214, Tryz.ntmps214
    go_wp2
    exact bodyPost_ret (v := formV none 0 0 none 0 0 0) (by simp [results, Tryz.results214, go_sem, r0, r1, r2]) rfl (Res.none rfl n0.b)

set_option maxHeartbeats 3200000 in
theorem iinto_yes (a : Option Addr) (cap : Nat) (c : Option Addr) (cap' : Nat) (K : Int) (C D : List Int) (b off capN : Nat) (fs : List FV) (w : World) (hC : Ints w a 3 C) (hD : Ints w c 2 D)
    (hN : fs.length = 3) (hF : FormsG w (some ⟨b, off, none⟩) fs) (h1 : formB 3 2 C D K = true) (hall : fs.all FV.ok = true) :
    Calls Tryz.prog 214 #[formV a 3 cap c 2 cap' K, .slice (some ⟨b, off, none⟩) 3 capN] w fun e w' => Res w w' e (keepL (formB 3 2 (intoC C fs 3) (intoD C D fs 3) (intoK C K fs 3)) (intoC C fs 3)) (keepL (formB 3 2 (intoC C fs 3) (intoD C D fs 3) (intoK C K fs 3)) (intoD C D fs 3)) (keepK (formB 3 2 (intoC C fs 3) (intoD C D fs 3) (intoK C K fs 3)) (intoK C K fs 3)) := by
  have n0 := IH.new (w := w) (a := a) (n := 3) (cap := cap) (c := c) (m := 2) (cap' := cap') (K := K)
  obtain ⟨-, -, bC, bD, bK1, bK2⟩ := formB_elim h1
  have hg : ∀ i, i < 3 → ∃ x : FV, x = fs[i]?.getD noFV ∧ OkF x ∧ x.ok = true ∧ x.At w ∧ w.cell? ⟨b, off + i * 3, none⟩ = some (.slice x.a x.n x.cap) ∧ w.cell? ⟨b, off + i * 3 + 1, none⟩ = some (.slice x.c x.m x.cap') ∧ w.cell? ⟨b, off + i * 3 + 2, none⟩ = some (.int .i64 x.K) := fun i hi => by
    obtain ⟨b', off', hb', q0, q1, q2, A1⟩ := hF i (by omega)
    simp only [Option.some.injEq, Addr.mk.injEq, and_true] at hb'
    obtain ⟨rfl, rfl⟩ := hb'
    have ok : (fs[i]?.getD noFV).ok = true := by
      rw [List.all_eq_true] at hall
      rw [List.getElem?_eq_getElem (by omega)]
      exact hall _ (List.getElem_mem _)
    exact ⟨_, rfl, OkF.of A1 ok, ok, A1, q0, q1, q2⟩
  have ho : ∀ i, i < 3 → OkF (fs[i]?.getD noFV) := fun i hi => by
    obtain ⟨x, rfl, h, _⟩ := hg i hi; exact h
  have HI : Hid _ := IntoF.of hD.1 bC bD bK1 bK2 ho 3 (by omega)
  have HT : Hid _ := terms_fit (K := K) hD.1 bC bD bK1 bK2 ho
  have HS : Hid _ := terms_sum (C := C) (K := K) (fs := fs) hD.1
  have HG : Hid _ := hg
  obtain ⟨lb0, _⟩ : b < w.heap.size ∧ True := by
    obtain ⟨x, rfl, _, _, _, q0, _⟩ := hg 0 (by omega)
    exact ⟨block_lt q0, trivial⟩
  clear hg ho
  obtain ⟨cb, co, rfl, hDc⟩ := hD.pos (by omega)
  obtain ⟨ab, ao, rfl, hCc⟩ := hC.pos (by omega)
  have lcb := hD.blt (by omega) cb co rfl
  have lab0 := hC.blt (by omega) ab ao rfl
  clear hDc hCc
  obtain ⟨i0, hi, hz0, hz1, hz2⟩ := info_parts Tryz.infoForm
  go_enter Tryz.func214, Tryz.ntmps214
  go_wp2_with fail
  refine (iok_any _ _ _ _ _ _ _ C D _ (hC.below n0.b) (hD.below n0.b) (by omega) (by omega)).mono ?_
  rintro e w1 ⟨rfl, b1⟩
  have H1 := n0.below b1
  clear n0 b1
  go_wp2_with fail
  refine (allForms_any _ _ _ fs _ hN (hF.below H1.b) (by omega)).mono ?_
  rintro e w2 ⟨rfl, b2⟩
  rw [hall]
  have H2 := H1.below b2
  have G2 := H2.cells
  clear H1 b2 hall hF hN
  go_wp2_with fail
  refine (without_any _ _ _ _ _ _ _ _).mono ?_
  rintro e w3 ⟨P, rfl, b3, hP, kP⟩
  have H3 := H2.below b3
  have A2 := H2.b.size
  have A3 := b3.size
  have A4 := H3.r.lt
  clear G2
  have HT0 : TermsOk (w3.alloc (Obj.cells #[Value.slice (some ⟨P, 0, none⟩) 3 3, Value.slice (some ⟨cb, co, none⟩) 2 cap', Value.int .i64 K] 127)) w3.heap.size [Value.slice (some ⟨P, 0, none⟩) 3 3, Value.slice (some ⟨cb, co, none⟩) 2 cap', Value.int .i64 K] (terms C D K fs) 1 := fun j hj => by
    obtain rfl : j = 0 := by omega
    have lP := kP.lt
    refine ⟨some ⟨P, 0, none⟩, some ⟨cb, co, none⟩, 3, cap', rfl, rfl, rfl, (kP.alloc _).ints' (n := 3) rfl, (hD.below H3.b).alloc _, fun x o e => ?_, fun x o e => ?_⟩
    all_goals
      simp only [Option.some.injEq, Addr.mk.injEq, and_true] at e
      omega
  have HO0 : (w3.alloc (Obj.cells #[Value.slice (some ⟨P, 0, none⟩) 3 3, Value.slice (some ⟨cb, co, none⟩) 2 cap', Value.int .i64 K] 127)).ownsRow (w.heap.size + 2) 127 3 (.slice (some ⟨w3.heap.size, 0, none⟩) 1 1) 1 [Value.slice (some ⟨P, 0, none⟩) 3 3, Value.slice (some ⟨cb, co, none⟩) 2 cap', Value.int .i64 K] :=
    ⟨rfl, .inr ⟨w3.heap.size, 1, _, rfl, by omega, heap_alloc_new w3 _, by omega, by unfold maxLen; omega, rfl, rfl⟩⟩
  have H4 := H3.alloc (Obj.cells #[Value.slice (some ⟨P, 0, none⟩) 3 3, Value.slice (some ⟨cb, co, none⟩) 2 cap', Value.int .i64 K] 127)
  clear H3 b3 kP H2
  go_wp2_with fail
  go_loopw [5, 6, 7, 27] (fun tv _ _ i wr => ∃ k : Nat, k ≤ 3 ∧ i = .int .i64 k ∧ IH w (some ⟨ab, ao, none⟩) 3 cap (some ⟨cb, co, none⟩) 2 cap' K wr ∧ ∃ G cp xs, tv = .slice (some ⟨G, 0, none⟩) (k + 1 : Nat) cp ∧ wr.ownsRow (w.heap.size + 2) 127 3 (.slice (some ⟨G, 0, none⟩) (k + 1) cp) (k + 1) xs ∧ TermsOk wr G xs (terms C D K fs) (k + 1)) (fun _ _ _ i _ => 3 - (intOf i).toNat)
  case atStart => exact ⟨0, by omega, rfl, H4, _, _, _, rfl, HO0, HT0⟩
  case round =>
    clear HT0 HO0 H4 A2 A3 A4 hP
    obtain ⟨k, hk, rfl, HX, G, cp, xs, rfl, hown, hT⟩ := hrel
    by_cases hlt : k < 3
    · obtain ⟨x, hx, okf, -, A, q0, q1, q2⟩ := HG.out k hlt
      obtain ⟨xa, xn, xcap, xc, xm, xcap', xK, xC, xD⟩ := x
      obtain ⟨x1, x2, x3, x4⟩ := A
      obtain ⟨o1, o2, o3, o4, o5, o6, o7, o8⟩ := okf
      simp only at o1 o2 o3 o4 o5 o6 o7 o8 q0 q1 q2 x1 x2
      subst o1 o2
      have HX' : Hid _ := hx
      clear hx x3 x4
      have s0 := (HX.b.cell (p := ⟨b, off + k * 3, none⟩) lb0).trans q0
      have s1 := (HX.b.cell (p := ⟨b, off + k * 3 + 1, none⟩) lb0).trans q1
      have s2 := (HX.b.cell (p := ⟨b, off + k * 3 + 2, none⟩) lb0).trans q2
      have bc := bC k
      have tC := tim_bnd o5 bc.1 bc.2
      have tD := tim_bnd o6 bc.1 bc.2
      have tK := tim_num o7 o8 bc.1 bc.2
      have ET := terms_at (C := C) (D := D) (K := K) (fs := fs) hlt
      rw [← HX'.out] at ET
      have HET : Hid _ := ET
      have hck : wr.cell? ⟨ab, ao + k, none⟩ = some (.int .i64 (C[k]?.getD 0)) := by
        obtain ⟨b', off', he, hc⟩ := (hC.below HX.b).2 k hlt
        simp only [Option.some.injEq, Addr.mk.injEq, and_true] at he
        obtain ⟨rfl, rfl⟩ := he
        simpa using hc
      have GX := HX.cells.1
      have hlt' : (k : Int) < 3 := by omega
      have hlt0 : (0 : Int) ≤ (k : Int) := by omega
      have lG := (hown.lt G rfl).2
      have lG0 := (hown.lt G rfl).1
      have lr := HX.r.lt
      have lab := block_lt hck
      clear ET bc q0 q1 q2
      generalize C[k]?.getD 0 = ck at *
      go_wp2_with fail
      obtain ⟨W1, hW1⟩ : ∃ W1, W1 = wr.alloc (Obj.cells #[Value.slice xa 3 xcap, Value.slice xc 2 xcap', Value.int .i64 xK] 127) := ⟨_, rfl⟩
      have sW1 : W1.heap.size = wr.heap.size + 1 := by rw [hW1, World.size_alloc]
      have BW : Below wr.heap.size wr W1 := by rw [hW1]; exact (Below.refl _ _).alloc (Nat.le_refl _) _
      have cW : Cel W1 wr.heap.size [Value.slice xa 3 xcap, Value.slice xc 2 xcap', Value.int .i64 xK] 127 := by rw [hW1]; exact Cel.new wr _ _
      rw [← hW1]
      clear hW1
      have HX1 := HX.below BW
      have hT1 := hT.below BW
      have hO1 := own_below hown BW
      have GX1 := HX1.cells.1
      have hck1 := (BW.cell (p := ⟨ab, ao + k, none⟩) lab).trans hck
      obtain ⟨e0, e1, e2, -, -, -⟩ := cW.trio
      have hS1 := And.intro e0 (And.intro e1 (And.intro e2 (And.intro GX1 hck1)))
      clear hT hown HX hck GX s0 s1 s2 BW cW
      go_region_held3 (fun w' => w'.cell? ⟨wr.heap.size, 0, none⟩ = some (.slice xa 3 xcap) ∧ w'.cell? ⟨wr.heap.size, 1, none⟩ = some (.slice xc 2 xcap') ∧ w'.cell? ⟨wr.heap.size, 2, none⟩ = some (.int .i64 xK) ∧ w'.cell? ⟨w.heap.size, 0, none⟩ = some (.slice (some ⟨ab, ao, none⟩) 3 cap) ∧ w'.cell? ⟨ab, ao + k, none⟩ = some (.int .i64 ck)) (first | with_reducible assumption | exact hS1 | with_reducible exact hS5a _)
        (first
          | (go_at_call 229
             refine (times_any _ _ _ _ _ xC xD _ _ (by exact x1.below HX1.drew.b) (by exact x2.below HX1.drew.b) tC tD tK).mono ?_
             rintro e w5 ⟨B1, B2, rfl, b5, g1, g2, g3, k1, k2⟩
             have b5' : Below W1.heap.size W1 w5 := below_of_drew b5
             have g1' : W1.heap.size ≤ B1 := g1
             have g3' : W1.heap.size ≤ B2 := g3
             have H5 := HX1.below b5'
             have hT5 := hT1.below b5'
             have hO5 := own_below hO1 b5'
             have z5 := b5'.size
             have c0 := (b5'.cell (p := ⟨wr.heap.size, 0, none⟩) (by show wr.heap.size < W1.heap.size; omega)).trans e0
             have c1 := (b5'.cell (p := ⟨wr.heap.size, 1, none⟩) (by show wr.heap.size < W1.heap.size; omega)).trans e1
             have c2 := (b5'.cell (p := ⟨wr.heap.size, 2, none⟩) (by show wr.heap.size < W1.heap.size; omega)).trans e2
             have c3 := (b5'.cell (p := ⟨w.heap.size, 0, none⟩) (by show w.heap.size < W1.heap.size; omega)).trans GX1
             have c4 := (b5'.cell (p := ⟨ab, ao + k, none⟩) (by show ab < W1.heap.size; omega)).trans hck1
             have hS5 := And.intro c0 (And.intro c1 (And.intro c2 (And.intro c3 c4)))
             have hS5a : ∀ o, (w5.alloc o).cell? ⟨wr.heap.size, 0, none⟩ = some (.slice xa 3 xcap) ∧ (w5.alloc o).cell? ⟨wr.heap.size, 1, none⟩ = some (.slice xc 2 xcap') ∧ (w5.alloc o).cell? ⟨wr.heap.size, 2, none⟩ = some (.int .i64 xK) ∧ (w5.alloc o).cell? ⟨w.heap.size, 0, none⟩ = some (.slice (some ⟨ab, ao, none⟩) 3 cap) ∧ (w5.alloc o).cell? ⟨ab, ao + k, none⟩ = some (.int .i64 ck) := fun o => by
               have ba : Below w5.heap.size w5 (w5.alloc o) := (Below.refl _ _).alloc (Nat.le_refl _) _
               exact ⟨(ba.cell (p := ⟨wr.heap.size, 0, none⟩) (block_lt c0)).trans c0, (ba.cell (p := ⟨wr.heap.size, 1, none⟩) (block_lt c0)).trans c1, (ba.cell (p := ⟨wr.heap.size, 2, none⟩) (block_lt c0)).trans c2, (ba.cell (p := ⟨w.heap.size, 0, none⟩) (block_lt c3)).trans c3, (ba.cell (p := ⟨ab, ao + k, none⟩) (block_lt c4)).trans c4⟩)
          | (refine step_append_lies _ (by rfl) _ _ _ (by rfl) (w.heap.size + 2) 127 i0 _ 3 56 Tryz.underlying133 hi hz0 hz1 hz2 rfl (by omega) (.slice (some ⟨G, 0, none⟩) (k + 1) cp) (k + 1) xs (by rfl) (hO5.alloc _) ⟨w5.heap.size, 0, none⟩ 1 1 [Value.slice (some ⟨B1, 0, none⟩) 3 3, Value.slice (some ⟨B2, 0, none⟩) 2 2, Value.int .i64 (ck * xK)] (by rfl) (by rfl) (World.news_of_block (cs := #[Value.slice (some ⟨B1, 0, none⟩) 3 3, Value.slice (some ⟨B2, 0, none⟩) 2 2, Value.int .i64 (ck * xK)]) (t := 127) (fr := (0, 0)) (heap_alloc_new w5 _)) (by simp [Value.oneCell']) (by omega) (by unfold maxLen; omega) (by omega) (by rw [World.size_alloc]; omega) (w5.heap.size + 1) (by rw [World.size_alloc]) ?_
             intro g cpg w6 hown6 hgrow hat hlt6
             have hgr : (w5.alloc (Obj.cells #[Value.slice (some ⟨B1, 0, none⟩) 3 3, Value.slice (some ⟨B2, 0, none⟩) 2 2, Value.int .i64 (ck * xK)] 127)).grownBy w6 (some G) := hgrow
             have hq := hS5a (Obj.cells #[Value.slice (some ⟨B1, 0, none⟩) 3 3, Value.slice (some ⟨B2, 0, none⟩) 2 2, Value.int .i64 (ck * xK)] 127)
             have hS6 := And.intro ((hgr.cell_far ⟨wr.heap.size, 0, none⟩ (block_lt hq.1) (by simp only [ne_eq, Option.some.injEq]; omega)).trans hq.1) (And.intro ((hgr.cell_far ⟨wr.heap.size, 1, none⟩ (block_lt hq.1) (by simp only [ne_eq, Option.some.injEq]; omega)).trans hq.2.1) (And.intro ((hgr.cell_far ⟨wr.heap.size, 2, none⟩ (block_lt hq.1) (by simp only [ne_eq, Option.some.injEq]; omega)).trans hq.2.2.1) (And.intro ((hgr.cell_far ⟨w.heap.size, 0, none⟩ (block_lt hq.2.2.2.1) (by simp only [ne_eq, Option.some.injEq]; omega)).trans hq.2.2.2.1) ((hgr.cell_far ⟨ab, ao + k, none⟩ (block_lt hq.2.2.2.2) (by simp only [ne_eq, Option.some.injEq]; omega)).trans hq.2.2.2.2))))))
      have hat' : g = G ∨ (w5.alloc (Obj.cells #[Value.slice (some ⟨B1, 0, none⟩) 3 3, Value.slice (some ⟨B2, 0, none⟩) 2 2, Value.int .i64 (ck * xK)] 127)).heap.size ≤ g := by
        rw [World.size_alloc]
        rcases hat with h | h
        · left
          simpa [Value.ownBlock] using h.symm
        · right; omega
      have LC : (mulL ck xC).length = 3 := by rw [mulL_len]; exact o3
      have LD : (mulL ck xD).length = 2 := by rw [mulL_len]; exact o4
      have T6 := (hT5.below ((Below.refl _ _).alloc (Nat.le_refl _) (Obj.cells #[Value.slice (some ⟨B1, 0, none⟩) 3 3, Value.slice (some ⟨B2, 0, none⟩) 2 2, Value.int .i64 (ck * xK)] 127))).step (ca := 3) (cc := 2) (K := ck * xK) hO5.1 hgr hat' ((k1.alloc _).ints' LC) ((k2.alloc _).ints' LD) (by omega) (by omega) HET.out
      have H5a := H5.alloc (Obj.cells #[Value.slice (some ⟨B1, 0, none⟩) 3 3, Value.slice (some ⟨B2, 0, none⟩) 2 2, Value.int .i64 (ck * xK)] 127)
      have H6 : IH w (some ⟨ab, ao, none⟩) 3 cap (some ⟨cb, co, none⟩) 2 cap' K w6 := by
        refine ⟨?_, ?_, H5a.b.grown hgr H5a.b.size (fun x hx => by simp only [Option.some.injEq] at hx; omega)⟩
        · have := hgr.block w.heap.size H5a.p.lt (by simp only [ne_eq, Option.some.injEq]; omega)
          unfold Cel
          rw [this]; exact H5a.p
        · have := hgr.block (w.heap.size + 1) H5a.r.lt (by simp only [ne_eq, Option.some.injEq]; omega)
          unfold Cel
          rw [this]; exact H5a.r
      clear hS6 hS5 hS5a hS1 hgrow hgr hat hat' c0 c1 c2 c3 c4 k1 k2 H5 H5a hT5 hO5 hT1 hO1 HX1 b5 b5' GX1 hck1 e0 e1 e2
      go_wp2
      go_roundw
      case rel => exact ⟨k + 1, by omega, by go_num, H6, g, cpg, _, rfl, hown6, T6⟩
      case measure => simp [intOf]; omega
    · obtain rfl : k = 3 := by omega
      obtain ⟨f1, f2, -, -, -, -⟩ := HI.out
      have fa := hT.forms rfl hown
      have A1 := HX.r.lt
      have A2 := HX.b.size
      go_wp2_with fail
      refine (sum_any _ 4 _ (terms C D K fs) 100000000000000 _ rfl fa HT.out (by omega) (by omega) (by omega)).mono ?_
      rintro e w2 ⟨B1, B2, rfl, b2, g1, g2, g3, k1, k2⟩
      rw [HS.out.1] at k1
      rw [HS.out.2.1] at k2
      rw [HS.out.2.2]
      have H2 := HX.below b2
      clear fa b2
      cases h3 : formB 3 2 (intoC C fs 3) (intoD C D fs 3) (intoK C K fs 3)
      all_goals
        go_wp2_with fail
        first
          | (refine (orN_no _ _ _ _ _ _ _ (intoC C fs 3) (intoD C D fs 3) _ (k1.ints' f1) (k2.ints' f2) (by omega) (by omega) h3).mono ?_)
          | (refine (orN_yes _ _ _ _ _ _ _ (intoC C fs 3) (intoD C D fs 3) _ (k1.ints' f1) (k2.ints' f2) (by omega) (by omega) h3).mono ?_)
        rintro e w3 ⟨rfl, b3⟩
        have H := H2.below b3
        have k1' := k1.below b3
        have k2' := k2.below b3
        obtain ⟨r0, r1, r2, r3, r4, r5⟩ := H.room
        clear H2 k1 k2 b3
        go_wp2
      · refine bodyPost_ret (v := formV none 0 0 none 0 0 0) (by simp [results, Tryz.results214, go_sem, r0, r1, r2]) rfl ?_
        rw [h3]
        exact H.none
      · refine bodyPost_ret (v := formV (some ⟨B1, 0, none⟩) 3 3 (some ⟨B2, 0, none⟩) 2 2 (intoK C K fs 3)) (by simp [results, Tryz.results214, go_sem, r0, r1, r2]) rfl ?_
        rw [h3]
        refine Res.of (B1 := B1) (B2 := B2) rfl f1 f2 ?_ (by omega) g2 (by omega) ?_ ?_
        · exact ((H.b.setCell (by simp only []; omega) _).setCell (by simp only []; omega) _).setCell (by simp only []; omega) _
        · exact ((k1'.setOther (by omega) _ _).setOther (by omega) _ _).setOther (by omega) _ _
        · exact ((k2'.setOther (by omega) _ _).setOther (by omega) _ _).setOther (by omega) _ _

end Go.Proofs.YtacjjhfbnbmnlaaGreatDoor

namespace Go.Proofs.YtacjjhfbnbmnlaaGreatDoor
open Go.RowKit
set_option linter.unusedVariables false
set_option maxRecDepth 100000

theorem sinto_any (a : Option Addr) (n cap : Nat) (c : Option Addr) (m cap' : Nat) (K : Int) (C D : List Int) (ad : Option Addr) (N capN : Nat) (fs : List FV) (w : World) (hC : Ints w a n C) (hD : Ints w c m D) (hn : n ≤ 1048576) (hm : m ≤ 1048576)
    (hN : fs.length = N) (hF : FormsG w ad fs) (hN1 : N ≤ 1048576) :
    Calls Tryz.prog 176 #[formV a n cap c m cap' K, .slice ad N capN] w fun e w' => Res w w' e (keepL (intoOk n m C D K N fs) (intoC C fs 3)) (keepL (intoOk n m C D K N fs) (intoD C D fs 3)) (keepK (intoOk n m C D K N fs) (intoK C K fs 3)) := by
  cases h : (formB n m C D K && decide (N = 3) && fs.all FV.ok)
  · have ho : intoOk n m C D K N fs = false := by unfold intoOk; rw [h]; rfl
    rw [ho]
    exact sinto_no a n cap c m cap' K C D ad N capN fs w hC hD hn hm hN hF hN1 h
  · have ho : intoOk n m C D K N fs = formB 3 2 (intoC C fs 3) (intoD C D fs 3) (intoK C K fs 3) := by unfold intoOk; rw [h, Bool.true_and]
    rw [ho]
    simp only [Bool.and_eq_true, decide_eq_true_eq] at h
    obtain ⟨⟨h1, rfl⟩, h3⟩ := h
    obtain ⟨rfl, rfl, _⟩ := formB_elim h1
    obtain ⟨b, off, rfl, _⟩ := hF 0 (by omega)
    exact sinto_yes a cap c cap' K C D b off capN fs w hC hD hN hF h1 h3
theorem iinto_any (a : Option Addr) (n cap : Nat) (c : Option Addr) (m cap' : Nat) (K : Int) (C D : List Int) (ad : Option Addr) (N capN : Nat) (fs : List FV) (w : World) (hC : Ints w a n C) (hD : Ints w c m D) (hn : n ≤ 1048576) (hm : m ≤ 1048576)
    (hN : fs.length = N) (hF : FormsG w ad fs) (hN1 : N ≤ 1048576) :
    Calls Tryz.prog 214 #[formV a n cap c m cap' K, .slice ad N capN] w fun e w' => Res w w' e (keepL (intoOk n m C D K N fs) (intoC C fs 3)) (keepL (intoOk n m C D K N fs) (intoD C D fs 3)) (keepK (intoOk n m C D K N fs) (intoK C K fs 3)) := by
  cases h : (formB n m C D K && decide (N = 3) && fs.all FV.ok)
  · have ho : intoOk n m C D K N fs = false := by unfold intoOk; rw [h]; rfl
    rw [ho]
    exact iinto_no a n cap c m cap' K C D ad N capN fs w hC hD hn hm hN hF hN1 h
  · have ho : intoOk n m C D K N fs = formB 3 2 (intoC C fs 3) (intoD C D fs 3) (intoK C K fs 3) := by unfold intoOk; rw [h, Bool.true_and]
    rw [ho]
    simp only [Bool.and_eq_true, decide_eq_true_eq] at h
    obtain ⟨⟨h1, rfl⟩, h3⟩ := h
    obtain ⟨rfl, rfl, _⟩ := formB_elim h1
    obtain ⟨b, off, rfl, _⟩ := hF 0 (by omega)
    exact iinto_yes a cap c cap' K C D b off capN fs w hC hD hN hF h1 h3

theorem copies_all {fs gs : List FV} (hl : gs.length = fs.length) (h : copies fs gs) : gs.all FV.ok = fs.all FV.ok := by
  have key : gs.map FV.ok = fs.map FV.ok := by
    refine List.ext_getElem (by simp [hl]) fun i h1 h2 => ?_
    have hi : i < gs.length := by simpa using h1
    have hi' : i < fs.length := by omega
    obtain ⟨e1, e2, e3, e4, e5⟩ := h i hi
    rw [List.getElem?_eq_getElem hi, List.getElem?_eq_getElem hi'] at e1 e2 e3 e4 e5
    simp only [Option.getD_some] at e1 e2 e3 e4 e5
    simp only [List.getElem_map, FV.ok, e1, e2, e3, e4, e5]
  have h1 : gs.all FV.ok = (gs.map FV.ok).all id := by simp [List.all_map]
  have h2 : fs.all FV.ok = (fs.map FV.ok).all id := by simp [List.all_map]
  rw [h1, h2, key]
theorem copies_into {fs gs : List FV} {C D : List Int} {K : Int} (hl : gs.length = 3) (h : copies fs gs) : intoC C gs 3 = intoC C fs 3 ∧ intoD C D gs 3 = intoD C D fs 3 ∧ intoK C K gs 3 = intoK C K fs 3 := by
  obtain ⟨a1, a2, a3, _⟩ := h 0 (by omega)
  obtain ⟨b1, b2, b3, _⟩ := h 1 (by omega)
  obtain ⟨c1, c2, c3, _⟩ := h 2 (by omega)
  exact ⟨by simp only [intoC, a1, b1, c1], by simp only [intoD, a2, b2, c2], by simp only [intoK, a3, b3, c3]⟩
theorem copies_same {n m N : Nat} {C D : List Int} {K : Int} {fs gs : List FV} (hN : fs.length = N) (hl : gs.length = N) (h : copies fs gs) :
    keepL (intoOk n m C D K N gs) (intoC C gs 3) = keepL (intoOk n m C D K N fs) (intoC C fs 3) ∧ keepL (intoOk n m C D K N gs) (intoD C D gs 3) = keepL (intoOk n m C D K N fs) (intoD C D fs 3) ∧ keepK (intoOk n m C D K N gs) (intoK C K gs 3) = keepK (intoOk n m C D K N fs) (intoK C K fs 3) := by
  by_cases h3 : N = 3
  · subst h3
    obtain ⟨e1, e2, e3⟩ := copies_into (C := C) (D := D) (K := K) hl h
    have e4 := copies_all (by omega) h
    simp only [intoOk, e1, e2, e3, e4]
    exact ⟨trivial, trivial, trivial⟩
  · have o1 : intoOk n m C D K N gs = false := by simp [intoOk, h3]
    have o2 : intoOk n m C D K N fs = false := by simp [intoOk, h3]
    rw [o1, o2]
    exact ⟨rfl, rfl, rfl⟩
theorem into_len {n m N : Nat} {C D : List Int} {K : Int} {fs : List FV} (hD : D.length = m) (hm : m ≤ 1048576) : (keepL (intoOk n m C D K N fs) (intoC C fs 3)).length ≤ 1048576 ∧ (keepL (intoOk n m C D K N fs) (intoD C D fs 3)).length ≤ 1048576 := by
  refine ⟨keepL_len ?_, keepL_len ?_⟩
  · simp only [intoC, lin, List.length_zipWith, List.length_cons, List.length_nil]; omega
  · simp only [intoD, lin, List.length_zipWith]; omega

end Go.Proofs.YtacjjhfbnbmnlaaGreatDoor

namespace Go.Proofs.YtacjjhfbnbmnlaaGreatDoor
open Go.ChangeShapes Go.WideShapes Go.ChangeAt Go.RowKit Go.Joins
set_option linter.unusedVariables false
set_option maxRecDepth 100000

theorem open_row {H : Type} {enc : TypeId × Value → H} {W : World} {fuel : Nat} {v : Value} {y : DataW H × List MemPlace}
    (hf : DataW.trod enc Tryz.prog W 0 (fun _ => true) true fuel 23 [v] = some y) : ∃ a n cap zs, v = .slice a n cap ∧ Ints W a n zs ∧ n ≤ maxLen := by
  rcases open_ints Tryz.underlying23 Tryz.underlying3 (by kernel_rfl) hf with ⟨hcs, _⟩ | ⟨x, l, c, zs, hcs, _, hl, hm, hz, _, hcell, hwz⟩
  · simp at hcs
    exact ⟨none, 0, 0, [], hcs, ⟨rfl, fun i hi => by omega⟩, by unfold maxLen; omega⟩
  · simp at hcs
    have hr : IsRow .i64 W (some x) l c zs := .inr ⟨x, rfl, hl, hm, by simpa using hz, hcell, hwz⟩
    exact ⟨some x, l, c, zs.take l, hcs, hr.ints, by omega⟩

theorem open_num {H : Type} {enc : TypeId × Value → H} {W : World} {fuel : Nat} {v : Value} {y : DataW H × List MemPlace}
    (hf : DataW.trod enc Tryz.prog W 0 (fun _ => true) true fuel 3 [v] = some y) : ∃ K : Int, v = .int .i64 K ∧ (Lit.int .i64 K).wf = true := by
  obtain ⟨K, e0, _, wK⟩ := DataW.trod_int Tryz.underlying3 hf
  simp at e0
  exact ⟨K, e0, wK⟩

theorem open_rowT {H : Type} {enc : TypeId × Value → H} {W : World} {r : Reach} {b0 : Nat} {v : Value} {d : DataW H} {p : List MemPlace}
    (hv : Value.okWide Tryz.prog W r b0 23 v) (h : DataW.Trod enc Tryz.prog W 0 (fun _ => true) true 23 v d p) : ∃ a n cap zs, v = .slice a n cap ∧ Ints W a n zs ∧ n ≤ maxLen := by
  obtain ⟨a0, len0, cap0, rfl⟩ := okWide_slice Tryz.underlying23 hv
  obtain ⟨fuel, hf⟩ := h
  exact open_row (by simpa [Value.cells] using hf)

theorem open_numT {H : Type} {enc : TypeId × Value → H} {W : World} {r : Reach} {b0 : Nat} {v : Value} {d : DataW H} {p : List MemPlace}
    (h : DataW.Trod enc Tryz.prog W 0 (fun _ => true) true 3 v d p) (hv : Value.okWide Tryz.prog W r b0 3 v) : ∃ K : Int, v = .int .i64 K ∧ (Lit.int .i64 K).wf = true := by
  obtain ⟨K, rfl, rfl, rfl, wK⟩ := open_int Tryz.underlying3 hv h
  exact ⟨K, rfl, wK⟩

theorem open_form {H : Type} {enc : TypeId × Value → H} {W : World} {r : Reach} {b0 : Nat} {v : Value} {d : DataW H} {p : List MemPlace}
    (hv : Value.okWide Tryz.prog W r b0 182 v) (h : DataW.Trod enc Tryz.prog W 0 (fun _ => true) true 182 v d p) :
    ∃ a n cap c m cap' K C D, v = formV a n cap c m cap' K ∧ Ints W a n C ∧ Ints W c m D ∧ n ≤ maxLen ∧ m ≤ maxLen ∧ (Lit.int .i64 K).wf = true := by
  obtain ⟨v0, v1, v2, y0, y1, y2, k, rfl, -, -, h0, h1, h2⟩ := open_agg3 Tryz.underlying182 (by kernel_rfl) (by kernel_rfl) hv h
  obtain ⟨a, n, cap, C, rfl, hC, hn⟩ := open_row h0
  obtain ⟨c, m, cap', D, rfl, hD, hm⟩ := open_row h1
  obtain ⟨K, rfl, wK⟩ := open_num h2
  exact ⟨a, n, cap, c, m, cap', K, C, D, rfl, hC, hD, hn, hm, wK⟩

end Go.Proofs.YtacjjhfbnbmnlaaGreatDoor

namespace Go.Proofs.YtacjjhfbnbmnlaaGreatDoor
open Go.ChangeShapes Go.WideShapes Go.ChangeAt Go.RowKit Go.Joins Go.Deep
set_option linter.unusedVariables false
set_option maxRecDepth 100000

theorem open_cells3 {H : Type} {enc : TypeId × Value → H} {W : World} {fuel : Nat} {t : TypeId} {f0 f1 f2 : Field} {cs : List Value} {x : DataW H × List MemPlace} (hs : Tryz.prog.underlying t = some (.struct #[f0, f1, f2])) (hone : oneCellFields Tryz.prog #[f0, f1, f2] = true) (hC : Tryz.prog.cellsOf t = 3)
    (hf : DataW.trod enc Tryz.prog W 0 (fun _ => true) true fuel t cs = some x) :
    ∃ v0 v1 v2 y0 y1 y2 n, cs = [v0, v1, v2] ∧ DataW.trod enc Tryz.prog W 0 (fun _ => true) true n f0.type [v0] = some y0 ∧ DataW.trod enc Tryz.prog W 0 (fun _ => true) true n f1.type [v1] = some y1 ∧ DataW.trod enc Tryz.prog W 0 (fun _ => true) true n f2.type [v2] = some y2 := by
  obtain ⟨y0, y1, y2, n, _, hl, h0, h1, h2⟩ := trod_struct3 hs hf
  obtain ⟨o0, k0⟩ := hone_of hone 0 f0 rfl
  obtain ⟨o1, k1⟩ := hone_of hone 1 f1 rfl
  obtain ⟨o2, k2⟩ := hone_of hone 2 f2 rfl
  have hl' : cs.length = 3 := hl.trans hC
  match cs, hl' with
  | [c0, c1, c2], _ => exact ⟨c0, c1, c2, y0, y1, y2, n, rfl, by simpa [o0, k0] using h0, by simpa [o1, k1] using h1, by simpa [o2, k2] using h2⟩

theorem open_formC {H : Type} {enc : TypeId × Value → H} {W : World} {fuel : Nat} {cs : List Value} {x : DataW H × List MemPlace}
    (hf : DataW.trod enc Tryz.prog W 0 (fun _ => true) true fuel 182 cs = some x) :
    ∃ f : FV, cs = f.cs ∧ Ints W f.a f.n f.C ∧ Ints W f.c f.m f.D ∧ f.n ≤ maxLen ∧ f.m ≤ maxLen := by
  obtain ⟨v0, v1, v2, y0, y1, y2, k, rfl, h0, h1, h2⟩ := open_cells3 Tryz.underlying182 (by kernel_rfl) (by kernel_rfl) hf
  obtain ⟨a, n, cap, C, rfl, hC, hn⟩ := open_row h0
  obtain ⟨c, m, cap', D, rfl, hD, hm⟩ := open_row h1
  obtain ⟨K, rfl, wK⟩ := open_num h2
  exact ⟨⟨a, n, cap, c, m, cap', K, C, D⟩, rfl, hC, hD, hn, hm⟩

theorem cells_at {W : World} {b off n : Nat} {cs : List Value} (h : W.cells? 0 ⟨b, off, none⟩ n = some cs) (i : Nat) (hi : i < n) : W.cell? ⟨b, off + i, none⟩ = cs[i]? := by
  have := (World.cells?_some h).2.2 i hi
  by_cases h0 : i = 0
  · subst h0; simpa [Addr.add] using this
  · simpa [Addr.add, h0] using this

end Go.Proofs.YtacjjhfbnbmnlaaGreatDoor

namespace Go.Proofs.YtacjjhfbnbmnlaaGreatDoor
open Go.ChangeShapes Go.WideShapes Go.ChangeAt Go.RowKit Go.Joins Go.Deep
set_option linter.unusedVariables false
set_option maxRecDepth 100000

/-- A line as it lies in memory. -/
structure LV where
  kind : Int
  pot : Int
  skip : Int
  f : FV
def LV.cs (l : LV) : List Value := [.int .i64 l.kind, .int .i64 l.pot, .int .i64 l.skip, .slice l.f.a l.f.n l.f.cap, .slice l.f.c l.f.m l.f.cap', .int .i64 l.f.K]
def noLV : LV := ⟨0, 0, 0, noFV⟩

/-- A form that a line may have; one that has nothing. -/
def smallB (n m : Nat) (C D : List Int) (K : Int) : Bool := okN 3 2 n C && okN 2 2 m D && inB K (-20) 20
def nothB (n m : Nat) (K : Int) : Bool := decide ((n : Int) = 0) && decide ((m : Int) = 0) && decide (K = 0)

theorem allB_mono {m m' : Int} {zs : List Int} (h : m ≤ m') (ha : allB m zs = true) : allB m' zs = true := by
  unfold allB at *
  rw [List.all_eq_true] at *
  intro x hx
  have := inB_iff.1 (ha x hx)
  exact inB_iff.2 (by omega)
theorem small_ok {n m : Nat} {C D : List Int} {K : Int} (h : smallB n m C D K = true) : formB n m C D K = true := by
  simp only [smallB, formB, okN, Bool.and_eq_true, decide_eq_true_eq] at *
  obtain ⟨⟨⟨h1, h2⟩, h3, h4⟩, h5⟩ := h
  exact ⟨⟨⟨h1, allB_mono (by omega) h2⟩, h3, allB_mono (by omega) h4⟩, inB_iff.2 (by have := inB_iff.1 h5; omega)⟩
theorem small_eq {n m : Nat} {C D : List Int} {K : Int} (h : formB n m C D K = true) : smallB n m C D K = (allB 2 C && allB 2 D && inB K (-20) 20) := by
  simp only [formB, okN, Bool.and_eq_true, decide_eq_true_eq] at h
  obtain ⟨⟨⟨h1, _⟩, h3, _⟩, _⟩ := h
  simp only [smallB, okN, h1, h3, decide_true, Bool.true_and]

theorem sSmall_any (a : Option Addr) (n cap : Nat) (c : Option Addr) (m cap' : Nat) (K : Int) (C D : List Int) (w : World) (hC : Ints w a n C) (hD : Ints w c m D) (hn : n ≤ 1048576) (hm : m ≤ 1048576) :
    Calls Tryz.prog 196 #[formV a n cap c m cap' K] w fun e w' => e = .returned (.bool (smallB n m C D K)) ∧ Below w.heap.size w w' := by
  cases h1 : okN 3 2 n C
  · go_enter Tryz.func196, Tryz.ntmps196
    go_wp2_with fail
    refine (all_any _ _ _ C _ _ _ (hC.alloc _) hn (by omega) (by omega)).mono ?_
    rintro e w1 ⟨rfl, rfl⟩
    go_wp2
    go_ret
    exact ⟨ret_bool (by simp [smallB, h1]), (Below.refl _ _).alloc (Nat.le_refl _) _⟩
  · cases h2 : okN 2 2 m D
    · go_enter Tryz.func196, Tryz.ntmps196
      go_wp2_with fail
      refine (all_any _ _ _ C _ _ _ (hC.alloc _) hn (by omega) (by omega)).mono ?_
      rintro e w1 ⟨rfl, rfl⟩
      go_wp2_with fail
      refine (all_any _ _ _ D _ _ _ (hD.alloc _) hm (by omega) (by omega)).mono ?_
      rintro e w1 ⟨rfl, rfl⟩
      go_wp2
      go_ret
      exact ⟨ret_bool (by simp [smallB, h1, h2]), (Below.refl _ _).alloc (Nat.le_refl _) _⟩
    · go_enter Tryz.func196, Tryz.ntmps196
      go_wp2_with fail
      refine (all_any _ _ _ C _ _ _ (hC.alloc _) hn (by omega) (by omega)).mono ?_
      rintro e w1 ⟨rfl, rfl⟩
      go_wp2_with fail
      refine (all_any _ _ _ D _ _ _ (hD.alloc _) hm (by omega) (by omega)).mono ?_
      rintro e w1 ⟨rfl, rfl⟩
      go_wp2_with fail
      refine (in_any _ _ _ _).mono ?_
      rintro e w1 ⟨rfl, rfl⟩
      go_wp2
      go_ret
      exact ⟨ret_bool (by simp [smallB, h1, h2]), (Below.refl _ _).alloc (Nat.le_refl _) _⟩

/-- A slice of lines that came in, of any lengths. -/
def LinesM (w : World) (ad : Option Addr) (ls : List LV) : Prop :=
  ∀ i, i < ls.length → ∃ b off, ad = some ⟨b, off, none⟩ ∧ (∀ r, r < 6 → w.cell? ⟨b, off + i * 6 + r, none⟩ = (ls[i]?.getD noLV).cs[r]?) ∧
    Ints w (ls[i]?.getD noLV).f.a (ls[i]?.getD noLV).f.n (ls[i]?.getD noLV).f.C ∧ Ints w (ls[i]?.getD noLV).f.c (ls[i]?.getD noLV).f.m (ls[i]?.getD noLV).f.D ∧ (ls[i]?.getD noLV).f.n ≤ maxLen ∧ (ls[i]?.getD noLV).f.m ≤ maxLen

/-- A line is ok. -/
def lineB (kind pot skip : Int) (n m : Nat) (C D : List Int) (K : Int) : Bool :=
  if kind = 1 then (pot == 0) && inB skip 1 6 && smallB n m C D K
  else if kind = 2 then inB pot 0 2 && (skip == 0) && smallB n m C D K
  else if kind = 3 then (pot == 0) && (skip == 0) && smallB n m C D K
  else (kind == 4) && (pot == 0) && (skip == 0) && ((n : Int) + m == 0) && (K == 0)

end Go.Proofs.YtacjjhfbnbmnlaaGreatDoor

namespace Go.Proofs.YtacjjhfbnbmnlaaGreatDoor
open Go.ChangeShapes Go.WideShapes Go.ChangeAt Go.RowKit Go.Joins Go.Deep
set_option linter.unusedVariables false
set_option maxRecDepth 100000

theorem open_sliceC {α : Type} (d0 : α) (cf : α → List Value) {H : Type} {enc : TypeId × Value → H} {W : World} (R : α → Prop) {S E : TypeId} {c : Nat} (hc : 0 < c) (hS : Tryz.prog.underlying S = some (.slice E)) (hE : Tryz.prog.cellsOf E = c) (hlen : ∀ a, (cf a).length = c)
    (hel : ∀ (fuel : Nat) (cs : List Value) (x : DataW H × List MemPlace), DataW.trod enc Tryz.prog W 0 (fun _ => true) true fuel E cs = some x → ∃ a, cs = cf a ∧ R a) {fuel : Nat} {v : Value} {y : DataW H × List MemPlace}
    (hf : DataW.trod enc Tryz.prog W 0 (fun _ => true) true fuel S [v] = some y) :
    ∃ (ad : Option Addr) (N cap : Nat) (xs : List α), v = .slice ad N cap ∧ xs.length = N ∧ N ≤ maxLen ∧ ∀ i, i < xs.length → ∃ b off, ad = some ⟨b, off, none⟩ ∧ (∀ r, r < c → W.cell? ⟨b, off + i * c + r, none⟩ = (cf (xs[i]?.getD d0))[r]?) ∧ R (xs[i]?.getD d0) := by
  rcases open_slice hS hf with ⟨hcs, _⟩ | ⟨a, len, cap, m, n, D, Pl, hcs, _, hl, hm, hmm, _, hall⟩
  · simp at hcs
    exact ⟨none, 0, 0, [], hcs, rfl, by unfold maxLen; omega, fun i hi => by simp at hi⟩
  · simp at hcs
    obtain rfl : m = cap := by simpa using hmm
    rw [hE] at hall
    have hex : ∀ i, i < len → ∃ f : α, W.cells? 0 (a.add (i * c)) c = some (cf f) ∧ R f := fun i hi => by
      obtain ⟨cs', h1, h2⟩ := hall i (by omega)
      obtain ⟨f, rfl, h3⟩ := hel _ _ _ h2
      exact ⟨f, h1, h3⟩
    have : ∃ F : Nat → α, ∀ i, i < len → W.cells? 0 (a.add (i * c)) c = some (cf (F i)) ∧ R (F i) := by
      classical
      refine ⟨fun i => if hi : i < len then Classical.choose (hex i hi) else d0, fun i hi => ?_⟩
      simp only [dif_pos hi]
      exact Classical.choose_spec (hex i hi)
    obtain ⟨F, hF⟩ := this
    refine ⟨some a, len, m, (List.range len).map F, hcs, by simp, by omega, fun i hi => ?_⟩
    have hi' : i < len := by simpa using hi
    have hg : ((List.range len).map F)[i]?.getD d0 = F i := by simp [hi']
    rw [hg]
    obtain ⟨h1, h2⟩ := hF i hi'
    obtain ⟨b, off, spot⟩ := a
    have hspot : spot = none := by
      have h0 := (World.cells?_some (hF 0 (by omega)).1).2.2 0 hc
      have h3 : ∃ x, (cf (F 0))[0]? = some x := ⟨_, List.getElem?_eq_getElem (by rw [hlen]; exact hc)⟩
      obtain ⟨x, h3⟩ := h3
      rw [h3] at h0
      simpa [Addr.add] using World.cell?_spot h0
    subst hspot
    have hadd : (⟨b, off, none⟩ : Addr).add (i * c) = ⟨b, off + i * c, none⟩ := by
      by_cases h0 : i * c = 0
      · rw [h0]; simp [Addr.add]
      · simp [Addr.add, h0]
    rw [hadd] at h1
    exact ⟨b, off, rfl, fun r hr => cells_at h1 r hr, h2⟩

/-- A slice that came in xs an argument. -/
theorem open_sliceT {α : Type} (d0 : α) (cf : α → List Value) {H : Type} {enc : TypeId × Value → H} {W : World} (R : α → Prop) {S E : TypeId} {c : Nat} (hc : 0 < c) (hS : Tryz.prog.underlying S = some (.slice E)) (hE : Tryz.prog.cellsOf E = c) (hlen : ∀ a, (cf a).length = c)
    (hel : ∀ (fuel : Nat) (cs : List Value) (x : DataW H × List MemPlace), DataW.trod enc Tryz.prog W 0 (fun _ => true) true fuel E cs = some x → ∃ a, cs = cf a ∧ R a) {r : Reach} {b0 : Nat} {v : Value} {d : DataW H} {p : List MemPlace}
    (hv : Value.okWide Tryz.prog W r b0 S v) (h : DataW.Trod enc Tryz.prog W 0 (fun _ => true) true S v d p) :
    ∃ (ad : Option Addr) (N cap : Nat) (xs : List α), v = .slice ad N cap ∧ xs.length = N ∧ N ≤ maxLen ∧ ∀ i, i < xs.length → ∃ b off, ad = some ⟨b, off, none⟩ ∧ (∀ r, r < c → W.cell? ⟨b, off + i * c + r, none⟩ = (cf (xs[i]?.getD d0))[r]?) ∧ R (xs[i]?.getD d0) := by
  obtain ⟨a0, len0, cap0, rfl⟩ := okWide_slice hS hv
  obtain ⟨fuel, hf⟩ := h
  exact open_sliceC d0 cf R hc hS hE hlen hel (by simpa [Value.cells] using hf)

end Go.Proofs.YtacjjhfbnbmnlaaGreatDoor

namespace Go.Proofs.YtacjjhfbnbmnlaaGreatDoor
open Go.ChangeShapes Go.WideShapes Go.ChangeAt Go.RowKit Go.Joins Go.Deep
set_option linter.unusedVariables false
set_option maxRecDepth 100000

/-- A line as a value. -/
abbrev lineV (kind pot skip : Int) (a : Option Addr) (n cap : Nat) (c : Option Addr) (m cap' : Nat) (K : Int) : Value := .agg #[.int .i64 kind, .int .i64 pot, .int .i64 skip, .slice a n cap, .slice c m cap', .int .i64 K]
theorem Cel.six {w : World} {B : Nat} {x0 x1 x2 x3 x4 x5 : Value} {t : TypeId} (h : Cel w B [x0, x1, x2, x3, x4, x5] t) : w.cell? ⟨B, 0, none⟩ = some x0 ∧ w.cell? ⟨B, 1, none⟩ = some x1 ∧ w.cell? ⟨B, 2, none⟩ = some x2 ∧ w.cell? ⟨B, 3, none⟩ = some x3 ∧ w.cell? ⟨B, 4, none⟩ = some x4 ∧ w.cell? ⟨B, 5, none⟩ = some x5 := ⟨h.cell 0, h.cell 1, h.cell 2, h.cell 3, h.cell 4, h.cell 5⟩
theorem Cel.frees {w : World} {B : Nat} {vs : List Value} {t : TypeId} (h : Cel w B vs t) : w.frozen? ⟨B, 0, none⟩ = false ∧ w.frozen? ⟨B, 1, none⟩ = false ∧ w.frozen? ⟨B, 2, none⟩ = false ∧ w.frozen? ⟨B, 3, none⟩ = false ∧ w.frozen? ⟨B, 4, none⟩ = false ∧ w.frozen? ⟨B, 5, none⟩ = false := ⟨h.free 0, h.free 1, h.free 2, h.free 3, h.free 4, h.free 5⟩

/-- A box that a call lays first, and old memory. -/
structure BL (w : World) (B : Nat) (la : List Value) (ty : TypeId) (W : World) : Prop where
  p : Cel W B la ty
  b : Below w.heap.size w W
theorem BL.new (w : World) (la : List Value) (ty : TypeId) : BL w w.heap.size la ty (w.alloc (.cells la.toArray ty)) := ⟨Cel.new w la ty, (Below.refl _ _).alloc (Nat.le_refl _) _⟩
theorem BL.below {w W W' : World} {B : Nat} {la : List Value} {ty : TypeId} (h : BL w B la ty W) (b : Below W.heap.size W W') : BL w B la ty W' := ⟨h.p.below b, h.b.trans (b.mono h.b.size)⟩
theorem BL.alloc {w W : World} {B : Nat} {la : List Value} {ty : TypeId} (h : BL w B la ty W) (o : Obj) : BL w B la ty (W.alloc o) := h.below ((Below.refl _ _).alloc (Nat.le_refl _) _)

theorem szL_any (kind pot skip : Int) (a : Option Addr) (n cap : Nat) (c : Option Addr) (m cap' : Nat) (K l : Int) (w : World) (hn : n ≤ maxLen) (hm : m ≤ maxLen) (h0 : 0 ≤ l) (hl : l ≤ 1048576) :
    Calls Tryz.prog 140 #[lineV kind pot skip a n cap c m cap' K, .int .i64 l] w fun e w' => e = .returned (.int .i64 (leftOf (leftOf l n) m)) ∧ Below w.heap.size w w' := by
  have g2 := leftOf_ge (leftOf l n) m
  have n0 := BL.new w [.int .i64 kind, .int .i64 pot, .int .i64 skip, .slice a n cap, .slice c m cap', .int .i64 K] 184
  by_cases h : leftOf (leftOf l n) m < 0
  · go_enter Tryz.func140, Tryz.ntmps140
    go_wp2_with fail
    refine (szF_any _ _ _ _ _ _ _ _ _ hn hm h0 hl).mono ?_
    rintro e w1 ⟨rfl, b1⟩
    go_wp2
    go_ret
    exact ⟨ret_int (by omega), (n0.below b1).b⟩
  · go_enter Tryz.func140, Tryz.ntmps140
    go_wp2_with fail
    refine (szF_any _ _ _ _ _ _ _ _ _ hn hm h0 hl).mono ?_
    rintro e w1 ⟨rfl, b1⟩
    go_wp2
    go_ret
    exact ⟨rfl, (n0.below b1).b⟩

set_option maxHeartbeats 1600000 in
theorem toL_any (kind pot skip : Int) (a : Option Addr) (n cap : Nat) (c : Option Addr) (m cap' : Nat) (K : Int) (C D : List Int) (w : World) (hC : Ints w a n C) (hD : Ints w c m D) (hn : n ≤ 1048576) (hm : m ≤ 1048576) :
    Calls Tryz.prog 147 #[lineV kind pot skip a n cap c m cap' K] w fun e w' => ∃ B1 B2, e = .returned (lineV kind pot skip (some ⟨B1, 0, none⟩) n n (some ⟨B2, 0, none⟩) m m K) ∧ Below w.heap.size w w' ∧ w.heap.size ≤ B1 ∧ B1 < B2 ∧ Blk w' B1 C ∧ Blk w' B2 D := by
  go_enter Tryz.func147, Tryz.ntmps147
  go_wp2_with fail
  refine (toF_any _ _ _ _ _ _ _ C D _ (((hC.alloc _).alloc _).alloc _) (((hD.alloc _).alloc _).alloc _) hn hm).mono ?_
  rintro e w1 ⟨B1, B2, rfl, b1, o1, o2, k1, k2⟩
  have rr := ((Cel.new (w.alloc _) _ _).alloc _).below b1
  have rx := (Cel.new ((w.alloc _).alloc _) _ _).below b1
  rw [World.size_alloc] at rr
  rw [World.size_alloc, World.size_alloc] at rx
  rw [World.size_alloc, World.size_alloc, World.size_alloc] at o1
  have B3 : Below w.heap.size w w1 := ((((Below.refl _ _).alloc (Nat.le_refl _) _).alloc (by simp) _).alloc (by simp; omega) _).trans (b1.mono (by simp; omega))
  have s1 := k1.lt
  have s2 := k2.lt
  clear b1
  obtain ⟨d0, d1, d2, d3, d4, d5⟩ := rx.six
  obtain ⟨e0, e1, e2, e3, e4, e5⟩ := rr.six
  obtain ⟨f0, f1, f2, f3, f4, f5⟩ := rx.frees
  obtain ⟨h0, h1, h2, h3, h4, h5⟩ := rr.frees
  have hlt1 : w.heap.size + 1 < w1.heap.size := by omega
  have hlt2 : w.heap.size + 1 + 1 < w1.heap.size := by omega
  go_wp2
  refine bodyPost_ret (v := lineV kind pot skip (some ⟨B1, 0, none⟩) n n (some ⟨B2, 0, none⟩) m m K) (by simp [results, Tryz.results147, go_sem, e0, e1, e2, e3, e4, e5]) rfl ⟨B1, B2, rfl, ?_, by omega, o2, ?_, ?_⟩
  · exact ((((((((B3.setCell (by simp only []; omega) _).setCell (by simp only []; omega) _).setCell (by simp only []; omega) _).setCell (by simp only []; omega) _).setCell (by simp only []; omega) _).setCell (by simp only []; omega) _).setCell (by simp only []; omega) _).setCell (by simp only []; omega) _).setCell (by simp only []; omega) _
  · exact ((((((((k1.setOther (by omega) _ _).setOther (by omega) _ _).setOther (by omega) _ _).setOther (by omega) _ _).setOther (by omega) _ _).setOther (by omega) _ _).setOther (by omega) _ _).setOther (by omega) _ _).setOther (by omega) _ _
  · exact ((((((((k2.setOther (by omega) _ _).setOther (by omega) _ _).setOther (by omega) _ _).setOther (by omega) _ _).setOther (by omega) _ _).setOther (by omega) _ _).setOther (by omega) _ _).setOther (by omega) _ _).setOther (by omega) _ _

set_option maxHeartbeats 800000 in
/-- Held against a line that holds the same. -/
theorem eqL_same (kind pot skip : Int) (a : Option Addr) (n cap : Nat) (c : Option Addr) (m cap' : Nat) (K : Int) (C D : List Int) (a' : Option Addr) (n' cap2 : Nat) (c' : Option Addr) (m' cap3 : Nat) (K' : Int) (C' D' : List Int) (w : World)
    (hC : Ints w a n C) (hD : Ints w c m D) (hC' : Ints w a' n' C') (hD' : Ints w c' m' D') (hn : n ≤ 1048576) (hm : m ≤ 1048576) (hn' : n' ≤ 1048576) (hm' : m' ≤ 1048576) (he : eqF C D K C' D' K' = true) :
    Calls Tryz.prog 159 #[lineV kind pot skip a n cap c m cap' K, lineV kind pot skip a' n' cap2 c' m' cap3 K'] w fun e w' => e = .returned (.bool true) ∧ Below w.heap.size w w' := by
  have h1 : (kind != kind) = false := by simp
  have h2 : (pot != pot) = false := by simp
  have h3 : (skip != skip) = false := by simp
  have HE : Hid (eqF C D K C' D' K' = true) := he
  clear he
  go_enter Tryz.func159, Tryz.ntmps159
  go_wp2_with fail
  refine (eqF_any _ _ _ _ _ _ _ C D _ _ _ _ _ _ _ C' D' _ ((hC.alloc _).alloc _) ((hD.alloc _).alloc _) ((hC'.alloc _).alloc _) ((hD'.alloc _).alloc _) hn hm hn' hm').mono ?_
  rintro e w1 ⟨rfl, b1⟩
  rw [HE.out]
  go_wp2
  go_ret
  exact ⟨rfl, (((Below.refl _ _).alloc (Nat.le_refl _) _).alloc (by simp) _).trans (b1.mono (by simp; omega))⟩


/-- The step that the program makes of a line. -/
def stepV (l : LV) : Value :=
  if l.kind = 1 then .iface 271 (.agg #[.int .i64 l.skip, .slice l.f.a l.f.n l.f.cap, .slice l.f.c l.f.m l.f.cap', .int .i64 l.f.K])
  else if l.kind = 2 then .iface 273 (.agg #[.int .i64 l.pot, .slice l.f.a l.f.n l.f.cap, .slice l.f.c l.f.m l.f.cap', .int .i64 l.f.K])
  else if l.kind = 3 then .iface 275 (.agg #[.slice l.f.a l.f.n l.f.cap, .slice l.f.c l.f.m l.f.cap', .int .i64 l.f.K])
  else if l.kind = 4 then .iface 277 (.agg #[])
  else .nilIface

set_option maxHeartbeats 1600000 in
theorem sline_any (kind pot skip : Int) (a : Option Addr) (n cap : Nat) (c : Option Addr) (m cap' : Nat) (K : Int) (C D : List Int) (w : World) (hC : Ints w a n C) (hD : Ints w c m D) (hn : n ≤ 1048576) (hm : m ≤ 1048576) :
    Calls Tryz.prog 174 #[lineV kind pot skip a n cap c m cap' K] w fun e w' => e = .returned (.bool (lineB kind pot skip n m C D K)) ∧ Below w.heap.size w w' := by
  have n0 := BL.new w [.int .i64 kind, .int .i64 pot, .int .i64 skip, .slice a n cap, .slice c m cap', .int .i64 K] 192
  by_cases hk1 : kind = 1
  · subst hk1
    by_cases hp : pot = 0
    · subst hp
      cases hs : inB skip 1 6
      · go_enter Tryz.func174, Tryz.ntmps174
        go_wp2_with fail
        refine (in_any _ _ _ _).mono ?_
        rintro e w1 ⟨rfl, rfl⟩
        rw [hs]
        go_wp2
        go_ret
        exact ⟨ret_bool (by simp [lineB, hs]), n0.b⟩
      · go_enter Tryz.func174, Tryz.ntmps174
        go_wp2_with fail
        refine (in_any _ _ _ _).mono ?_
        rintro e w1 ⟨rfl, rfl⟩
        rw [hs]
        go_wp2_with fail
        refine (sSmall_any _ _ _ _ _ _ _ C D _ (hC.below n0.b) (hD.below n0.b) hn hm).mono ?_
        rintro e w1 ⟨rfl, b1⟩
        go_wp2
        go_ret
        exact ⟨ret_bool (by simp [lineB, hs]), (n0.below b1).b⟩
    · have hp' : (pot == 0) = false := by simp [hp]
      go_enter Tryz.func174, Tryz.ntmps174
      go_wp2
      go_ret
      exact ⟨ret_bool (by simp [lineB, hp]), n0.b⟩
  · by_cases hk2 : kind = 2
    · subst hk2
      cases hp : inB pot 0 2
      · go_enter Tryz.func174, Tryz.ntmps174
        go_wp2_with fail
        refine (in_any _ _ _ _).mono ?_
        rintro e w1 ⟨rfl, rfl⟩
        rw [hp]
        go_wp2
        go_ret
        exact ⟨ret_bool (by simp [lineB, hp]), n0.b⟩
      · by_cases hs : skip = 0
        · subst hs
          go_enter Tryz.func174, Tryz.ntmps174
          go_wp2_with fail
          refine (in_any _ _ _ _).mono ?_
          rintro e w1 ⟨rfl, rfl⟩
          rw [hp]
          go_wp2_with fail
          refine (sSmall_any _ _ _ _ _ _ _ C D _ (hC.below n0.b) (hD.below n0.b) hn hm).mono ?_
          rintro e w1 ⟨rfl, b1⟩
          go_wp2
          go_ret
          exact ⟨ret_bool (by simp [lineB, hp]), (n0.below b1).b⟩
        · have hs' : (skip == 0) = false := by simp [hs]
          go_enter Tryz.func174, Tryz.ntmps174
          go_wp2_with fail
          refine (in_any _ _ _ _).mono ?_
          rintro e w1 ⟨rfl, rfl⟩
          rw [hp]
          go_wp2
          go_ret
          exact ⟨ret_bool (by simp [lineB, hs]), n0.b⟩
    · by_cases hk3 : kind = 3
      · subst hk3
        by_cases hp : pot = 0
        · subst hp
          by_cases hs : skip = 0
          · subst hs
            go_enter Tryz.func174, Tryz.ntmps174
            go_wp2_with fail
            refine (sSmall_any _ _ _ _ _ _ _ C D _ (hC.below n0.b) (hD.below n0.b) hn hm).mono ?_
            rintro e w1 ⟨rfl, b1⟩
            go_wp2
            go_ret
            exact ⟨ret_bool (by simp [lineB, ]), (n0.below b1).b⟩
          · have hs' : (skip == 0) = false := by simp [hs]
            go_enter Tryz.func174, Tryz.ntmps174
            go_wp2
            go_ret
            exact ⟨ret_bool (by simp [lineB, hs]), n0.b⟩
        · have hp' : (pot == 0) = false := by simp [hp]
          go_enter Tryz.func174, Tryz.ntmps174
          go_wp2
          go_ret
          exact ⟨ret_bool (by simp [lineB, hp]), n0.b⟩
      · have hk1' : (kind == 1) = false := by simp [hk1]
        have hk2' : (kind == 2) = false := by simp [hk2]
        have hk3' : (kind == 3) = false := by simp [hk3]
        by_cases hk4 : kind = 4
        · subst hk4
          by_cases hp : pot = 0
          · subst hp
            by_cases hs : skip = 0
            · subst hs
              by_cases hl : (n : Int) + m = 0
              · have hl' : ((n : Int) + m == 0) = true := by simp [hl]
                go_enter Tryz.func174, Tryz.ntmps174
                go_wp2
                go_ret
                exact ⟨ret_bool (by simp only [lineB, hl', Int.reduceEq, if_false, beq_self_eq_true, Bool.true_and]), n0.b⟩
              · have hl' : ((n : Int) + m == 0) = false := by simpa using hl
                go_enter Tryz.func174, Tryz.ntmps174
                go_wp2
                go_ret
                exact ⟨ret_bool (by simp only [lineB, hl', Int.reduceEq, if_false, beq_self_eq_true, Bool.true_and, Bool.false_and]), n0.b⟩
            · have hs' : (skip == 0) = false := by simp [hs]
              go_enter Tryz.func174, Tryz.ntmps174
              go_wp2
              go_ret
              exact ⟨ret_bool (by simp [lineB, hs]), n0.b⟩
          · have hp' : (pot == 0) = false := by simp [hp]
            go_enter Tryz.func174, Tryz.ntmps174
            go_wp2
            go_ret
            exact ⟨ret_bool (by simp [lineB, hp]), n0.b⟩
        · have hk4' : (kind == 4) = false := by simp [hk4]
          go_enter Tryz.func174, Tryz.ntmps174
          go_wp2
          go_ret
          exact ⟨ret_bool (by simp [lineB, hk1, hk2, hk3, hk4]), n0.b⟩

set_option maxHeartbeats 1600000 in
theorem iSmall_any (a : Option Addr) (n cap : Nat) (c : Option Addr) (m cap' : Nat) (K : Int) (C D : List Int) (w : World) (hC : Ints w a n C) (hD : Ints w c m D) (hn : n ≤ 1048576) (hm : m ≤ 1048576) :
    Calls Tryz.prog 209 #[formV a n cap c m cap' K] w fun e w' => e = .returned (.bool (smallB n m C D K)) ∧ Below w.heap.size w w' := by
  have n0 := BL.new w [.slice a n cap, .slice c m cap', .int .i64 K] 127
  obtain ⟨fb, hfb⟩ : ∃ fb, fb = formB n m C D K := ⟨_, rfl⟩
  have HF : Hid (fb = formB n m C D K) := hfb
  clear hfb
  go_enter Tryz.func209, Tryz.ntmps209
  go_wp2_with fail
  refine (iok_any _ _ _ _ _ _ _ C D _ (hC.alloc _) (hD.alloc _) hn hm).mono ?_
  rintro e w1 ⟨rfl, b1⟩
  have n1 := n0.below b1
  rw [← HF.out]
  clear n0 b1
  have c0 := n1.p.cell 0
  have c1 := n1.p.cell 1
  have c2 := n1.p.cell 2
  simp only [List.getElem?_cons_zero, List.getElem?_cons_succ] at c0 c1 c2
  cases fb
  · have hs : smallB n m C D K = false := by
      cases hh : smallB n m C D K
      · rfl
      · have := small_ok hh; rw [← HF.out] at this; cases this
    go_wp2
    go_ret
    exact ⟨ret_bool hs.symm, n1.b⟩
  have HS : Hid _ := small_eq HF.out.symm
  cases h3 : allB 2 C
  · go_wp2_with fail
    refine (within_any _ _ _ C _ _ (hC.below n1.b) hn (by omega) (by omega)).mono ?_
    rintro e w2 ⟨rfl, rfl⟩
    rw [h3]
    go_wp2
    go_ret
    exact ⟨ret_bool (by rw [HS.out, h3]; rfl), n1.b⟩
  · cases h4 : allB 2 D
    · go_wp2_with fail
      refine (within_any _ _ _ C _ _ (hC.below n1.b) hn (by omega) (by omega)).mono ?_
      rintro e w2 ⟨rfl, rfl⟩
      rw [h3]
      go_wp2_with fail
      refine (within_any _ _ _ D _ _ (hD.below n1.b) hm (by omega) (by omega)).mono ?_
      rintro e w2 ⟨rfl, rfl⟩
      rw [h4]
      go_wp2
      go_ret
      exact ⟨ret_bool (by rw [HS.out, h3, h4]; rfl), n1.b⟩
    · go_wp2_with fail
      refine (within_any _ _ _ C _ _ (hC.below n1.b) hn (by omega) (by omega)).mono ?_
      rintro e w2 ⟨rfl, rfl⟩
      rw [h3]
      go_wp2_with fail
      refine (within_any _ _ _ D _ _ (hD.below n1.b) hm (by omega) (by omega)).mono ?_
      rintro e w2 ⟨rfl, rfl⟩
      rw [h4]
      go_wp2_with fail
      refine (within_any (some ⟨_, 0, none⟩) 1 1 [K] _ _ ?_ (by omega) (by omega) (by omega)).mono ?_
      · refine ⟨rfl, fun i hi => ⟨_, 0, rfl, ?_⟩⟩
        obtain rfl : i = 0 := by omega
        exact (Cel.new _ [.int .i64 K] _).cell 0
      rintro e w2 ⟨rfl, rfl⟩
      go_wp2
      go_ret
      exact ⟨ret_bool (by rw [allB_one, HS.out, h3, h4]; rfl), (n1.alloc _).b⟩

theorem iNoth_any (a : Option Addr) (n cap : Nat) (c : Option Addr) (m cap' : Nat) (K : Int) (w : World) :
    Calls Tryz.prog 210 #[formV a n cap c m cap' K] w fun e w' => e = .returned (.bool (((n : Int) + m == 0) && (K == 0))) ∧ Below w.heap.size w w' := by
  have n0 := BL.new w [.slice a n cap, .slice c m cap', .int .i64 K] 127
  by_cases h1 : (n : Int) = 0
  · obtain rfl : n = 0 := by omega
    by_cases h2 : (m : Int) = 0
    · obtain rfl : m = 0 := by omega
      go_enter Tryz.func210, Tryz.ntmps210
      go_wp2
      go_ret
      exact ⟨ret_bool (by simp), n0.b⟩
    · have h2' : ((m : Int) == 0) = false := by simpa using h2
      go_enter Tryz.func210, Tryz.ntmps210
      go_wp2
      go_ret
      exact ⟨ret_bool (by simp; omega), n0.b⟩
  · have h1' : ((n : Int) == 0) = false := by simpa using h1
    go_enter Tryz.func210, Tryz.ntmps210
    go_wp2
    go_ret
    exact ⟨ret_bool (by simp; omega), n0.b⟩

theorem ret_step {u v : Value} {a b : Bool} (h : u = v) (h' : a = b) : Ending.returned (.tuple #[u, .bool a]) = .returned (.tuple #[v, .bool b]) := by rw [h, h']

set_option maxHeartbeats 3200000 in
theorem istep_any (kind pot skip : Int) (a : Option Addr) (n cap : Nat) (c : Option Addr) (m cap' : Nat) (K : Int) (C D : List Int) (w : World) (hC : Ints w a n C) (hD : Ints w c m D) (hn : n ≤ 1048576) (hm : m ≤ 1048576) :
    Calls Tryz.prog 199 #[lineV kind pot skip a n cap c m cap' K] w fun e w' => e = .returned (.tuple #[stepV ⟨kind, pot, skip, ⟨a, n, cap, c, m, cap', K, C, D⟩⟩, .bool (lineB kind pot skip n m C D K)]) ∧ Below w.heap.size w w' := by
  have n0 := BL.new w [.int .i64 kind, .int .i64 pot, .int .i64 skip, .slice a n cap, .slice c m cap', .int .i64 K] 192
  by_cases hk1 : kind = 1
  · subst hk1
    by_cases hp : pot = 0
    · subst hp
      by_cases hs1 : 1 ≤ skip
      · by_cases hs2 : skip ≤ 6
        · have hs : inB skip 1 6 = true := inB_iff.2 ⟨hs1, hs2⟩
          go_enter Tryz.func199, Tryz.ntmps199
          go_wp2_with fail
          refine (iSmall_any _ _ _ _ _ _ _ C D _ (hC.below n0.b) (hD.below n0.b) hn hm).mono ?_
          rintro e w1 ⟨rfl, b1⟩
          obtain ⟨c0, c1, c2, c3, c4, c5⟩ := (n0.below b1).p.six
          go_wp2
          go_ret2
          exact ⟨ret_step (by simp [stepV]) (by simp [lineB, hs]), (n0.below b1).b⟩
        · have hs : inB skip 1 6 = false := inB_not.2 (by omega)
          go_enter Tryz.func199, Tryz.ntmps199
          go_wp2
          go_ret2
          exact ⟨ret_step (by simp [stepV]) (by simp [lineB, hs]), n0.b⟩
      · have hs : inB skip 1 6 = false := inB_not.2 (by omega)
        go_enter Tryz.func199, Tryz.ntmps199
        go_wp2
        go_ret2
        exact ⟨ret_step (by simp [stepV]) (by simp [lineB, hs]), n0.b⟩
    · have hp' : (pot == 0) = false := by simp [hp]
      go_enter Tryz.func199, Tryz.ntmps199
      go_wp2
      go_ret2
      exact ⟨ret_step (by simp [stepV]) (by simp [lineB, hp]), n0.b⟩
  · by_cases hk2 : kind = 2
    · subst hk2
      by_cases hp1 : 0 ≤ pot
      · by_cases hp2 : pot < 3
        · have hp : inB pot 0 2 = true := inB_iff.2 ⟨hp1, by omega⟩
          by_cases hs : skip = 0
          · subst hs
            go_enter Tryz.func199, Tryz.ntmps199
            go_wp2_with fail
            refine (place_any _ _ _).mono ?_
            rintro e w1 ⟨rfl, rfl⟩
            rw [decide_eq_true (show 0 ≤ pot ∧ pot < 3 from ⟨hp1, hp2⟩)]
            go_wp2_with fail
            refine (iSmall_any _ _ _ _ _ _ _ C D _ (hC.below n0.b) (hD.below n0.b) hn hm).mono ?_
            rintro e w1 ⟨rfl, b1⟩
            obtain ⟨c0, c1, c2, c3, c4, c5⟩ := (n0.below b1).p.six
            go_wp2
            go_ret2
            exact ⟨ret_step (by simp [stepV]) (by simp [lineB, hp]), (n0.below b1).b⟩
          · have hs' : (skip == 0) = false := by simp [hs]
            go_enter Tryz.func199, Tryz.ntmps199
            go_wp2_with fail
            refine (place_any _ _ _).mono ?_
            rintro e w1 ⟨rfl, rfl⟩
            rw [decide_eq_true (show 0 ≤ pot ∧ pot < 3 from ⟨hp1, hp2⟩)]
            go_wp2
            go_ret2
            exact ⟨ret_step (by simp [stepV]) (by simp [lineB, hs]), n0.b⟩
        · have hp : inB pot 0 2 = false := inB_not.2 (by omega)
          go_enter Tryz.func199, Tryz.ntmps199
          go_wp2_with fail
          refine (place_any _ _ _).mono ?_
          rintro e w1 ⟨rfl, rfl⟩
          rw [decide_eq_false (show ¬ (0 ≤ pot ∧ pot < 3) by omega)]
          go_wp2
          go_ret2
          exact ⟨ret_step (by simp [stepV]) (by simp [lineB, hp]), n0.b⟩
      · have hp : inB pot 0 2 = false := inB_not.2 (by omega)
        go_enter Tryz.func199, Tryz.ntmps199
        go_wp2_with fail
        refine (place_any _ _ _).mono ?_
        rintro e w1 ⟨rfl, rfl⟩
        rw [decide_eq_false (show ¬ (0 ≤ pot ∧ pot < 3) by omega)]
        go_wp2
        go_ret2
        exact ⟨ret_step (by simp [stepV]) (by simp [lineB, hp]), n0.b⟩
    · by_cases hk3 : kind = 3
      · subst hk3
        by_cases hp : pot = 0
        · subst hp
          by_cases hs : skip = 0
          · subst hs
            go_enter Tryz.func199, Tryz.ntmps199
            go_wp2_with fail
            refine (iSmall_any _ _ _ _ _ _ _ C D _ (hC.below n0.b) (hD.below n0.b) hn hm).mono ?_
            rintro e w1 ⟨rfl, b1⟩
            obtain ⟨c0, c1, c2, c3, c4, c5⟩ := (n0.below b1).p.six
            go_wp2
            go_ret2
            exact ⟨ret_step (by simp [stepV]) (by simp [lineB, ]), (n0.below b1).b⟩
          · have hs' : (skip == 0) = false := by simp [hs]
            go_enter Tryz.func199, Tryz.ntmps199
            go_wp2
            go_ret2
            exact ⟨ret_step (by simp [stepV]) (by simp [lineB, hs]), n0.b⟩
        · have hp' : (pot == 0) = false := by simp [hp]
          go_enter Tryz.func199, Tryz.ntmps199
          go_wp2
          go_ret2
          exact ⟨ret_step (by simp [stepV]) (by simp [lineB, hp]), n0.b⟩
      · have hk1' : (kind == 1) = false := by simp [hk1]
        have hk2' : (kind == 2) = false := by simp [hk2]
        have hk3' : (kind == 3) = false := by simp [hk3]
        by_cases hk4 : kind = 4
        · subst hk4
          by_cases hp : pot = 0
          · subst hp
            by_cases hs : skip = 0
            · subst hs
              go_enter Tryz.func199, Tryz.ntmps199
              go_wp2_with fail
              refine (iNoth_any _ _ _ _ _ _ _ _).mono ?_
              rintro e w1 ⟨rfl, b1⟩
              obtain ⟨c0, c1, c2, c3, c4, c5⟩ := (n0.below b1).p.six
              go_wp2
              go_ret2
              exact ⟨ret_step (by simp [stepV]) (by simp only [lineB, Int.reduceEq, if_false, beq_self_eq_true, Bool.true_and]), (n0.below b1).b⟩
            · have hs' : (skip == 0) = false := by simp [hs]
              go_enter Tryz.func199, Tryz.ntmps199
              go_wp2
              go_ret2
              exact ⟨ret_step (by simp [stepV]) (by simp [lineB, hs]), n0.b⟩
          · have hp' : (pot == 0) = false := by simp [hp]
            go_enter Tryz.func199, Tryz.ntmps199
            go_wp2
            go_ret2
            exact ⟨ret_step (by simp [stepV]) (by simp [lineB, hp]), n0.b⟩
        · have hk4' : (kind == 4) = false := by simp [hk4]
          go_enter Tryz.func199, Tryz.ntmps199
          go_wp2
          go_ret2
          exact ⟨ret_step (by simp [stepV, hk1, hk2, hk3, hk4]) (by simp [lineB, hk1, hk2, hk3, hk4]), n0.b⟩

end Go.Proofs.YtacjjhfbnbmnlaaGreatDoor

namespace Go.Proofs.YtacjjhfbnbmnlaaGreatDoor
open Go.ChangeShapes Go.WideShapes Go.ChangeAt Go.RowKit Go.Joins Go.Deep
set_option linter.unusedVariables false
set_option maxRecDepth 100000

/-- A slice of lines. -/
def LinesG (w : World) (ad : Option Addr) (ls : List LV) : Prop :=
  ∀ i, i < ls.length → ∃ b off, ad = some ⟨b, off, none⟩ ∧ (∀ r, r < 6 → w.cell? ⟨b, off + i * 6 + r, none⟩ = (ls[i]?.getD noLV).cs[r]?) ∧ (ls[i]?.getD noLV).f.At w
theorem cells_below {w w' : World} {b o : Nat} {l : LV} (h : ∀ r, r < 6 → w.cell? ⟨b, o + r, none⟩ = l.cs[r]?) (hb : Below w.heap.size w w') : ∀ r, r < 6 → w'.cell? ⟨b, o + r, none⟩ = l.cs[r]? := fun r hr => by
  have hl : b < w.heap.size := by
    have := h 0 (by omega)
    exact block_lt (v := .int .i64 l.kind) (by rw [this]; rfl)
  rw [hb.cell (p := ⟨b, o + r, none⟩) hl]; exact h r hr
theorem LinesG.below {w w' : World} {ad : Option Addr} {ls : List LV} (h : LinesG w ad ls) (hb : Below w.heap.size w w') : LinesG w' ad ls := fun i hi => by
  obtain ⟨b, off, e, hc, ha⟩ := h i hi
  exact ⟨b, off, e, cells_below hc hb, ha.below hb⟩
theorem LinesM.below {w w' : World} {ad : Option Addr} {ls : List LV} (h : LinesM w ad ls) (hb : Below w.heap.size w w') : LinesM w' ad ls := fun i hi => by
  obtain ⟨b, off, e, hc, h1, h2, h3⟩ := h i hi
  exact ⟨b, off, e, cells_below hc hb, h1.below hb, h2.below hb, h3⟩
theorem LinesM.g {w : World} {ad : Option Addr} {ls : List LV} (h : LinesM w ad ls) (hs : ∀ i, i < ls.length → (ls[i]?.getD noLV).f.n ≤ 1048576 ∧ (ls[i]?.getD noLV).f.m ≤ 1048576) : LinesG w ad ls := fun i hi => by
  obtain ⟨b, off, e, hc, h1, h2, h3⟩ := h i hi
  exact ⟨b, off, e, hc, ⟨h1, h2, (hs i hi).1, (hs i hi).2⟩⟩
theorem six_of {w : World} {b o : Nat} {l : LV} (h : ∀ r, r < 6 → w.cell? ⟨b, o + r, none⟩ = l.cs[r]?) :
    w.cell? ⟨b, o, none⟩ = some (.int .i64 l.kind) ∧ w.cell? ⟨b, o + 1, none⟩ = some (.int .i64 l.pot) ∧ w.cell? ⟨b, o + 2, none⟩ = some (.int .i64 l.skip) ∧ w.cell? ⟨b, o + 3, none⟩ = some (.slice l.f.a l.f.n l.f.cap) ∧ w.cell? ⟨b, o + 4, none⟩ = some (.slice l.f.c l.f.m l.f.cap') ∧ w.cell? ⟨b, o + 5, none⟩ = some (.int .i64 l.f.K) :=
  ⟨h 0 (by omega), h 1 (by omega), h 2 (by omega), h 3 (by omega), h 4 (by omega), h 5 (by omega)⟩

theorem open_lineC {H : Type} {enc : TypeId × Value → H} {W : World} {fuel : Nat} {cs : List Value} {x : DataW H × List MemPlace}
    (hf : DataW.trod enc Tryz.prog W 0 (fun _ => true) true fuel 184 cs = some x) :
    ∃ l : LV, cs = l.cs ∧ Ints W l.f.a l.f.n l.f.C ∧ Ints W l.f.c l.f.m l.f.D ∧ l.f.n ≤ maxLen ∧ l.f.m ≤ maxLen := by
  obtain ⟨y0, y1, y2, y3, n, _, hl, h0, h1, h2, h3⟩ := trod_struct4 Tryz.underlying184 hf
  have hl' : cs.length = 6 := hl.trans (by kernel_rfl)
  match cs, hl' with
  | [c0, c1, c2, c3, c4, c5], _ =>
    have k3 : Tryz.prog.cellsOf 3 = 1 := by kernel_rfl
    have k57 : Tryz.prog.cellsOf 182 = 3 := by kernel_rfl
    simp only [k3, k57, List.drop_zero, List.drop_succ_cons, List.take_succ_cons, List.take_zero] at h0 h1 h2 h3
    obtain ⟨a0, rfl, _⟩ := open_num h0
    obtain ⟨a1, rfl, _⟩ := open_num h1
    obtain ⟨a2, rfl, _⟩ := open_num h2
    obtain ⟨f, e, hf'⟩ := open_formC h3
    simp only [FV.cs, List.cons.injEq, and_true] at e
    obtain ⟨rfl, rfl, rfl⟩ := e
    exact ⟨⟨a0, a1, a2, f⟩, rfl, hf'⟩

theorem open_linesC {H : Type} {enc : TypeId × Value → H} {W : World} {fuel : Nat} {v : Value} {y : DataW H × List MemPlace}
    (hf : DataW.trod enc Tryz.prog W 0 (fun _ => true) true fuel 116 [v] = some y) :
    ∃ ad N cap ls, v = .slice ad N cap ∧ ls.length = N ∧ LinesM W ad ls ∧ N ≤ maxLen := by
  obtain ⟨ad, N, cap, fs, hv, hl, hN, hall⟩ := open_sliceC noLV LV.cs (fun l => Ints W l.f.a l.f.n l.f.C ∧ Ints W l.f.c l.f.m l.f.D ∧ l.f.n ≤ maxLen ∧ l.f.m ≤ maxLen) (c := 6) (by omega) Tryz.underlying116 (by kernel_rfl) (fun _ => rfl) (fun fuel cs x hx => open_lineC hx) hf
  exact ⟨ad, N, cap, fs, hv, hl, hall, hN⟩
theorem open_lines {H : Type} {enc : TypeId × Value → H} {W : World} {r : Reach} {b0 : Nat} {v : Value} {d : DataW H} {p : List MemPlace}
    (hv : Value.okWide Tryz.prog W r b0 116 v) (h : DataW.Trod enc Tryz.prog W 0 (fun _ => true) true 116 v d p) :
    ∃ ad N cap ls, v = .slice ad N cap ∧ ls.length = N ∧ LinesM W ad ls ∧ N ≤ maxLen := by
  obtain ⟨a0, len0, cap0, rfl⟩ := okWide_slice Tryz.underlying116 hv
  obtain ⟨fuel, hf⟩ := h
  exact open_linesC (by simpa [Value.cells] using hf)

set_option maxHeartbeats 800000 in
theorem szLS_any (ad : Option Addr) (N cap : Nat) (ls : List LV) (l : Int) (w : World) (hN : ls.length = N) (hF : LinesM w ad ls) (hN1 : N ≤ maxLen) (h0 : 0 ≤ l) (hl : l ≤ 1048576) :
    Calls Tryz.prog 86 #[.slice ad N cap, .int .i64 l] w fun e w' => ∃ r, e = .returned (.int .i64 r) ∧ -1 ≤ r ∧ r ≤ 1048576 ∧ (0 ≤ r → N ≤ 1048576 ∧ ∀ i, i < ls.length → (ls[i]?.getD noLV).f.n ≤ 1048576 ∧ (ls[i]?.getD noLV).f.m ≤ 1048576) ∧ Below w.heap.size w w' := by
  have HN : Hid (ls.length = N) := hN
  clear hN
  unfold maxLen at hN1
  by_cases h : l < N
  · go_enter Tryz.func86, Tryz.ntmps86
    go_wp2
    go_ret
    exact ⟨-1, rfl, by omega, by omega, fun h => by omega, Below.refl _ _⟩
  · have hN2 : N ≤ 1048576 := by omega
    have h' : (N : Int) ≤ l := by omega
    go_enter Tryz.func86, Tryz.ntmps86
    go_wp2_with fail
    go_loopw [1, 5] (fun lv i wr => ∃ k : Nat, k ≤ N ∧ i = .int .i64 k ∧ ∃ x : Int, lv = .int .i64 x ∧ 0 ≤ x ∧ x ≤ 1048576 ∧ Below w.heap.size w wr ∧ ∀ i, i < k → (ls[i]?.getD noLV).f.n ≤ 1048576 ∧ (ls[i]?.getD noLV).f.m ≤ 1048576) (fun _ i _ => N - (intOf i).toNat)
    case atStart => exact ⟨0, Nat.zero_le _, rfl, _, rfl, by omega, by omega, Below.refl _ _, fun i hi => by omega⟩
    case round =>
      obtain ⟨k, hk, rfl, x, rfl, hx0, hx1, hb, hall⟩ := hrel
      have HA : Hid _ := hall
      clear hall
      by_cases hlt : k < N
      · obtain ⟨b, off, rfl, hc, h1, h2, h3, h4⟩ := (hF.below hb) k (by rw [HN.out]; exact hlt)
        generalize HG : ls[k]?.getD noLV = g at *
        have HG' : Hid (ls[k]?.getD noLV = g) := HG
        clear HG hF
        obtain ⟨e0, e1, e2, e3, e4, e5⟩ := six_of hc
        obtain ⟨gk, gp, gs, ⟨ga, gn, gcap, gc, gm, gcap', gK, gC, gD⟩⟩ := g
        simp only at e0 e1 e2 e3 e4 e5 h3 h4
        clear hc h1 h2
        have g2 := leftOf_ge (leftOf x gn) gm
        by_cases hz : leftOf (leftOf x gn) gm < 0
        · go_wp2_with fail
          refine (szL_any _ _ _ _ _ _ _ _ _ _ _ _ h3 h4 hx0 hx1).mono ?_
          rintro e w1 ⟨rfl, b1⟩
          go_wp2
          go_ret
          exact ⟨-1, rfl, by omega, by omega, fun h => by omega, hb.trans (b1.mono hb.size)⟩
        · have l2 := leftOf_le (l := leftOf x gn) (n := gm) (by omega)
          have l1 := leftOf_le (l := x) (n := gn) (by omega)
          have hz0 : 0 ≤ leftOf (leftOf x gn) gm := by omega
          have hz1 : leftOf (leftOf x gn) gm ≤ 1048576 := by omega
          have q1 : gn ≤ 1048576 := by omega
          have q2 : gm ≤ 1048576 := by omega
          have HA2 : Hid (∀ i, i < k + 1 → (ls[i]?.getD noLV).f.n ≤ 1048576 ∧ (ls[i]?.getD noLV).f.m ≤ 1048576) := fun i hi => by
            by_cases hik : i < k
            · exact HA.out i hik
            · obtain rfl : i = k := by omega
              rw [HG'.out]; exact ⟨q1, q2⟩
          clear l1 l2 hz
          go_wp2_with fail
          refine (szL_any _ _ _ _ _ _ _ _ _ _ _ _ h3 h4 hx0 hx1).mono ?_
          rintro e w1 ⟨rfl, b1⟩
          go_wp2
          go_roundw
          case rel => exact ⟨k + 1, by omega, by go_num, _, rfl, hz0, hz1, hb.trans (b1.mono hb.size), HA2.out⟩
          case measure => simp [intOf]; omega
      · obtain rfl : k = N := by omega
        go_wp2
        go_ret
        exact ⟨x, rfl, by omega, by omega, fun _ => ⟨hN2, fun i hi => HA.out i (by rw [← HN.out]; exact hi)⟩, hb⟩

/-- Six cells set in a row. -/
def six (vs : List Value) (o : Nat) (x0 x1 x2 x3 x4 x5 : Value) : List Value := (((((vs.set o x0).set (o + 1) x1).set (o + 2) x2).set (o + 3) x3).set (o + 4) x4).set (o + 5) x5
theorem six_len (vs : List Value) (o : Nat) (x0 x1 x2 x3 x4 x5 : Value) : (six vs o x0 x1 x2 x3 x4 x5).length = vs.length := by simp [six]
theorem six_ne (vs : List Value) (o : Nat) (x0 x1 x2 x3 x4 x5 : Value) (j : Nat) (h : j < o ∨ o + 6 ≤ j) : (six vs o x0 x1 x2 x3 x4 x5)[j]? = vs[j]? := by
  unfold six
  rw [List.getElem?_set_ne (by omega), List.getElem?_set_ne (by omega), List.getElem?_set_ne (by omega), List.getElem?_set_ne (by omega), List.getElem?_set_ne (by omega), List.getElem?_set_ne (by omega)]
theorem six_at (vs : List Value) (o : Nat) (x0 x1 x2 x3 x4 x5 : Value) (h : o + 6 ≤ vs.length) (r : Nat) (hr : r < 6) : (six vs o x0 x1 x2 x3 x4 x5)[o + r]? = [x0, x1, x2, x3, x4, x5][r]? := by
  have hcase : r = 0 ∨ r = 1 ∨ r = 2 ∨ r = 3 ∨ r = 4 ∨ r = 5 := by omega
  unfold six
  rcases hcase with rfl | rfl | rfl | rfl | rfl | rfl
  · simp only [Nat.add_zero]
    rw [List.getElem?_set_ne (by omega), List.getElem?_set_ne (by omega), List.getElem?_set_ne (by omega), List.getElem?_set_ne (by omega), List.getElem?_set_ne (by omega), List.getElem?_set_self (by omega)]; rfl
  · rw [List.getElem?_set_ne (by omega), List.getElem?_set_ne (by omega), List.getElem?_set_ne (by omega), List.getElem?_set_ne (by omega), List.getElem?_set_self (by simp; omega)]; rfl
  · rw [List.getElem?_set_ne (by omega), List.getElem?_set_ne (by omega), List.getElem?_set_ne (by omega), List.getElem?_set_self (by simp; omega)]; rfl
  · rw [List.getElem?_set_ne (by omega), List.getElem?_set_ne (by omega), List.getElem?_set_self (by simp; omega)]; rfl
  · rw [List.getElem?_set_ne (by omega), List.getElem?_set_self (by simp; omega)]; rfl
  · rw [List.getElem?_set_self (by simp; omega)]; rfl

/-- Block B holds N lines, of which those of gs have been laid; their lists lie in blocks p i and q i, each behind those ahead of it, from lo on. -/
structure ML (W : World) (B lo N : Nat) (gs : List LV) (p q : Nat → Nat) : Prop where
  c : ∃ vs : List Value, W.heap[B]? = some (.cells vs.toArray 192 (0, 0)) ∧ vs.length = N * 6 ∧ ∀ i, i < gs.length → ∀ r, r < 6 → vs[i * 6 + r]? = (gs[i]?.getD noLV).cs[r]?
  l : ∀ i, i < gs.length → (gs[i]?.getD noLV).f.a = some ⟨p i, 0, none⟩ ∧ (gs[i]?.getD noLV).f.c = some ⟨q i, 0, none⟩ ∧ Blk W (p i) (gs[i]?.getD noLV).f.C ∧ Blk W (q i) (gs[i]?.getD noLV).f.D ∧ (gs[i]?.getD noLV).f.C.length = (gs[i]?.getD noLV).f.n ∧ (gs[i]?.getD noLV).f.D.length = (gs[i]?.getD noLV).f.m ∧ (gs[i]?.getD noLV).f.n ≤ 1048576 ∧ (gs[i]?.getD noLV).f.m ≤ 1048576 ∧ lo ≤ p i ∧ p i < q i ∧ q i < W.heap.size ∧ ∀ j, j < i → q j < p i
  b : B < lo
  s : lo ≤ W.heap.size
theorem ML.lt {W : World} {B lo N : Nat} {gs : List LV} {p q : Nat → Nat} (h : ML W B lo N gs p q) : B < W.heap.size := by
  obtain ⟨vs, h1, _⟩ := h.c
  exact lt_of_block h1
theorem ML.below {W W' : World} {B lo N : Nat} {gs : List LV} {p q : Nat → Nat} (h : ML W B lo N gs p q) (b : Below W.heap.size W W') : ML W' B lo N gs p q := by
  obtain ⟨vs, h1, h2, h3⟩ := h.c
  refine ⟨⟨vs, by rw [b.block B (lt_of_block h1)]; exact h1, h2, h3⟩, fun i hi => ?_, h.b, Nat.le_trans h.s b.size⟩
  obtain ⟨a2, a3, a4, a5, a6, a7, a8, a9, a10, a11, a12, a13⟩ := h.l i hi
  have := b.size
  exact ⟨a2, a3, a4.below b, a5.below b, a6, a7, a8, a9, a10, a11, by omega, a13⟩
theorem ML.g {W : World} {B lo N : Nat} {gs : List LV} {p q : Nat → Nat} (h : ML W B lo N gs p q) : LinesG W (some ⟨B, 0, none⟩) gs := by
  intro i hi
  obtain ⟨vs, h1, h2, h3⟩ := h.c
  obtain ⟨a2, a3, a4, a5, a6, a7, a8, a9, _⟩ := h.l i hi
  refine ⟨B, 0, rfl, fun r hr => ?_, ⟨?_, ?_, a8, a9⟩⟩
  · rw [Nat.zero_add, ← h3 i hi r hr]
    simp [World.cell?, h1]
  · rw [a2, ← a6]; exact a4.ints
  · rw [a3, ← a7]; exact a5.ints

/-- One line more is laid. -/
theorem ML.step {W W1 : World} {B lo N k P Q : Nat} {gs : List LV} {p q : Nat → Nat} {kind pot skip : Int} {C D : List Int} {n m : Nat} {K : Int} (h : ML W B lo N gs p q) (hk : gs.length = k) (hkN : k < N) (b : Below W.heap.size W W1) (hP : W.heap.size ≤ P) (hPQ : P < Q) (k1 : Blk W1 P C) (k2 : Blk W1 Q D) (hC : C.length = n) (hD : D.length = m) (hn : n ≤ 1048576) (hm : m ≤ 1048576) :
    ML ((((((W1.setCell ⟨B, k * 6, none⟩ (.int .i64 kind)).setCell ⟨B, k * 6 + 1, none⟩ (.int .i64 pot)).setCell ⟨B, k * 6 + 2, none⟩ (.int .i64 skip)).setCell ⟨B, k * 6 + 3, none⟩ (.slice (some ⟨P, 0, none⟩) n n)).setCell ⟨B, k * 6 + 4, none⟩ (.slice (some ⟨Q, 0, none⟩) m m)).setCell ⟨B, k * 6 + 5, none⟩ (.int .i64 K)) B lo N (gs ++ [⟨kind, pot, skip, ⟨some ⟨P, 0, none⟩, n, n, some ⟨Q, 0, none⟩, m, m, K, C, D⟩⟩]) (fun i => if i = k then P else p i) (fun i => if i = k then Q else q i) := by
  have hB := h.lt
  have hb := h.b
  have hs := h.s
  have h' := h.below b
  obtain ⟨vs, v1, v2, v3⟩ := h'.c
  have kP : P ≠ B := by omega
  have kQ : Q ≠ B := by omega
  have lP := k1.lt
  have lQ := k2.lt
  refine ⟨⟨six vs (k * 6) (.int .i64 kind) (.int .i64 pot) (.int .i64 skip) (.slice (some ⟨P, 0, none⟩) n n) (.slice (some ⟨Q, 0, none⟩) m m) (.int .i64 K), ?_, by rw [six_len]; exact v2, fun i hi r hr => ?_⟩, fun i hi => ?_, h.b, ?_⟩
  · have c0 : Cel W1 B vs 192 := v1
    exact ((((((c0.set _ _).set _ _).set _ _).set _ _).set _ _).set _ _)
  · rw [List.length_append, hk] at hi
    simp only [List.length_cons, List.length_nil] at hi
    by_cases e : i = k
    · subst e
      rw [six_at _ _ _ _ _ _ _ _ (by rw [v2]; omega) r hr, List.getElem?_append_right (by omega), hk]
      simp [LV.cs]
    · rw [six_ne _ _ _ _ _ _ _ _ _ (by omega), List.getElem?_append_left (by omega)]
      exact v3 i (by omega) r hr
  · rw [List.length_append, hk] at hi
    simp only [List.length_cons, List.length_nil] at hi
    have hsz : ((((((W1.setCell ⟨B, k * 6, none⟩ (.int .i64 kind)).setCell ⟨B, k * 6 + 1, none⟩ (.int .i64 pot)).setCell ⟨B, k * 6 + 2, none⟩ (.int .i64 skip)).setCell ⟨B, k * 6 + 3, none⟩ (.slice (some ⟨P, 0, none⟩) n n)).setCell ⟨B, k * 6 + 4, none⟩ (.slice (some ⟨Q, 0, none⟩) m m)).setCell ⟨B, k * 6 + 5, none⟩ (.int .i64 K)).heap.size = W1.heap.size := by rw [size_setCell, size_setCell, size_setCell, size_setCell, size_setCell, size_setCell]
    rw [hsz]
    by_cases e : i = k
    · subst e
      rw [List.getElem?_append_right (by omega), hk]
      simp only [Nat.sub_self, List.getElem?_cons_zero, Option.getD_some, if_true]
      refine ⟨trivial, trivial, ?_, ?_, hC, hD, hn, hm, by omega, hPQ, lQ, fun j hj => ?_⟩
      · exact (((((k1.setOther kP _ _).setOther kP _ _).setOther kP _ _).setOther kP _ _).setOther kP _ _).setOther kP _ _
      · exact (((((k2.setOther kQ _ _).setOther kQ _ _).setOther kQ _ _).setOther kQ _ _).setOther kQ _ _).setOther kQ _ _
      · rw [if_neg (by omega)]
        obtain ⟨a2, a3, a4, a5, a6, a7, a8, a9, a10, a11, a12, a13⟩ := h.l j (by omega)
        omega
    · rw [List.getElem?_append_left (by omega), if_neg e, if_neg e]
      obtain ⟨a2, a3, a4, a5, a6, a7, a8, a9, a10, a11, a12, a13⟩ := h'.l i (by omega)
      have e1 : p i ≠ B := by omega
      have e2 : q i ≠ B := by omega
      refine ⟨a2, a3, ?_, ?_, a6, a7, a8, a9, a10, a11, a12, fun j hj => ?_⟩
      · exact (((((a4.setOther e1 _ _).setOther e1 _ _).setOther e1 _ _).setOther e1 _ _).setOther e1 _ _).setOther e1 _ _
      · exact (((((a5.setOther e2 _ _).setOther e2 _ _).setOther e2 _ _).setOther e2 _ _).setOther e2 _ _).setOther e2 _ _
      · rw [if_neg (by omega)]; exact a13 j hj
  · rw [size_setCell, size_setCell, size_setCell, size_setCell, size_setCell, size_setCell]; exact h'.s

/-- One list of lines holds what the other does. -/
def copiesL (ls gs : List LV) : Prop := ∀ i, i < gs.length → (gs[i]?.getD noLV).kind = (ls[i]?.getD noLV).kind ∧ (gs[i]?.getD noLV).pot = (ls[i]?.getD noLV).pot ∧ (gs[i]?.getD noLV).skip = (ls[i]?.getD noLV).skip ∧ (gs[i]?.getD noLV).f.C = (ls[i]?.getD noLV).f.C ∧ (gs[i]?.getD noLV).f.D = (ls[i]?.getD noLV).f.D ∧ (gs[i]?.getD noLV).f.K = (ls[i]?.getD noLV).f.K ∧ (gs[i]?.getD noLV).f.n = (ls[i]?.getD noLV).f.n ∧ (gs[i]?.getD noLV).f.m = (ls[i]?.getD noLV).f.m

theorem Tryz.infoLine : (Tryz.prog.info? 192).map (fun i => (i.zero, i.size, i.bytes)) = some (some (.agg #[.int .i64 0, .int .i64 0, .int .i64 0, .slice none 0 0, .slice none 0 0, .int .i64 0]), 6, 80) := by kernel_rfl

set_option maxHeartbeats 1600000 in
theorem toLS_any (ad : Option Addr) (N cap : Nat) (ls : List LV) (w : World) (hN : ls.length = N) (hF : LinesG w ad ls) (hN1 : N ≤ 1048576) :
    Calls Tryz.prog 103 #[.slice ad N cap] w fun e w' => ∃ gs p q, e = .returned (.slice (some ⟨w.heap.size, 0, none⟩) N N) ∧ gs.length = N ∧ copiesL ls gs ∧ Below w.heap.size w w' ∧ ML w' w.heap.size (w.heap.size + 1) N gs p q := by
  have HN : Hid (ls.length = N) := hN
  clear hN
  obtain ⟨i0, hi, hz0, hz1, hz2⟩ := info_parts Tryz.infoLine
  go_enter Tryz.func103, Tryz.ntmps103
  go_wp2_with (at_make; refine wpList_make_full _ rfl (.tmp 6) (.tmp 6) 131 rfl w.heap.size 192 i0 (.agg #[.int .i64 0, .int .i64 0, .int .i64 0, .slice none 0 0, .slice none 0 0, .int .i64 0]) 6 Tryz.underlying131 hi hz0 hz1 .i64 .i64 _ _ N rfl rfl rfl rfl (by rw [hz2]; omega) (by unfold maxLen; omega) (Nat.le_refl _) ?_; intro w1 hown hgrow)
  have hb1 : Below w.heap.size w w1 := (Below.refl _ _).grown hgrow (Nat.le_refl _) (by simp)
  have m0 : ML w1 w.heap.size (w.heap.size + 1) N [] (fun _ => 0) (fun _ => 0) := by
    rcases hown.2 with ⟨h', _⟩ | ⟨g', cap', cur, h', _, hg, _, _, hcs, htake⟩
    · simp at h'
    · simp only [Value.slice.injEq, Option.some.injEq, Addr.mk.injEq, and_true, true_and] at h'
      obtain ⟨rfl, rfl⟩ := h'
      have hl : w.heap.size < w1.heap.size := lt_of_block hg
      exact ⟨⟨cur.toList, by rw [hg], by simpa using hcs, fun i hi => by simp at hi⟩, fun i hi => by simp at hi, by omega, by omega⟩
  clear hown hgrow hi hz0 hz1 hz2
  go_loopw [4] (fun i wr => ∃ k : Nat, k ≤ N ∧ i = .int .i64 k ∧ Below w.heap.size w wr ∧ ∃ gs p q, gs.length = k ∧ copiesL ls gs ∧ ML wr w.heap.size (w.heap.size + 1) N gs p q) (fun i _ => N - (intOf i).toNat)
  case atStart => exact ⟨0, Nat.zero_le _, rfl, hb1, [], _, _, rfl, fun i hi => by simp at hi, m0⟩
  case round =>
    clear hb1 m0
    obtain ⟨k, hk, rfl, hb, gs, p, q, hgs, hcp, hm⟩ := hrel
    have HGS : Hid (gs.length = k) := hgs
    have HCP : Hid (copiesL ls gs) := hcp
    clear hgs hcp
    by_cases hlt : k < N
    · obtain ⟨b, off, rfl, hc, hA⟩ := (hF.below hb) k (by rw [HN.out]; exact hlt)
      generalize HG : ls[k]?.getD noLV = g at *
      have HG' : Hid (ls[k]?.getD noLV = g) := HG
      clear HG hF
      obtain ⟨e0, e1, e2, e3, e4, e5⟩ := six_of hc
      obtain ⟨gk, gp, gz, ⟨ga, gn, gcap, gc, gm, gcap', gK, gC, gD⟩⟩ := g
      obtain ⟨iC, iD, i1, i2⟩ := hA
      simp only at e0 e1 e2 e3 e4 e5 iC iD i1 i2
      clear hc
      go_wp2_with fail
      refine (toL_any _ _ _ _ _ _ _ _ _ _ gC gD _ iC iD i1 i2).mono ?_
      rintro ee w2 ⟨P, Q, rfl, b2, hP, hPQ, k1, k2⟩
      have ms := hm.step (kind := gk) (pot := gp) (skip := gz) (K := gK) HGS.out hlt b2 hP hPQ k1 k2 iC.1 iD.1 i1 i2
      have hm2 := hm.below b2
      obtain ⟨vs, v1, v2, v3⟩ := hm2.c
      have c0 : Cel w2 w.heap.size vs 192 := v1
      have hx : ∀ r, r < 6 → ∃ x, w2.cell? ⟨w.heap.size, k * 6 + r, none⟩ = some x := fun r hr => ⟨_, (c0.cell (k * 6 + r)).trans (List.getElem?_eq_getElem (by rw [v2]; omega))⟩
      obtain ⟨x0, y0⟩ := hx 0 (by omega)
      obtain ⟨x1, y1⟩ := hx 1 (by omega)
      obtain ⟨x2, y2⟩ := hx 2 (by omega)
      obtain ⟨x3, y3⟩ := hx 3 (by omega)
      obtain ⟨x4, y4⟩ := hx 4 (by omega)
      obtain ⟨x5, y5⟩ := hx 5 (by omega)
      simp only [Nat.add_zero] at y0
      have f0 := c0.free (k * 6)
      have f1 := c0.free (k * 6 + 1)
      have f2 := c0.free (k * 6 + 2)
      have f3 := c0.free (k * 6 + 3)
      have f4 := c0.free (k * 6 + 4)
      have f5 := c0.free (k * 6 + 5)
      have hb2 := hb.trans (b2.mono hb.size)
      have RB := (((((hb2.setCell (p := ⟨w.heap.size, k * 6, none⟩) (Nat.le_refl _) (.int .i64 gk)).setCell (p := ⟨w.heap.size, k * 6 + 1, none⟩) (Nat.le_refl _) (.int .i64 gp)).setCell (p := ⟨w.heap.size, k * 6 + 2, none⟩) (Nat.le_refl _) (.int .i64 gz)).setCell (p := ⟨w.heap.size, k * 6 + 3, none⟩) (Nat.le_refl _) (.slice (some ⟨P, 0, none⟩) gn gn)).setCell (p := ⟨w.heap.size, k * 6 + 4, none⟩) (Nat.le_refl _) (.slice (some ⟨Q, 0, none⟩) gm gm)).setCell (p := ⟨w.heap.size, k * 6 + 5, none⟩) (Nat.le_refl _) (.int .i64 gK)
      have CP : copiesL ls (gs ++ [⟨gk, gp, gz, ⟨some ⟨P, 0, none⟩, gn, gn, some ⟨Q, 0, none⟩, gm, gm, gK, gC, gD⟩⟩]) := fun i hi => by
        rw [List.length_append, HGS.out] at hi
        simp only [List.length_cons, List.length_nil] at hi
        by_cases e : i = k
        · subst e
          rw [List.getElem?_append_right (by rw [HGS.out]; exact Nat.le_refl _), HGS.out, HG'.out]
          simp
        · rw [List.getElem?_append_left (by rw [HGS.out]; omega)]
          exact HCP.out i (by rw [HGS.out]; omega)
      have HCP2 : Hid _ := CP
      clear hm hm2 b2 hb hb2 iC iD e0 e1 e2 e3 e4 e5 k1 k2 c0 v1 v2 v3 hx CP
      go_wp2
      go_roundw
      case rel => exact ⟨k + 1, by omega, by go_num, RB, _, _, _, by rw [List.length_append, HGS.out]; rfl, HCP2.out, ms⟩
      case measure => simp [intOf]; omega
    · obtain rfl : k = N := by omega
      go_wp2
      go_ret
      exact ⟨gs, p, q, rfl, HGS.out, HCP.out, hb, hm⟩

/-- Two lines are the same. -/
def sameL (f g : LV) : Prop := f.kind = g.kind ∧ f.pot = g.pot ∧ f.skip = g.skip ∧ eqF f.f.C f.f.D f.f.K g.f.C g.f.D g.f.K = true

set_option maxHeartbeats 1600000 in
/-- Held against a slice that holds the same, line by line. -/
theorem eqLS_same (ad ae : Option Addr) (N cap cap' : Nat) (fs gs : List LV) (w : World) (hN : fs.length = N) (hM : gs.length = N) (hF : LinesG w ad fs) (hG : LinesG w ae gs) (hN1 : N ≤ 1048576)
    (hsame : ∀ i, i < N → sameL (fs[i]?.getD noLV) (gs[i]?.getD noLV)) :
    Calls Tryz.prog 114 #[.slice ad N cap, .slice ae N cap'] w fun e w' => e = .returned (.bool true) ∧ Below w.heap.size w w' := by
  have HN : Hid (fs.length = N) := hN
  have HM : Hid (gs.length = N) := hM
  have HS : Hid _ := hsame
  clear hN hM hsame
  go_enter Tryz.func114, Tryz.ntmps114
  go_wp2_with fail
  go_loopw [5] (fun i wr => ∃ k : Nat, k ≤ N ∧ i = .int .i64 k ∧ Below w.heap.size w wr) (fun i _ => N - (intOf i).toNat)
  case atStart => exact ⟨0, Nat.zero_le _, rfl, Below.refl _ _⟩
  case round =>
    obtain ⟨k, hk, rfl, hb⟩ := hrel
    by_cases hlt : k < N
    · obtain ⟨b, off, rfl, hc, e3⟩ := (hF.below hb) k (by rw [HN.out]; exact hlt)
      obtain ⟨b', off', rfl, hc', d3⟩ := (hG.below hb) k (by rw [HM.out]; exact hlt)
      have hs := HS.out k hlt
      generalize HG1 : fs[k]?.getD noLV = f at *
      generalize HG2 : gs[k]?.getD noLV = g at *
      clear HG1 HG2 hF hG
      obtain ⟨x0, x1, x2, x3, x4, x5⟩ := six_of hc
      obtain ⟨y0, y1, y2, y3, y4, y5⟩ := six_of hc'
      obtain ⟨fk, fp, fz, ⟨fa, fn, fcap, fc, fm, fcap', fK, fC, fD⟩⟩ := f
      obtain ⟨gk, gp, gz, ⟨ga, gn, gcap, gc, gm, gcap', gK, gC, gD⟩⟩ := g
      obtain ⟨iC, iD, i1, i2⟩ := e3
      obtain ⟨jC, jD, j1, j2⟩ := d3
      obtain ⟨z1, z2, z3, z4⟩ := hs
      simp only at x0 x1 x2 x3 x4 x5 y0 y1 y2 y3 y4 y5 iC iD jC jD i1 i2 j1 j2 z1 z2 z3 z4
      subst z1 z2 z3
      clear hc hc'
      have hlt' : (k : Int) < (N : Int) := by omega
      go_wp2_with fail
      go_region_with (first | (go_at_call 159; refine (eqL_same _ _ _ _ _ _ _ _ _ _ fC fD _ _ _ _ _ _ _ gC gD _ (by exact iC.below (Below.refl _ _).drew) (by exact iD.below (Below.refl _ _).drew) (by exact jC.below (Below.refl _ _).drew) (by exact jD.below (Below.refl _ _).drew) i1 i2 j1 j2 z4).mono ?_; rintro ee w1 ⟨rfl, b1⟩))
      all_goals
        have b1' := below_of_drew b1
        go_wp2
        go_roundw
        case rel => exact ⟨k + 1, by omega, by go_num, hb.trans (b1'.mono hb.size)⟩
        case measure => simp [intOf]; omega
    · go_wp2
      go_ret
      exact ⟨rfl, hb⟩

end Go.Proofs.YtacjjhfbnbmnlaaGreatDoor

