/-
  Lemmas that the claim's last text rests on.
-/
import Derived.Test.YtfmpcihghlnlnaaGreatDoorQH
namespace Go.Proofs.YtfmpcihghlnlnaaGreatDoor
open Go.RowKit Go.ChangeShapes Go.WideShapes Go.ChangeAt Go.Joins Go.Deep
open Option.some renaming injEq → qA
open Addr.mk renaming injEq → qB
open World renaming size_alloc → qC
open List renaming getElem?_append_left → qD
set_option linter.unusedVariables false
set_option maxRecDepth 100000
set_option maxHeartbeats 25600000
variable {C D zs : List Int} {G base cap cap' m n : Nat} {K : Int} {T : List Frm} {W W' : World} {a c : Option Addr} {xs : List Value}
theorem own_below {e : TypeId} {s : Nat} {v : Value} (h : W.ownsRow base e s v n xs) (b : Below W.heap.size W W') : W'.ownsRow base e s v n xs := by
  refine ⟨h.1, ?_⟩
  rcases h.2 with h0 | ⟨g, cap, cur, hv, hb, hg, hr⟩
  · exact .inl h0
  · exact .inr ⟨g, cap, cur, hv, hb, by rw [b.block g (lt_of_block hg)]; exact hg, hr⟩
theorem own_cell {g s : Nat} {e : TypeId} (h : W.ownsRow base e s (.slice (some ⟨g, 0, none⟩) n cap) n xs) (j : Nat) (hj : j < n * s) : W.cell? ⟨g, j, none⟩ = xs[j]? := by
  rcases h.2 with ⟨h', _⟩ | ⟨g', cap', cur, h', _, hg, _, _, hcs, htake⟩
  · simp at h'
  · simp only [Value.slice.injEq, qA, qB, and_true, true_and] at h'
    obtain ⟨rfl, rfl⟩ := h'
    have e : cur[j]? = xs[j]? := by
      rw [<- htake, List.getElem?_take_of_lt hj]
      simp
    simp only [World.cell?, hg]
    exact e
theorem Ints.grown (h : Ints W a n zs) (hg : W.grownBy W' (some G)) (hx : ∀ b o, a = some ⟨b, o, none⟩ -> b ≠ G) : Ints W' a n zs := by
  refine ⟨h.1, fun j hj => ?_⟩
  obtain ⟨b, off, hab, hc⟩ := h.2 j hj
  refine ⟨b, off, hab, ?_⟩
  rw [hg.cell_far ⟨b, off + j, none⟩ (block_lt hc) (by simpa using hx b off hab)]
  exact hc
theorem Ints.blt (h : Ints W a n zs) (hn : 0 < n) (b o : Nat) (e : a = some ⟨b, o, none⟩) : b < W.heap.size := by
  obtain ⟨b', o', e', hc⟩ := h.2 0 hn
  rw [e] at e'
  simp only [qA, qB, and_true] at e'
  rw [e'.1]
  exact block_lt hc
def TermsOk (W : World) (G : Nat) (xs : List Value) (T : List Frm) (n : Nat) : Prop :=
  ∀ j, j < n -> ∃ a' c' ca cc, xs[j * 3]? = some (.slice a' 3 ca) /\ xs[j * 3 + 1]? = some (.slice c' 2 cc) /\ xs[j * 3 + 2]? = some (.int .i64 (T[j]?.getD ([], [], 0)).2.2) /\ Ints W a' 3 (T[j]?.getD ([], [], 0)).1 /\ Ints W c' 2 (T[j]?.getD ([], [], 0)).2.1 /\ (∀ b o, a' = some ⟨b, o, none⟩ -> b ≠ G) /\ (∀ b o, c' = some ⟨b, o, none⟩ -> b ≠ G)
theorem TermsOk.below (h : TermsOk W G xs T n) (b : Below W.heap.size W W') : TermsOk W' G xs T n := fun j hj => by
  obtain ⟨a', c', ca, cc, e0, e1, e2, i1, i2, n1, n2⟩ := h j hj
  exact ⟨a', c', ca, cc, e0, e1, e2, i1.below b, i2.below b, n1, n2⟩
theorem TermsOk.step {g : Nat} (h : TermsOk W G xs T n) (hl : xs.length = n * 3) (hg : W.grownBy W' (some G)) (hat : g = G \/ W.heap.size <= g) {B1 B2 ca cc : Nat} {C D : List Int} {K : Int}
    (k1 : Ints W (some ⟨B1, 0, none⟩) 3 C) (k2 : Ints W (some ⟨B2, 0, none⟩) 2 D) (n1 : B1 ≠ G) (n2 : B2 ≠ G) (hT : T[n]?.getD ([], [], 0) = (C, D, K)) :
    TermsOk W' g (xs ++ [.slice (some ⟨B1, 0, none⟩) 3 ca, .slice (some ⟨B2, 0, none⟩) 2 cc, .int .i64 K]) T (n + 1) := fun j hj => by
  have l1 := k1.blt (by omega) B1 0 rfl
  have l2 := k2.blt (by omega) B2 0 rfl
  by_cases hjn : j < n
  · obtain ⟨a', c', ca, cc, e0, e1, e2, i1, i2, m1, m2⟩ := h j hjn
    refine ⟨a', c', ca, cc, ?_, ?_, ?_, i1.grown hg m1, i2.grown hg m2, fun b o e => ?_, fun b o e => ?_⟩
    · rw [qD (by omega)]; exact e0
    · rw [qD (by omega)]; exact e1
    · rw [qD (by omega)]; exact e2
    · have := m1 b o e
      have := i1.blt (by omega) b o e
      omega
    · have := m2 b o e
      have := i2.blt (by omega) b o e
      omega
  · obtain rfl : j = n := by omega
    rw [hT]
    refine ⟨some ⟨B1, 0, none⟩, some ⟨B2, 0, none⟩, ca, cc, ?_, ?_, ?_, k1.grown hg (fun b o e => ?_), k2.grown hg (fun b o e => ?_), fun b o e => ?_, fun b o e => ?_⟩
    · rw [List.getElem?_append_right (by omega), hl]; simp
    iterate 2
      · rw [List.getElem?_append_right (by omega), hl, Nat.add_sub_cancel_left]; rfl
    all_goals
      simp only [qA, qB, and_true] at e
      omega
theorem TermsOk.forms (h : TermsOk W G xs T n) (hT : T.length = n) (ho : W.ownsRow base 106 3 (.slice (some ⟨G, 0, none⟩) n cap) n xs) : FormsAt W (some ⟨G, 0, none⟩) T := fun i hi => by
  obtain ⟨a', c', ca, cc, e0, e1, e2, i1, i2, _, _⟩ := h i (by omega)
  refine ⟨G, 0, rfl, a', c', ca, cc, ?_, ?_, ?_, i1, i2⟩
  · rw [own_cell ho _ (by omega), Nat.zero_add]; exact e0
  · rw [own_cell ho _ (by omega), Nat.zero_add]; exact e1
  · rw [own_cell ho _ (by omega), Nat.zero_add]; exact e2
theorem terms_at {fs : List FV} {k : Nat} (h : k < 3) : (terms C D K fs)[k + 1]?.getD ([], [], 0) = (mulL (C[k]?.getD 0) (fs[k]?.getD noFV).C, mulL (C[k]?.getD 0) (fs[k]?.getD noFV).D, C[k]?.getD 0 * (fs[k]?.getD noFV).K) := by
  match k, h with
  | 0, _ => rfl
  | 1, _ => rfl
  | 2, _ => rfl
theorem mulL_bnd {n P : Int} (h : bndT P n zs) (h0 : 0 <= P := by omega) : bnd P (mulL n zs) := fun i => by
  by_cases hi : i < zs.length
  · rw [mulL_get hi]; exact h i
  · have : (mulL n zs)[i]? = none := List.getElem?_eq_none (by rw [mulL_len]; omega)
    rw [this]
    simp only [Option.getD_none]
    omega
theorem terms_fit {fs : List FV} (hD : D.length = 2) (bC : bnd 10000000 C) (bD : bnd 10000000 D) (k1 : -10000000 <= K) (k2 : K <= 10000000) (ho : ∀ i, i < 3 -> OkF (fs[i]?.getD noFV)) : ∀ i, i < (terms C D K fs).length -> fits 100000000000000 ((terms C D K fs)[i]?.getD ([], [], 0)) := fun i hi => by
  have hl : (terms C D K fs).length = 4 := rfl
  match i, hi with
  | 0, _ => exact ⟨rfl, hD, fun i => by have := bnd_zeros 3 i; simp only [List.replicate] at this; show -100000000000000 <= ([0, 0, 0] : List Int)[i]?.getD 0 /\ ([0, 0, 0] : List Int)[i]?.getD 0 <= 100000000000000; omega, fun i => by have := bD i; show -100000000000000 <= D[i]?.getD 0 /\ D[i]?.getD 0 <= 100000000000000; omega, by show -100000000000000 <= K; omega, by show K <= 100000000000000; omega⟩
  | j + 1, hj =>
    have hj' : j < 3 := by omega
    rw [terms_at hj']
    have g := ho j hj'
    have bc := bC j
    have tK := mul_bnd bc.1 bc.2 g.k1 g.k2
    exact ⟨by simp only [mulL_len]; exact g.lC, by simp only [mulL_len]; exact g.lD, mulL_bnd (mulT_bnd g.bC bc.1 bc.2), mulL_bnd (mulT_bnd g.bD bc.1 bc.2), tK.1, tK.2⟩
theorem iinto_no (a : Option Addr) (n cap : Nat) (c : Option Addr) (m cap' : Nat) (K : Int) (C D : List Int) (ad : Option Addr) (N capN : Nat) (fs : List FV) (w : World) (hC : Ints w a n C) (hD : Ints w c m D) (hn : n <= 1048576) (hm : m <= 1048576)
    (hN : fs.length = N) (hF : FormsG w ad fs) (hN1 : N <= 1048576) (hno : (formB n m C D K && decide (N = 3) && fs.all FV.ok) = false) :
    Calls Tryz.prog 168 #[formV a n cap c m cap' K, .slice ad N capN] w fun e w' => Res w w' e [] [] 0 := by
  have n0 := IH.new (w := w) (a := a) (n := n) (cap := cap) (c := c) (m := m) (cap' := cap') (K := K)
  by_cases h2 : (N : Int) = 3
  · have h2' : ((N : Int) != 3) = false := by simpa using h2
    have hN3 : N = 3 := by omega
    have HN3 : Hid (N = 3) := hN3
    clear h2 hN3
    cases h1 : formB n m C D K
    · clear hno
      go_enter Tryz.func168, Tryz.ntmps168
      go_wp2_with fail
      refine (iok_any C D (hC.below n0.b) (hD.below n0.b) hn hm).mono ?_
      rintro e w1 ⟨rfl, b1⟩
      have H := n0.below b1
      obtain ⟨r0, r1, r2, r3, r4, r5⟩ := H.room
      go_wp2
      exact bodyPost_ret (v := formV none 0 0 none 0 0 0) (by simp [results, Tryz.results168, go_sem, r0, r1, r2]) rfl H.none
    · have hno' : fs.all FV.ok = false := by simpa [h1, HN3.out] using hno
      clear hno
      go_enter Tryz.func168, Tryz.ntmps168
      go_wp2_with fail
      refine (iok_any C D (hC.below n0.b) (hD.below n0.b) hn hm).mono ?_
      rintro e w1 ⟨rfl, b1⟩
      have H1 := n0.below b1
      go_wp2_with fail
      refine (allForms_any _ fs hN (hF.below H1.b) hN1).mono ?_
      rintro e w2 ⟨rfl, b2⟩
      rw [hno']
      have H := H1.below b2
      obtain ⟨r0, r1, r2, r3, r4, r5⟩ := H.room
      go_wp2
      exact bodyPost_ret (v := formV none 0 0 none 0 0 0) (by simp [results, Tryz.results168, go_sem, r0, r1, r2]) rfl H.none
  · clear hno
    have h2' : ((N : Int) != 3) = true := by simpa using h2
    obtain ⟨r0, r1, r2, r3, r4, r5⟩ := n0.room
    go_enter Tryz.func168, Tryz.ntmps168
    go_wp2
    exact bodyPost_ret (v := formV none 0 0 none 0 0 0) (by simp [results, Tryz.results168, go_sem, r0, r1, r2]) rfl (Res.none rfl n0.b)
theorem iinto_yes (a : Option Addr) (cap : Nat) (c : Option Addr) (cap' : Nat) (K : Int) (C D : List Int) (b off capN : Nat) (fs : List FV) (w : World) (hC : Ints w a 3 C) (hD : Ints w c 2 D)
    (hN : fs.length = 3) (hF : FormsG w (some ⟨b, off, none⟩) fs) (h1 : formB 3 2 C D K = true) (hall : fs.all FV.ok = true) :
    Calls Tryz.prog 168 #[formV a 3 cap c 2 cap' K, .slice (some ⟨b, off, none⟩) 3 capN] w fun e w' => Res w w' e (keepL (formB 3 2 (intoC C fs 3) (intoD C D fs 3) (intoK C K fs 3)) (intoC C fs 3)) (keepL (formB 3 2 (intoC C fs 3) (intoD C D fs 3) (intoK C K fs 3)) (intoD C D fs 3)) (keepK (formB 3 2 (intoC C fs 3) (intoD C D fs 3) (intoK C K fs 3)) (intoK C K fs 3)) := by
  have n0 := IH.new (w := w) (a := a) (n := 3) (cap := cap) (c := c) (m := 2) (cap' := cap') (K := K)
  obtain ⟨-, -, bC, bD, bK1, bK2⟩ := formB_elim h1
  have hg : ∀ i, i < 3 -> ∃ x : FV, x = fs[i]?.getD noFV /\ OkF x /\ x.ok = true /\ x.At w /\ w.cell? ⟨b, off + i * 3, none⟩ = some (.slice x.a x.n x.cap) /\ w.cell? ⟨b, off + i * 3 + 1, none⟩ = some (.slice x.c x.m x.cap') /\ w.cell? ⟨b, off + i * 3 + 2, none⟩ = some (.int .i64 x.K) := fun i hi => by
    obtain ⟨b', off', hb', q0, q1, q2, A1⟩ := hF i (by omega)
    simp only [qA, qB, and_true] at hb'
    obtain ⟨rfl, rfl⟩ := hb'
    have ok : (fs[i]?.getD noFV).ok = true := by
      rw [List.all_eq_true] at hall
      rw [List.getElem?_eq_getElem (by omega)]
      exact hall _ (List.getElem_mem _)
    exact ⟨_, rfl, OkF.of A1 ok, ok, A1, q0, q1, q2⟩
  have ho : ∀ i, i < 3 -> OkF (fs[i]?.getD noFV) := fun i hi => by
    obtain ⟨x, rfl, h, _⟩ := hg i hi; exact h
  have HI : Hid _ := IntoF.of hD.1 bC bD bK1 bK2 ho 3 (by omega)
  have HT : Hid _ := terms_fit (K := K) hD.1 bC bD bK1 bK2 ho
  have HS : Hid _ := terms_sum (C := C) (K := K) (fs := fs) hD.1
  have HG : Hid _ := hg
  obtain ⟨lb0, _⟩ : b < w.heap.size /\ True := by
    obtain ⟨x, rfl, _, _, _, q0, _⟩ := hg 0 (by omega)
    exact ⟨block_lt q0, trivial⟩
  clear hg ho
  obtain ⟨cb, co, rfl, hDc⟩ := hD.pos (by omega)
  obtain ⟨ab, ao, rfl, hCc⟩ := hC.pos (by omega)
  have lcb := hD.blt (by omega) cb co rfl
  have lab0 := hC.blt (by omega) ab ao rfl
  clear hDc hCc
  obtain ⟨i0, hi, hz0, hz1, hz2⟩ := info_parts Tryz.infoForm
  go_enter Tryz.func168, Tryz.ntmps168
  go_wp2_with fail
  refine (iok_any C D (hC.below n0.b) (hD.below n0.b) (by omega) (by omega)).mono ?_
  rintro e w1 ⟨rfl, b1⟩
  have H1 := n0.below b1
  clear n0 b1
  go_wp2_with fail
  refine (allForms_any _ fs hN (hF.below H1.b) (by omega)).mono ?_
  rintro e w2 ⟨rfl, b2⟩
  rw [hall]
  have H2 := H1.below b2
  have G2 := H2.cells
  clear H1 b2 hall hF hN
  go_wp2_with fail
  refine (without_any).mono ?_
  rintro e w3 ⟨P, rfl, b3, hP, kP⟩
  have H3 := H2.below b3
  have A2 := H2.b.size
  have A3 := b3.size
  have A4 := H3.r.lt
  clear G2
  have HT0 : TermsOk (w3.alloc (Obj.cells #[Value.slice (some ⟨P, 0, none⟩) 3 3, Value.slice (some ⟨cb, co, none⟩) 2 cap', Value.int .i64 K] 106)) w3.heap.size [Value.slice (some ⟨P, 0, none⟩) 3 3, Value.slice (some ⟨cb, co, none⟩) 2 cap', Value.int .i64 K] (terms C D K fs) 1 := fun j hj => by
    obtain rfl : j = 0 := by omega
    have lP := kP.lt
    refine ⟨some ⟨P, 0, none⟩, some ⟨cb, co, none⟩, 3, cap', rfl, rfl, rfl, (kP.alloc _).ints' (n := 3) rfl, (hD.below H3.b).alloc _, fun x o e => ?_, fun x o e => ?_⟩
    all_goals
      simp only [qA, qB, and_true] at e
      omega
  have HO0 : (w3.alloc (Obj.cells #[Value.slice (some ⟨P, 0, none⟩) 3 3, Value.slice (some ⟨cb, co, none⟩) 2 cap', Value.int .i64 K] 106)).ownsRow (w.heap.size + 2) 106 3 (.slice (some ⟨w3.heap.size, 0, none⟩) 1 1) 1 [Value.slice (some ⟨P, 0, none⟩) 3 3, Value.slice (some ⟨cb, co, none⟩) 2 cap', Value.int .i64 K] :=
    ⟨rfl, .inr ⟨w3.heap.size, 1, _, rfl, by omega, heap_alloc_new w3 _, by omega, by unfold maxLen; omega, rfl, rfl⟩⟩
  have H4 := H3.alloc (Obj.cells #[Value.slice (some ⟨P, 0, none⟩) 3 3, Value.slice (some ⟨cb, co, none⟩) 2 cap', Value.int .i64 K] 106)
  clear H3 b3 kP H2
  go_wp2_with fail
  go_loopw [5, 6, 7, 27] (fun tv _ _ i wr => ∃ k : Nat, k <= 3 /\ i = .int .i64 k /\ IH w (some ⟨ab, ao, none⟩) 3 cap (some ⟨cb, co, none⟩) 2 cap' K wr /\ ∃ G cp xs, tv = .slice (some ⟨G, 0, none⟩) (k + 1 : Nat) cp /\ wr.ownsRow (w.heap.size + 2) 106 3 (.slice (some ⟨G, 0, none⟩) (k + 1) cp) (k + 1) xs /\ TermsOk wr G xs (terms C D K fs) (k + 1)) (fun _ _ _ i _ => 3 - (intOf i).toNat)
  case atStart => exact ⟨0, by omega, rfl, H4, _, _, _, rfl, HO0, HT0⟩
  case round =>
    clear HT0 HO0 H4 A2 A3 A4 hP
    obtain ⟨k, hk, rfl, HX, G, cp, xs, rfl, hown, hT⟩ := hrel
    by_cases hlt : k < 3
    · obtain ⟨x, hx, okf, -, A, q0, q1, q2⟩ := HG.out k hlt
      obtain ⟨xa, xn, xcap, xc, xm, xcap', xK, xC, xD⟩ := x
      obtain ⟨x1, x2, x3, x4⟩ := A
      obtain ⟨o1, o2, o3, o4, o5, o6, o7, o8⟩ := okf
      simp only at o1 o2 o3 o4 o5 o6 o7 o8 q0 q1 q2 x1 x2
      subst o1 o2
      have HX' : Hid _ := hx
      clear hx x3 x4
      have s0 := (HX.b.cell (p := ⟨b, off + k * 3, none⟩) lb0).trans q0
      have s1 := (HX.b.cell (p := ⟨b, off + k * 3 + 1, none⟩) lb0).trans q1
      have s2 := (HX.b.cell (p := ⟨b, off + k * 3 + 2, none⟩) lb0).trans q2
      have bc := bC k
      have tC := tim_bnd o5 bc.1 bc.2
      have tD := tim_bnd o6 bc.1 bc.2
      have tK := tim_num o7 o8 bc.1 bc.2
      have ET := terms_at (C := C) (D := D) (K := K) (fs := fs) hlt
      rw [<- HX'.out] at ET
      have HET : Hid _ := ET
      have hck : wr.cell? ⟨ab, ao + k, none⟩ = some (.int .i64 (C[k]?.getD 0)) := by
        obtain ⟨b', off', he, hc⟩ := (hC.below HX.b).2 k hlt
        simp only [qA, qB, and_true] at he
        obtain ⟨rfl, rfl⟩ := he
        simpa using hc
      have GX := HX.cells.1
      have hlt' : (k : Int) < 3 := by omega
      have hlt0 : (0 : Int) <= (k : Int) := by omega
      have lG := (hown.lt G rfl).2
      have lG0 := (hown.lt G rfl).1
      have lr := HX.r.lt
      have lab := block_lt hck
      clear ET bc q0 q1 q2
      generalize C[k]?.getD 0 = ck at *
      go_wp2_with fail
      obtain ⟨W1, hW1⟩ : ∃ W1, W1 = wr.alloc (Obj.cells #[Value.slice xa 3 xcap, Value.slice xc 2 xcap', Value.int .i64 xK] 106) := ⟨_, rfl⟩
      have sW1 : W1.heap.size = wr.heap.size + 1 := by rw [hW1, qC]
      have BW : Below wr.heap.size wr W1 := by rw [hW1]; exact bal
      have cW : Cel W1 wr.heap.size [Value.slice xa 3 xcap, Value.slice xc 2 xcap', Value.int .i64 xK] 106 := by rw [hW1]; exact Cel.new wr _ _
      rw [<- hW1]
      clear hW1
      have HX1 := HX.below BW
      have hT1 := hT.below BW
      have hO1 := own_below hown BW
      have GX1 := HX1.cells.1
      have hck1 := (BW.cell (p := ⟨ab, ao + k, none⟩) lab).trans hck
      obtain ⟨e0, e1, e2, -, -, -⟩ := cW.trio
      have hS1 := And.intro e0 (And.intro e1 (And.intro e2 (And.intro GX1 hck1)))
      clear hT hown HX hck GX s0 s1 s2 BW cW
      go_region_held3 (fun w' => w'.cell? ⟨wr.heap.size, 0, none⟩ = some (.slice xa 3 xcap) /\ w'.cell? ⟨wr.heap.size, 1, none⟩ = some (.slice xc 2 xcap') /\ w'.cell? ⟨wr.heap.size, 2, none⟩ = some (.int .i64 xK) /\ w'.cell? ⟨w.heap.size, 0, none⟩ = some (.slice (some ⟨ab, ao, none⟩) 3 cap) /\ w'.cell? ⟨ab, ao + k, none⟩ = some (.int .i64 ck)) (first | with_reducible assumption | exact hS1 | with_reducible exact hS5a _)
        (first
          | (go_at_call 183
             refine (times_any xC xD (by exact x1.below HX1.drew.b) (by exact x2.below HX1.drew.b) tC tD tK).mono ?_
             rintro e w5 ⟨B1, B2, rfl, b5, g1, g2, g3, k1, k2⟩
             have b5' : Below W1.heap.size W1 w5 := below_of_drew b5
             have g1' : W1.heap.size <= B1 := g1
             have g3' : W1.heap.size <= B2 := g3
             have H5 := HX1.below b5'
             have hT5 := hT1.below b5'
             have hO5 := own_below hO1 b5'
             have z5 := b5'.size
             have c0 := (b5'.cell (p := ⟨wr.heap.size, 0, none⟩) (by show wr.heap.size < W1.heap.size; omega)).trans e0
             have c1 := (b5'.cell (p := ⟨wr.heap.size, 1, none⟩) (by show wr.heap.size < W1.heap.size; omega)).trans e1
             have c2 := (b5'.cell (p := ⟨wr.heap.size, 2, none⟩) (by show wr.heap.size < W1.heap.size; omega)).trans e2
             have c3 := (b5'.cell (p := ⟨w.heap.size, 0, none⟩) (by show w.heap.size < W1.heap.size; omega)).trans GX1
             have c4 := (b5'.cell (p := ⟨ab, ao + k, none⟩) (by show ab < W1.heap.size; omega)).trans hck1
             have hS5 := And.intro c0 (And.intro c1 (And.intro c2 (And.intro c3 c4)))
             have hS5a : ∀ o, (w5.alloc o).cell? ⟨wr.heap.size, 0, none⟩ = some (.slice xa 3 xcap) /\ (w5.alloc o).cell? ⟨wr.heap.size, 1, none⟩ = some (.slice xc 2 xcap') /\ (w5.alloc o).cell? ⟨wr.heap.size, 2, none⟩ = some (.int .i64 xK) /\ (w5.alloc o).cell? ⟨w.heap.size, 0, none⟩ = some (.slice (some ⟨ab, ao, none⟩) 3 cap) /\ (w5.alloc o).cell? ⟨ab, ao + k, none⟩ = some (.int .i64 ck) := fun o => by
               have ba : Below w5.heap.size w5 (w5.alloc o) := bal
               exact ⟨(ba.cell (p := ⟨wr.heap.size, 0, none⟩) (block_lt c0)).trans c0, (ba.cell (p := ⟨wr.heap.size, 1, none⟩) (block_lt c0)).trans c1, (ba.cell (p := ⟨wr.heap.size, 2, none⟩) (block_lt c0)).trans c2, (ba.cell (p := ⟨w.heap.size, 0, none⟩) (block_lt c3)).trans c3, (ba.cell (p := ⟨ab, ao + k, none⟩) (block_lt c4)).trans c4⟩)
          | (refine step_append_lies _ (by rfl) _ _ _ (by rfl) (w.heap.size + 2) 106 i0 _ 3 56 Tryz.underlying111 hi hz0 hz1 hz2 rfl (by omega) (.slice (some ⟨G, 0, none⟩) (k + 1) cp) (k + 1) xs (by rfl) (hO5.alloc _) ⟨w5.heap.size, 0, none⟩ 1 1 [Value.slice (some ⟨B1, 0, none⟩) 3 3, Value.slice (some ⟨B2, 0, none⟩) 2 2, Value.int .i64 (ck * xK)] (by rfl) (by rfl) (World.news_of_block (cs := #[Value.slice (some ⟨B1, 0, none⟩) 3 3, Value.slice (some ⟨B2, 0, none⟩) 2 2, Value.int .i64 (ck * xK)]) (t := 106) (fr := (0, 0)) (heap_alloc_new w5 _)) (by simp [Value.oneCell']) (by omega) (by unfold maxLen; omega) (by omega) (by rw [qC]; omega) (w5.heap.size + 1) (by rw [qC]) ?_
             intro g cpg w6 hown6 hgrow hat hlt6
             have hgr : (w5.alloc (Obj.cells #[Value.slice (some ⟨B1, 0, none⟩) 3 3, Value.slice (some ⟨B2, 0, none⟩) 2 2, Value.int .i64 (ck * xK)] 106)).grownBy w6 (some G) := hgrow
             have hq := hS5a (Obj.cells #[Value.slice (some ⟨B1, 0, none⟩) 3 3, Value.slice (some ⟨B2, 0, none⟩) 2 2, Value.int .i64 (ck * xK)] 106)
             have hS6 := And.intro ((hgr.cell_far ⟨wr.heap.size, 0, none⟩ (block_lt hq.1) (by simp only [ne_eq, qA]; omega)).trans hq.1) (And.intro ((hgr.cell_far ⟨wr.heap.size, 1, none⟩ (block_lt hq.1) (by simp only [ne_eq, qA]; omega)).trans hq.2.1) (And.intro ((hgr.cell_far ⟨wr.heap.size, 2, none⟩ (block_lt hq.1) (by simp only [ne_eq, qA]; omega)).trans hq.2.2.1) (And.intro ((hgr.cell_far ⟨w.heap.size, 0, none⟩ (block_lt hq.2.2.2.1) (by simp only [ne_eq, qA]; omega)).trans hq.2.2.2.1) ((hgr.cell_far ⟨ab, ao + k, none⟩ (block_lt hq.2.2.2.2) (by simp only [ne_eq, qA]; omega)).trans hq.2.2.2.2))))))
      have hat' : g = G \/ (w5.alloc (Obj.cells #[Value.slice (some ⟨B1, 0, none⟩) 3 3, Value.slice (some ⟨B2, 0, none⟩) 2 2, Value.int .i64 (ck * xK)] 106)).heap.size <= g := by
        rw [qC]
        rcases hat with h | h
        · left
          simpa [Value.ownBlock] using h.symm
        · right; omega
      have LC : (mulL ck xC).length = 3 := by rw [mulL_len]; exact o3
      have LD : (mulL ck xD).length = 2 := by rw [mulL_len]; exact o4
      have T6 := (hT5.below ((Below.refl _ _).alloc (Nat.le_refl _) (Obj.cells #[Value.slice (some ⟨B1, 0, none⟩) 3 3, Value.slice (some ⟨B2, 0, none⟩) 2 2, Value.int .i64 (ck * xK)] 106))).step (ca := 3) (cc := 2) (K := ck * xK) hO5.1 hgr hat' ((k1.alloc _).ints' LC) ((k2.alloc _).ints' LD) (by omega) (by omega) HET.out
      have H5a := H5.alloc (Obj.cells #[Value.slice (some ⟨B1, 0, none⟩) 3 3, Value.slice (some ⟨B2, 0, none⟩) 2 2, Value.int .i64 (ck * xK)] 106)
      have H6 : IH w (some ⟨ab, ao, none⟩) 3 cap (some ⟨cb, co, none⟩) 2 cap' K w6 := by
        refine ⟨?_, ?_, H5a.b.grown hgr H5a.b.size (fun x hx => by simp only [qA] at hx; omega)⟩
        · have := hgr.block w.heap.size H5a.p.lt (by simp only [ne_eq, qA]; omega)
          unfold Cel
          rw [this]; exact H5a.p
        · have := hgr.block (w.heap.size + 1) H5a.r.lt (by simp only [ne_eq, qA]; omega)
          unfold Cel
          rw [this]; exact H5a.r
      clear hS6 hS5 hS5a hS1 hgrow hgr hat hat' c0 c1 c2 c3 c4 k1 k2 H5 H5a hT5 hO5 hT1 hO1 HX1 b5 b5' GX1 hck1 e0 e1 e2
      go_wp2
      go_roundw
      case rel => exact ⟨k + 1, by omega, by go_num, H6, g, cpg, _, rfl, hown6, T6⟩
      case measure => simp [intOf]; omega
    · obtain rfl : k = 3 := by omega
      obtain ⟨f1, f2, -, -, -, -⟩ := HI.out
      have fa := hT.forms rfl hown
      have A1 := HX.r.lt
      have A2 := HX.b.size
      go_wp2_with fail
      refine (sum_any _ 4 _ (terms C D K fs) 100000000000000 rfl fa HT.out).mono ?_
      rintro e w2 ⟨B1, B2, rfl, b2, g1, g2, g3, k1, k2⟩
      rw [HS.out.1] at k1
      rw [HS.out.2.1] at k2
      rw [HS.out.2.2]
      have H2 := HX.below b2
      clear fa b2
      cases h3 : formB 3 2 (intoC C fs 3) (intoD C D fs 3) (intoK C K fs 3)
      all_goals
        go_wp2_with fail
        first
          | (refine (orN_no (intoC C fs 3) (intoD C D fs 3) (k1.ints' f1) (k2.ints' f2) (by omega) (by omega) h3).mono ?_)
          | (refine (orN_yes (intoC C fs 3) (intoD C D fs 3) (k1.ints' f1) (k2.ints' f2) (by omega) (by omega) h3).mono ?_)
        rintro e w3 ⟨rfl, b3⟩
        have H := H2.below b3
        have k1' := k1.below b3
        have k2' := k2.below b3
        obtain ⟨r0, r1, r2, r3, r4, r5⟩ := H.room
        clear H2 k1 k2 b3
        go_wp2
      · refine bodyPost_ret (v := formV none 0 0 none 0 0 0) (by simp [results, Tryz.results168, go_sem, r0, r1, r2]) rfl ?_
        rw [h3]
        exact H.none
      · refine bodyPost_ret (v := formV (some ⟨B1, 0, none⟩) 3 3 (some ⟨B2, 0, none⟩) 2 2 (intoK C K fs 3)) (by simp [results, Tryz.results168, go_sem, r0, r1, r2]) rfl ?_
        rw [h3]
        refine Res.of (B1 := B1) (B2 := B2) rfl f1 f2 ?_ (by omega) g2 (by omega) ?_ ?_
        · exact ((H.b.setCell (by simp only []; omega) _).setCell (by simp only []; omega) _).setCell (by simp only []; omega) _
        · exact ((k1'.so).so).so
        · exact ((k2'.so).so).so
theorem sinto_any (C D : List Int) {ad : Option Addr} {N capN : Nat} (fs : List FV) {w : World} (hC : Ints w a n C) (hD : Ints w c m D) (hn : n <= 1048576) (hm : m <= 1048576)
  (hN : fs.length = N) (hF : FormsG w ad fs) (hN1 : N <= 1048576) :
  Calls Tryz.prog 130 #[formV a n cap c m cap' K, .slice ad N capN] w fun e w' => Res w w' e (keepL (intoOk n m C D K N fs) (intoC C fs 3)) (keepL (intoOk n m C D K N fs) (intoD C D fs 3)) (keepK (intoOk n m C D K N fs) (intoK C K fs 3)) := by
 cases h : (formB n m C D K && decide (N = 3) && fs.all FV.ok)
 ·have ho : intoOk n m C D K N fs = false := by unfold intoOk; rw [h]; rfl
  rw [ho]
  exact sinto_no a n cap c m cap' K C D ad N capN fs w hC hD hn hm hN hF hN1 h
 have ho : intoOk n m C D K N fs = formB 3 2 (intoC C fs 3) (intoD C D fs 3) (intoK C K fs 3) := by unfold intoOk; rw [h, Bool.true_and]
 rw [ho];simp only [Bool.and_eq_true, decide_eq_true_eq] at h;obtain ⟨⟨h1, rfl⟩, h3⟩ := h;obtain ⟨rfl, rfl, _⟩ := formB_elim h1;obtain ⟨b, off, rfl, _⟩ := hF 0 (by omega)
 exact sinto_yes a cap c cap' K C D b off capN fs w hC hD hN hF h1 h3
theorem iinto_any (C D : List Int) {ad : Option Addr} {N capN : Nat} (fs : List FV) {w : World} (hC : Ints w a n C) (hD : Ints w c m D) (hn : n <= 1048576) (hm : m <= 1048576)
  (hN : fs.length = N) (hF : FormsG w ad fs) (hN1 : N <= 1048576) :
  Calls Tryz.prog 168 #[formV a n cap c m cap' K, .slice ad N capN] w fun e w' => Res w w' e (keepL (intoOk n m C D K N fs) (intoC C fs 3)) (keepL (intoOk n m C D K N fs) (intoD C D fs 3)) (keepK (intoOk n m C D K N fs) (intoK C K fs 3)) := by
 cases h : (formB n m C D K && decide (N = 3) && fs.all FV.ok)
 ·have ho : intoOk n m C D K N fs = false := by unfold intoOk; rw [h]; rfl
  rw [ho]
  exact iinto_no a n cap c m cap' K C D ad N capN fs w hC hD hn hm hN hF hN1 h
 have ho : intoOk n m C D K N fs = formB 3 2 (intoC C fs 3) (intoD C D fs 3) (intoK C K fs 3) := by unfold intoOk; rw [h, Bool.true_and]
 rw [ho];simp only [Bool.and_eq_true, decide_eq_true_eq] at h;obtain ⟨⟨h1, rfl⟩, h3⟩ := h;obtain ⟨rfl, rfl, _⟩ := formB_elim h1;obtain ⟨b, off, rfl, _⟩ := hF 0 (by omega)
 exact iinto_yes a cap c cap' K C D b off capN fs w hC hD hN hF h1 h3
structure LV where
 kind : Int
 pot : Int
 skip : Int
 f : FV
def LV.cs (l : LV) : List Value := [.int .i64 l.kind, .int .i64 l.pot, .int .i64 l.skip, .slice l.f.a l.f.n l.f.cap, .slice l.f.c l.f.m l.f.cap', .int .i64 l.f.K]
def noLV : LV := ⟨0, 0, 0, noFV⟩
def smallB (n m : Nat) (C D : List Int) (K : Int) : Bool := okN 3 2 n C && okN 2 2 m D && inB K (-20) 20
theorem allB_mono {m m' : Int} (h : m <= m') (ha : allB m zs = true) : allB m' zs = true := by
 unfold allB at *;rw [List.all_eq_true] at *;intro x hx;have := inB_iff.1 (ha x hx)
 exact inB_iff.2 (by omega)
theorem small_ok (h : smallB n m C D K = true) : formB n m C D K = true := by
 simp only [smallB, formB, okN, Bool.and_eq_true, decide_eq_true_eq] at *;obtain ⟨⟨⟨h1, h2⟩, h3, h4⟩, h5⟩ := h
 exact ⟨⟨⟨h1, allB_mono (by omega) h2⟩, h3, allB_mono (by omega) h4⟩, inB_iff.2 (by have := inB_iff.1 h5; omega)⟩
theorem small_eq (h : formB n m C D K = true) : smallB n m C D K = (allB 2 C && allB 2 D && inB K (-20) 20) := by
 simp only [formB, okN, Bool.and_eq_true, decide_eq_true_eq] at h;obtain ⟨⟨⟨h1, _⟩, h3, _⟩, _⟩ := h;simp only [smallB, okN, h1, h3, decide_true, Bool.true_and]
theorem sSmall_any (C D : List Int) {w : World} (hC : Ints w a n C) (hD : Ints w c m D) (hn : n <= 1048576) (hm : m <= 1048576) :
  Calls Tryz.prog 135 #[formV a n cap c m cap' K] w fun e w' => e = .returned (.bool (smallB n m C D K)) /\ Below w.heap.size w w' := by
 cases h1 : okN 3 2 n C
 ·go_enter Tryz.func135, Tryz.ntmps135
  go_wp2_with fail
  refine (all_any C _ _ (hC.alloc _) hn).mono ?_;rintro e w1 ⟨rfl, rfl⟩
  go_wp2
  go_ret
  exact ⟨ret_bool (by simp [smallB, h1]), bal⟩
 cases h2 : okN 2 2 m D
 ·go_enter Tryz.func135, Tryz.ntmps135
  go_wp2_with fail
  refine (all_any C _ _ (hC.alloc _) hn).mono ?_;rintro e w1 ⟨rfl, rfl⟩
  go_wp2_with fail
  refine (all_any D _ _ (hD.alloc _) hm).mono ?_;rintro e w1 ⟨rfl, rfl⟩
  go_wp2
  go_ret
  exact ⟨ret_bool (by simp [smallB, h1, h2]), bal⟩
 go_enter Tryz.func135, Tryz.ntmps135
 go_wp2_with fail
 refine (all_any C _ _ (hC.alloc _) hn).mono ?_;rintro e w1 ⟨rfl, rfl⟩
 go_wp2_with fail
 refine (all_any D _ _ (hD.alloc _) hm).mono ?_;rintro e w1 ⟨rfl, rfl⟩
 go_wp2_with fail
 refine (in_any).mono ?_;rintro e w1 ⟨rfl, rfl⟩
 go_wp2
 go_ret
 exact ⟨ret_bool (by simp [smallB, h1, h2]), bal⟩
def LinesM (w : World) (ad : Option Addr) (ls : List LV) : Prop :=
 ∀ i, i < ls.length -> ∃ b off, ad = some ⟨b, off, none⟩ /\ (∀ r, r < 6 -> w.cell? ⟨b, off + i * 6 + r, none⟩ = (ls[i]?.getD noLV).cs[r]?) /\
  Ints w (ls[i]?.getD noLV).f.a (ls[i]?.getD noLV).f.n (ls[i]?.getD noLV).f.C /\ Ints w (ls[i]?.getD noLV).f.c (ls[i]?.getD noLV).f.m (ls[i]?.getD noLV).f.D /\ (ls[i]?.getD noLV).f.n <= maxLen /\ (ls[i]?.getD noLV).f.m <= maxLen
def lineB (kind pot skip : Int) (n m : Nat) (C D : List Int) (K : Int) : Bool :=
 if kind = 1 then (pot == 0) && inB skip 1 6 && smallB n m C D K
 else if kind = 2 then inB pot 0 2 && (skip == 0) && smallB n m C D K
 else if kind = 3 then (pot == 0) && (skip == 0) && smallB n m C D K
 else (kind == 4) && (pot == 0) && (skip == 0) && ((n : Int) + m == 0) && (K == 0)
end Go.Proofs.YtfmpcihghlnlnaaGreatDoor
