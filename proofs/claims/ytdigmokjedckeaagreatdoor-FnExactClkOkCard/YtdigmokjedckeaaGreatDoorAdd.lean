/-
  The sum of two forms: as both texts reckon it.
-/
import Derived.Test.YtdigmokjedckeaaGreatDoorTimes
namespace Go.Proofs.YtdigmokjedckeaaGreatDoor
open Go.RowKit
set_option linter.unusedVariables false

/-- A form as it lies in memory. -/
structure FV where
  a : Option Addr
  n : Nat
  cap : Nat
  c : Option Addr
  m : Nat
  cap' : Nat
  K : Int
  C : List Int
  D : List Int
def FV.v (f : FV) : Value := formV f.a f.n f.cap f.c f.m f.cap' f.K
def FV.cs (f : FV) : List Value := [.slice f.a f.n f.cap, .slice f.c f.m f.cap', .int .i64 f.K]
def FV.ok (f : FV) : Bool := formB f.n f.m f.C f.D f.K
def FV.frm (f : FV) : Frm := (f.C, f.D, f.K)
def noFV : FV := ⟨none, 0, 0, none, 0, 0, 0, [], []⟩
structure FV.At (f : FV) (w : World) : Prop where
  C : Ints w f.a f.n f.C
  D : Ints w f.c f.m f.D
  hn : f.n ≤ 1048576
  hm : f.m ≤ 1048576
theorem FV.At.below {f : FV} {w w' : World} (h : f.At w) (b : Below w.heap.size w w') : f.At w' := ⟨h.C.below b, h.D.below b, h.hn, h.hm⟩

/-- A slice of forms in memory, of any lengths. -/
def FormsG (w : World) (ad : Option Addr) (fs : List FV) : Prop :=
  ∀ i, i < fs.length → ∃ b off, ad = some ⟨b, off, none⟩ ∧ w.cell? ⟨b, off + i * 3, none⟩ = some (.slice (fs[i]?.getD noFV).a (fs[i]?.getD noFV).n (fs[i]?.getD noFV).cap) ∧ w.cell? ⟨b, off + i * 3 + 1, none⟩ = some (.slice (fs[i]?.getD noFV).c (fs[i]?.getD noFV).m (fs[i]?.getD noFV).cap') ∧ w.cell? ⟨b, off + i * 3 + 2, none⟩ = some (.int .i64 (fs[i]?.getD noFV).K) ∧ (fs[i]?.getD noFV).At w
theorem FormsG.below {w w' : World} {ad : Option Addr} {fs : List FV} (h : FormsG w ad fs) (hb : Below w.heap.size w w') : FormsG w' ad fs := by
  intro i hi
  obtain ⟨b, off, e, e0, e1, e2, e3⟩ := h i hi
  exact ⟨b, off, e, (hb.cell (p := ⟨b, off + i * 3, none⟩) (block_lt e0)).trans e0, (hb.cell (p := ⟨b, off + i * 3 + 1, none⟩) (block_lt e0)).trans e1, (hb.cell (p := ⟨b, off + i * 3 + 2, none⟩) (block_lt e0)).trans e2, e3.below hb⟩
theorem FormsG.at {w : World} {ad : Option Addr} {fs : List FV} (h : FormsG w ad fs) (hok : fs.all FV.ok = true) : FormsAt w ad (fs.map FV.frm) ∧ ∀ i, i < (fs.map FV.frm).length → fits 10000000 ((fs.map FV.frm)[i]?.getD ([], [], 0)) := by
  have key : ∀ i, i < fs.length → (fs.map FV.frm)[i]?.getD ([], [], 0) = (fs[i]?.getD noFV).frm ∧ (fs[i]?.getD noFV).ok = true := by
    intro i hi
    rw [List.getElem?_map, List.getElem?_eq_getElem hi]
    refine ⟨rfl, ?_⟩
    rw [List.all_eq_true] at hok
    exact hok _ (List.getElem_mem hi)
  refine ⟨fun i hi => ?_, fun i hi => ?_⟩
  · rw [List.length_map] at hi
    obtain ⟨b, off, e, e0, e1, e2, e3⟩ := h i hi
    obtain ⟨k1, k2⟩ := key i hi
    obtain ⟨n3, m2, _⟩ := formB_elim k2
    have hC := e3.C
    have hD := e3.D
    rw [n3] at e0 hC
    rw [m2] at e1 hD
    rw [k1]
    exact ⟨b, off, e, _, _, _, _, e0, e1, e2, hC, hD⟩
  · rw [List.length_map] at hi
    obtain ⟨b, off, e, e0, e1, e2, e3⟩ := h i hi
    obtain ⟨k1, k2⟩ := key i hi
    obtain ⟨n3, m2, bC, bD, bK1, bK2⟩ := formB_elim k2
    rw [k1]
    exact ⟨by have := e3.C.1; simp only [FV.frm]; omega, by have := e3.D.1; simp only [FV.frm]; omega, bC, bD, bK1, bK2⟩

theorem all_take_succ {fs : List FV} {k : Nat} (h : k < fs.length) (h1 : (fs.take k).all FV.ok = true) (h2 : (fs[k]?.getD noFV).ok = true) : (fs.take (k + 1)).all FV.ok = true := by
  rw [List.take_succ_eq_append_getElem h, List.all_append, h1]
  rw [List.getElem?_eq_getElem h] at h2
  simpa using h2
theorem all_no {fs : List FV} {k : Nat} (h : k < fs.length) (h2 : (fs[k]?.getD noFV).ok = false) : fs.all FV.ok = false := by
  rw [List.all_eq_false]
  rw [List.getElem?_eq_getElem h] at h2
  exact ⟨fs[k], List.getElem_mem h, by simpa using h2⟩

set_option maxHeartbeats 800000 in
theorem allForms_any (ad : Option Addr) (N cap : Nat) (fs : List FV) (w : World) (hN : fs.length = N) (hF : FormsG w ad fs) (hN1 : N ≤ 1048576) :
    Calls Tryz.prog 176 #[.slice ad N cap] w fun e w' => e = .returned (.bool (fs.all FV.ok)) ∧ Below w.heap.size w w' := by
  have HN : Hid (fs.length = N) := hN
  clear hN
  go_enter Tryz.func176, Tryz.ntmps176
  go_wp2_with fail
  go_loopw [4, 7] (fun _ i wr => ∃ k : Nat, k ≤ N ∧ i = .int .i64 k ∧ Below w.heap.size w wr ∧ (fs.take k).all FV.ok = true) (fun _ i _ => N - (intOf i).toNat)
  case atStart => exact ⟨0, Nat.zero_le _, rfl, Below.refl _ _, by simp⟩
  case round =>
    obtain ⟨k, hk, rfl, hb, hall⟩ := hrel
    have HA : Hid ((fs.take k).all FV.ok = true) := hall
    clear hall
    by_cases hlt : k < N
    · obtain ⟨b, off, rfl, e0, e1, e2, e3⟩ := (hF.below hb) k (by rw [HN.out]; exact hlt)
      generalize HG : fs[k]?.getD noFV = g at *
      have HG' : Hid (fs[k]?.getD noFV = g) := HG
      clear HG hF
      obtain ⟨ga, gn, gcap, gc, gm, gcap', gK, gC, gD⟩ := g
      obtain ⟨iC, iD, hn, hm⟩ := e3
      simp only at e0 e1 e2 iC iD hn hm
      cases hf : formB gn gm gC gD gK
      · go_wp2_with fail
        refine (iok_any _ _ _ _ _ _ _ gC gD _ (iC.alloc _) (iD.alloc _) hn hm).mono ?_
        rintro e w1 ⟨rfl, b1⟩
        have B1 := (hb.alloc hb.size _).trans (b1.mono (by have := hb.size; simp; omega))
        go_wp2
        go_ret
        exact ⟨ret_bool (all_no (k := k) (by rw [HN.out]; exact hlt) (by rw [HG'.out]; exact hf)).symm, B1⟩
      · go_wp2_with fail
        refine (iok_any _ _ _ _ _ _ _ gC gD _ (iC.alloc _) (iD.alloc _) hn hm).mono ?_
        rintro e w1 ⟨rfl, b1⟩
        have B1 := (hb.alloc hb.size _).trans (b1.mono (by have := hb.size; simp; omega))
        clear b1 hb iC iD e0 e1 e2
        go_wp2
        go_roundw
        case rel => exact ⟨k + 1, by omega, by go_num, B1, all_take_succ (by rw [HN.out]; exact hlt) HA.out (by rw [HG'.out]; exact hf)⟩
        case measure => simp [intOf]; omega
    · go_wp2
      go_ret
      exact ⟨ret_bool (by have := HA.out; rw [List.take_of_length_le (by rw [HN.out]; omega)] at this; exact this.symm), hb⟩

/-- Whether a sum is ok. -/
def addOk (n m : Nat) (C D : List Int) (K : Int) (n2 m2 : Nat) (C2 D2 : List Int) (K2 : Int) : Bool := formB n m C D K && formB n2 m2 C2 D2 K2 && formB 3 2 (lin C C2 1) (lin D D2 1) (K + 1 * K2)

/-- What a call on two forms holds while it goes on: both boxes, its result's room, old memory. -/
structure H2 (w : World) (a : Option Addr) (n cap : Nat) (c : Option Addr) (m cap' : Nat) (K : Int) (a2 : Option Addr) (n2 cap2 : Nat) (c2 : Option Addr) (m2 cap2' : Nat) (K2 : Int) (w' : World) : Prop where
  p : Cel w' w.heap.size [.slice a n cap, .slice c m cap', .int .i64 K] 98
  q : Cel w' (w.heap.size + 1) [.slice a2 n2 cap2, .slice c2 m2 cap2', .int .i64 K2] 98
  r : Cel w' (w.heap.size + 1 + 1) [.slice none 0 0, .slice none 0 0, .int .i64 0] 98
  b : Below w.heap.size w w'
section
variable {w W w3 : World} {a c a2 c2 : Option Addr} {n cap m cap' n2 cap2 m2 cap2' : Nat} {K K2 : Int}
theorem H2.below (h : H2 w a n cap c m cap' K a2 n2 cap2 c2 m2 cap2' K2 W) (b : Below W.heap.size W w3) : H2 w a n cap c m cap' K a2 n2 cap2 c2 m2 cap2' K2 w3 :=
  ⟨h.p.below b, h.q.below b, h.r.below b, h.b.trans (b.mono h.b.size)⟩
theorem H2.alloc (h : H2 w a n cap c m cap' K a2 n2 cap2 c2 m2 cap2' K2 W) (o : Obj) : H2 w a n cap c m cap' K a2 n2 cap2 c2 m2 cap2' K2 (W.alloc o) := h.below ((Below.refl _ _).alloc (Nat.le_refl _) _)
theorem H2.new : H2 w a n cap c m cap' K a2 n2 cap2 c2 m2 cap2' K2 (((w.alloc (Obj.cells #[Value.slice a n cap, Value.slice c m cap', Value.int IntKind.i64 K] 98)).alloc (Obj.cells #[Value.slice a2 n2 cap2, Value.slice c2 m2 cap2', Value.int IntKind.i64 K2] 98)).alloc (Obj.cells #[Value.slice none 0 0, Value.slice none 0 0, Value.int IntKind.i64 0] 98)) := by
  have q := (Cel.new (w.alloc (Obj.cells #[Value.slice a n cap, Value.slice c m cap', Value.int IntKind.i64 K] 98)) [.slice a2 n2 cap2, .slice c2 m2 cap2', .int .i64 K2] 98).alloc (Obj.cells #[Value.slice none 0 0, Value.slice none 0 0, Value.int IntKind.i64 0] 98)
  have r := Cel.new ((w.alloc (Obj.cells #[Value.slice a n cap, Value.slice c m cap', Value.int IntKind.i64 K] 98)).alloc (Obj.cells #[Value.slice a2 n2 cap2, Value.slice c2 m2 cap2', Value.int IntKind.i64 K2] 98)) [.slice none 0 0, .slice none 0 0, .int .i64 0] 98
  rw [World.size_alloc] at q
  rw [World.size_alloc, World.size_alloc] at r
  exact ⟨((Cel.new w _ _).alloc _).alloc _, q, r, (((Below.refl _ _).alloc (Nat.le_refl _) _).alloc (by simp) _).alloc (by simp; omega) _⟩
theorem H2.cells (h : H2 w a n cap c m cap' K a2 n2 cap2 c2 m2 cap2' K2 W) :
    W.cell? ⟨w.heap.size, 0, none⟩ = some (.slice a n cap) ∧ W.cell? ⟨w.heap.size, 1, none⟩ = some (.slice c m cap') ∧ W.cell? ⟨w.heap.size, 2, none⟩ = some (.int .i64 K) ∧
    W.cell? ⟨w.heap.size + 1, 0, none⟩ = some (.slice a2 n2 cap2) ∧ W.cell? ⟨w.heap.size + 1, 1, none⟩ = some (.slice c2 m2 cap2') ∧ W.cell? ⟨w.heap.size + 1, 2, none⟩ = some (.int .i64 K2) := ⟨h.p.cell 0, h.p.cell 1, h.p.cell 2, h.q.cell 0, h.q.cell 1, h.q.cell 2⟩
theorem H2.room (h : H2 w a n cap c m cap' K a2 n2 cap2 c2 m2 cap2' K2 W) :
    W.cell? ⟨w.heap.size + 1 + 1, 0, none⟩ = some (.slice none 0 0) ∧ W.cell? ⟨w.heap.size + 1 + 1, 1, none⟩ = some (.slice none 0 0) ∧ W.cell? ⟨w.heap.size + 1 + 1, 2, none⟩ = some (.int .i64 0) ∧ W.frozen? ⟨w.heap.size + 1 + 1, 0, none⟩ = false ∧ W.frozen? ⟨w.heap.size + 1 + 1, 1, none⟩ = false ∧ W.frozen? ⟨w.heap.size + 1 + 1, 2, none⟩ = false := ⟨h.r.cell 0, h.r.cell 1, h.r.cell 2, h.r.free 0, h.r.free 1, h.r.free 2⟩
end

theorem sum_two {C D C2 D2 : List Int} {K K2 : Int} (hC : C.length = 3) (hD : D.length = 2) (hC2 : C2.length = 3) (hD2 : D2.length = 2) :
    sumC [(C, D, K), (C2, D2, K2)] 2 = lin C C2 1 ∧ sumD [(C, D, K), (C2, D2, K2)] 2 = lin D D2 1 ∧ sumK [(C, D, K), (C2, D2, K2)] 2 = K + 1 * K2 := by
  match C, hC, C2, hC2, D, hD, D2, hD2 with
  | [x, y, z], _, [x', y', z'], _, [u, v], _, [u', v'], _ => simp [sumC, sumD, sumK, lin]

set_option maxHeartbeats 3200000 in
theorem iadd_any (a : Option Addr) (n cap : Nat) (c : Option Addr) (m cap' : Nat) (K : Int) (C D : List Int) (a2 : Option Addr) (n2 cap2 : Nat) (c2 : Option Addr) (m2 cap2' : Nat) (K2 : Int) (C2 D2 : List Int) (w : World) (hC : Ints w a n C) (hD : Ints w c m D) (hC2 : Ints w a2 n2 C2) (hD2 : Ints w c2 m2 D2) (hn : n ≤ 1048576) (hm : m ≤ 1048576) (hn2 : n2 ≤ 1048576) (hm2 : m2 ≤ 1048576) :
    Calls Tryz.prog 174 #[formV a n cap c m cap' K, formV a2 n2 cap2 c2 m2 cap2' K2] w fun e w' => Res w w' e (keepL (addOk n m C D K n2 m2 C2 D2 K2) (lin C C2 1)) (keepL (addOk n m C D K n2 m2 C2 D2 K2) (lin D D2 1)) (keepK (addOk n m C D K n2 m2 C2 D2 K2) (K + 1 * K2)) := by
  have n0 := H2.new (w := w) (a := a) (n := n) (cap := cap) (c := c) (m := m) (cap' := cap') (K := K) (a2 := a2) (n2 := n2) (cap2 := cap2) (c2 := c2) (m2 := m2) (cap2' := cap2') (K2 := K2)
  obtain ⟨fs, hfs⟩ : ∃ fs : List FV, fs = [⟨a, n, cap, c, m, cap', K, C, D⟩, ⟨a2, n2, cap2, c2, m2, cap2', K2, C2, D2⟩] := ⟨_, rfl⟩
  have hall : fs.all FV.ok = (formB n m C D K && formB n2 m2 C2 D2 K2) := by rw [hfs]; simp [FV.ok]
  have hlen : fs.length = 2 := by rw [hfs]; rfl
  have hG : ∀ W : World, Below w.heap.size w W → FormsG (W.alloc (Obj.cells #[Value.slice a n cap, Value.slice c m cap', Value.int IntKind.i64 K, Value.slice a2 n2 cap2, Value.slice c2 m2 cap2', Value.int IntKind.i64 K2] 98)) (some ⟨W.heap.size, 0, none⟩) fs := by
    intro W hb i hi
    rw [hfs] at hi ⊢
    have hq := Cel.new W [Value.slice a n cap, Value.slice c m cap', Value.int IntKind.i64 K, Value.slice a2 n2 cap2, Value.slice c2 m2 cap2', Value.int IntKind.i64 K2] 98
    match i, hi with
    | 0, _ => exact ⟨_, 0, rfl, hq.cell 0, hq.cell 1, hq.cell 2, ⟨(hC.below hb).alloc _, (hD.below hb).alloc _, hn, hm⟩⟩
    | 1, _ => exact ⟨_, 0, rfl, hq.cell 3, hq.cell 4, hq.cell 5, ⟨(hC2.below hb).alloc _, (hD2.below hb).alloc _, hn2, hm2⟩⟩
  have HG : Hid _ := hG
  have HF : Hid _ := hfs
  clear hfs hG
  cases h1 : (formB n m C D K && formB n2 m2 C2 D2 K2)
  · have ht : addOk n m C D K n2 m2 C2 D2 K2 = false := by simp only [addOk, h1, Bool.false_and]
    rw [ht, keepL_no, keepL_no, keepK_no]
    rw [h1] at hall
    go_enter Tryz.func174, Tryz.ntmps174
    have gg := HG.out _ n0.b
    simp only [World.size_alloc] at gg
    go_wp2_with fail
    refine (allForms_any _ 2 _ fs _ hlen gg (by omega)).mono ?_
    rintro e w1 ⟨rfl, b1⟩
    have H := (n0.alloc _).below b1
    obtain ⟨r0, r1, r2, r3, r4, r5⟩ := H.room
    rw [hall]
    go_wp2
    refine bodyPost_ret (v := formV none 0 0 none 0 0 0) (by simp [results, Tryz.results174, go_sem, r0, r1, r2]) rfl (Res.none rfl ?_)
    exact ((H.b.setCell (by simp only []; omega) _).setCell (by simp only []; omega) _).setCell (by simp only []; omega) _
  · have h1' := h1
    rw [Bool.and_eq_true] at h1'
    obtain ⟨rfl, rfl, bC, bD, bK1, bK2⟩ := formB_elim h1'.1
    obtain ⟨rfl, rfl, bC2, bD2, bK3, bK4⟩ := formB_elim h1'.2
    have LC := lin_len (n := 1) hC.1 hC2.1
    have LD := lin_len (n := 1) hD.1 hD2.1
    have ht : addOk 3 2 C D K 3 2 C2 D2 K2 = formB 3 2 (lin C C2 1) (lin D D2 1) (K + 1 * K2) := by simp only [addOk, h1, Bool.true_and]
    rw [ht]
    clear ht
    rw [h1] at hall
    obtain ⟨sC, sD, sK⟩ := sum_two (K := K) (K2 := K2) hC.1 hD.1 hC2.1 hD2.1
    have hmap : fs.map FV.frm = [(C, D, K), (C2, D2, K2)] := by rw [HF.out]; rfl
    have HM : Hid _ := hmap
    have SC : Hid _ := sC
    have SD : Hid _ := sD
    have SK : Hid _ := sK
    clear hmap sC sD sK h1 h1' bC bD bC2 bD2
    obtain ⟨S, hS⟩ : ∃ S, S = K + 1 * K2 := ⟨_, rfl⟩
    have HS : Hid (S = K + 1 * K2) := hS
    rw [← hS]
    clear hS
    cases h3 : formB 3 2 (lin C C2 1) (lin D D2 1) S
    all_goals
      go_enter Tryz.func174, Tryz.ntmps174
      have gg := HG.out _ n0.b
      simp only [World.size_alloc] at gg
      go_wp2_with fail
      refine (allForms_any _ 2 _ fs _ hlen gg (by omega)).mono ?_
      rintro e w1 ⟨rfl, b1⟩
      have H1 := (n0.alloc _).below b1
      obtain ⟨c0, c1, c2x, c3, c4, c5⟩ := H1.cells
      have A1 := H1.r.lt
      rw [hall]
      have fa := (HG.out _ H1.b).at hall
      rw [HM.out] at fa
      clear gg b1
      go_wp2_with fail
      refine (sum_any _ 2 _ [(C, D, K), (C2, D2, K2)] 10000000 _ rfl fa.1 fa.2 (by omega) (by omega) (by omega)).mono ?_
      rintro e w2 ⟨B1, B2, rfl, b2, g1, g2, g3, k1, k2⟩
      rw [SC.out] at k1
      rw [SD.out] at k2
      rw [SK.out, ← HS.out]
      rw [World.size_alloc] at g1 g3
      have H2' := (H1.alloc _).below b2
      clear c0 c1 c2x c3 c4 c5 fa b2
      go_wp2_with fail
      first
        | (refine (orN_no _ _ _ _ _ _ _ (lin C C2 1) (lin D D2 1) _ (k1.ints' LC) (k2.ints' LD) hn hm h3).mono ?_)
        | (refine (orN_yes _ _ _ _ _ _ _ (lin C C2 1) (lin D D2 1) _ (k1.ints' LC) (k2.ints' LD) hn hm h3).mono ?_)
      rintro e w3 ⟨rfl, b3⟩
      have H := H2'.below b3
      have k1' := k1.below b3
      have k2' := k2.below b3
      obtain ⟨r0, r1, r2, r3, r4, r5⟩ := H.room
      have A2 := H1.b.size
      clear H1 H2' k1 k2 b3 n0 hall
      go_wp2
    · refine bodyPost_ret (v := formV none 0 0 none 0 0 0) (by simp [results, Tryz.results174, go_sem, r0, r1, r2]) rfl (Res.none rfl ?_)
      exact ((H.b.setCell (by simp only []; omega) _).setCell (by simp only []; omega) _).setCell (by simp only []; omega) _
    · refine bodyPost_ret (v := formV (some ⟨B1, 0, none⟩) 3 3 (some ⟨B2, 0, none⟩) 2 2 S) (by simp [results, Tryz.results174, go_sem, r0, r1, r2]) rfl (Res.of (B1 := B1) (B2 := B2) rfl LC LD ?_ (by omega) g2 (by omega) ?_ ?_)
      · exact ((H.b.setCell (by simp only []; omega) _).setCell (by simp only []; omega) _).setCell (by simp only []; omega) _
      · exact ((k1'.setOther (by omega) _ _).setOther (by omega) _ _).setOther (by omega) _ _
      · exact ((k2'.setOther (by omega) _ _).setOther (by omega) _ _).setOther (by omega) _ _

end Go.Proofs.YtdigmokjedckeaaGreatDoor
