/-
  So many times a form: as both texts reckon it.
-/
import Derived.Test.YtdigmokjedckeaaGreatDoorLin
namespace Go.Proofs.YtdigmokjedckeaaGreatDoor
open Go.RowKit
set_option linter.unusedVariables false

theorem mulL_len (n : Int) (zs : List Int) : (mulL n zs).length = zs.length := by simp [mulL]

theorem wrap_id {x : Int} (h1 : -1000000000000000000 ≤ x) (h2 : x ≤ 1000000000000000000) : IntKind.i64.wrap x = x := by
  simp only [IntKind.wrap, IntKind.signed, IntKind.bits]
  simp
  omega

/-- What a new form's call holds while it goes on: its box, its result's room, old memory. -/
structure TimesH (w : World) (a : Option Addr) (cap : Nat) (c : Option Addr) (cap' : Nat) (K : Int) (w' : World) : Prop where
  p : Cel w' w.heap.size [.slice a 3 cap, .slice c 2 cap', .int .i64 K] 98
  r : Cel w' (w.heap.size + 1) [.slice none 0 0, .slice none 0 0, .int .i64 0] 98
  b : Below w.heap.size w w'
theorem TimesH.below {w W w3 : World} {a c : Option Addr} {cap cap' : Nat} {K : Int} (h : TimesH w a cap c cap' K W) (b : Below W.heap.size W w3) : TimesH w a cap c cap' K w3 :=
  ⟨h.p.below b, h.r.below b, h.b.trans (b.mono h.b.size)⟩
theorem TimesH.drew {w W : World} {a c : Option Addr} {cap cap' : Nat} {K : Int} (h : TimesH w a cap c cap' K W) : TimesH w a cap c cap' K W.drew := ⟨h.p, h.r, h.b.drew⟩
theorem TimesH.alloc {w W : World} {a c : Option Addr} {cap cap' : Nat} {K : Int} (h : TimesH w a cap c cap' K W) (o : Obj) : TimesH w a cap c cap' K (W.alloc o) := h.below ((Below.refl _ _).alloc (Nat.le_refl _) _)
theorem TimesH.set {w W : World} {a c : Option Addr} {cap cap' : Nat} {K : Int} (h : TimesH w a cap c cap' K W) {X : Nat} (hX : w.heap.size + 1 < X) (i : Nat) (v : Value) : TimesH w a cap c cap' K (W.setCell ⟨X, i, none⟩ v) :=
  ⟨h.p.setOther (by omega) i v, h.r.setOther (by omega) i v, h.b.setCell (by show w.heap.size ≤ X; omega) v⟩
theorem Cel.trio {w : World} {B : Nat} {x y z : Value} {t : TypeId} (h : Cel w B [x, y, z] t) : w.cell? ⟨B, 0, none⟩ = some x ∧ w.cell? ⟨B, 1, none⟩ = some y ∧ w.cell? ⟨B, 2, none⟩ = some z ∧ w.frozen? ⟨B, 0, none⟩ = false ∧ w.frozen? ⟨B, 1, none⟩ = false ∧ w.frozen? ⟨B, 2, none⟩ = false := ⟨h.cell 0, h.cell 1, h.cell 2, h.free 0, h.free 1, h.free 2⟩
theorem TimesH.cells {w w' : World} {a c : Option Addr} {cap cap' : Nat} {K : Int} (h : TimesH w a cap c cap' K w') :
    w'.cell? ⟨w.heap.size, 0, none⟩ = some (.slice a 3 cap) ∧ w'.cell? ⟨w.heap.size, 1, none⟩ = some (.slice c 2 cap') ∧ w'.cell? ⟨w.heap.size, 2, none⟩ = some (.int .i64 K) := ⟨h.p.cell 0, h.p.cell 1, h.p.cell 2⟩
theorem TimesH.room {w w' : World} {a c : Option Addr} {cap cap' : Nat} {K : Int} (h : TimesH w a cap c cap' K w') :
    w'.cell? ⟨w.heap.size + 1, 0, none⟩ = some (.slice none 0 0) ∧ w'.cell? ⟨w.heap.size + 1, 1, none⟩ = some (.slice none 0 0) ∧ w'.cell? ⟨w.heap.size + 1, 2, none⟩ = some (.int .i64 0) ∧ w'.frozen? ⟨w.heap.size + 1, 0, none⟩ = false ∧ w'.frozen? ⟨w.heap.size + 1, 1, none⟩ = false ∧ w'.frozen? ⟨w.heap.size + 1, 2, none⟩ = false := ⟨h.r.cell 0, h.r.cell 1, h.r.cell 2, h.r.free 0, h.r.free 1, h.r.free 2⟩

set_option maxHeartbeats 1600000 in
theorem times_any (a : Option Addr) (cap : Nat) (c : Option Addr) (cap' : Nat) (K : Int) (C D : List Int) (n : Int) (w : World)
    (hC : Ints w a 3 C) (hD : Ints w c 2 D) (tC : bndT 1000000000000000000 n C) (tD : bndT 1000000000000000000 n D) (tK : -1000000000000000000 ≤ n * K ∧ n * K ≤ 1000000000000000000) :
    Calls Tryz.prog 178 #[formV a 3 cap c 2 cap' K, .int .i64 n] w fun e w' => ∃ B1 B2, e = .returned (formV (some ⟨B1, 0, none⟩) 3 3 (some ⟨B2, 0, none⟩) 2 2 (n * K)) ∧ Below w.heap.size w w' ∧ w.heap.size ≤ B1 ∧ B1 ≠ B2 ∧ w.heap.size ≤ B2 ∧ Blk w' B1 (mulL n C) ∧ Blk w' B2 (mulL n D) := by
  obtain ⟨tK1, tK2⟩ := tK
  go_enter Tryz.func178, Tryz.ntmps178
  go_wp2_with fail
  have H0 : TimesH w a cap c cap' K (((w.alloc (Obj.cells #[Value.slice a 3 cap, Value.slice c 2 cap', Value.int IntKind.i64 K] 98)).alloc (Obj.cells #[Value.slice none 0 0, Value.slice none 0 0, Value.int IntKind.i64 0] 98)).drew) :=
    ⟨(Cel.new w _ _).alloc _, by have := Cel.new (w.alloc (Obj.cells #[Value.slice a 3 cap, Value.slice c 2 cap', Value.int IntKind.i64 K] 98)) [.slice none 0 0, .slice none 0 0, .int .i64 0] 98; rw [World.size_alloc] at this; exact this, (((Below.refl _ _).alloc (Nat.le_refl _) _).alloc (by simp) _).drew⟩
  go_region_held3 (fun w' => w'.cell? ⟨w.heap.size, 0, none⟩ = some (.slice a 3 cap) ∧ w'.cell? ⟨w.heap.size, 1, none⟩ = some (.slice c 2 cap') ∧ w'.cell? ⟨w.heap.size, 2, none⟩ = some (.int .i64 K)) (first | assumption | go_keep)
    (first
      | (go_at_call_of 149 (Value.slice a 3 cap); refine (timesEach_any _ _ _ C _ _ (hC.below (TimesH.b (a := a) (c := c) (cap := cap) (cap' := cap') (K := K) (by assumption))) (by omega) tC).mono ?_; rintro e w3 ⟨rfl, b3, k3⟩; have h3 := TimesH.below (w := w) (a := a) (c := c) (cap := cap) (cap' := cap') (K := K) (by assumption) b3; have g3 := h3.cells; obtain ⟨x0, x1, x2, x3, x4, x5⟩ := h3.room)
      | (go_at_call_of 149 (Value.slice c 2 cap'); refine (timesEach_any _ _ _ D _ _ (hD.below (TimesH.b (a := a) (c := c) (cap := cap) (cap' := cap') (K := K) (by assumption))) (by omega) tD).mono ?_; rintro e w4 ⟨rfl, b4, k4⟩; have h4 := TimesH.below (w := w) (a := a) (c := c) (cap := cap) (cap' := cap') (K := K) (by assumption) b4; have g4 := h4.cells; obtain ⟨y0, y1, y2, y3, y4, y5⟩ := h4.room))
  have hw := wrap_id tK1 tK2
  have e3 : ((w.alloc (Obj.cells #[Value.slice a 3 cap, Value.slice c 2 cap', Value.int IntKind.i64 K] 98)).alloc (Obj.cells #[Value.slice none 0 0, Value.slice none 0 0, Value.int IntKind.i64 0] 98)).drew.heap.size = w.heap.size + 1 + 1 := by show (World.alloc _ _).heap.size = _; rw [World.size_alloc, World.size_alloc]
  rw [e3] at k3
  have k3' := k3.below b4
  have l3 := k3.lt
  have l4 := k4.lt
  have q0 := h4.r.free 0
  clear e3 b3 b4 h3 g3 H0 k3
  go_wp2
  refine bodyPost_ret (v := formV (some ⟨w.heap.size + 1 + 1, 0, none⟩) 3 3 (some ⟨w3.heap.size, 0, none⟩) 2 2 (n * K)) (by simp [results, Tryz.results178, go_sem, y0, y1, y2, hw]) rfl ⟨_, _, rfl, ?_, by omega, by omega, by omega, ?_, ?_⟩
  · exact ((h4.b.setCell (by simp only []; omega) _).setCell (by simp only []; omega) _).setCell (by simp only []; omega) _
  · exact ((k3'.setOther (by omega) _ _).setOther (by omega) _ _).setOther (by omega) _ _
  · exact ((k4.setOther (by omega) _ _).setOther (by omega) _ _).setOther (by omega) _ _

/-- What comes, if it is ok. -/
def keepL (b : Bool) (L : List Int) : List Int := if b then L else []
def keepK (b : Bool) (K : Int) : Int := if b then K else 0
theorem keepL_no (L : List Int) : keepL false L = [] := rfl
theorem keepL_yes (L : List Int) : keepL true L = L := rfl
theorem keepK_no (K : Int) : keepK false K = 0 := rfl
theorem keepK_yes (K : Int) : keepK true K = K := rfl
theorem keepL_len {b : Bool} {L : List Int} {n : Nat} (h : L.length ≤ n) : (keepL b L).length ≤ n := by cases b <;> simp [keepL, h]

set_option maxHeartbeats 400000 in
theorem orN_yes (a : Option Addr) (n cap : Nat) (c : Option Addr) (m cap' : Nat) (K : Int) (C D : List Int) (w : World) (hC : Ints w a n C) (hD : Ints w c m D) (hn : n ≤ 1048576) (hm : m ≤ 1048576) (h : formB n m C D K = true) :
    Calls Tryz.prog 179 #[formV a n cap c m cap' K] w fun e w' => e = .returned (formV a n cap c m cap' K) ∧ Below w.heap.size w w' := by
  go_enter Tryz.func179, Tryz.ntmps179
  go_wp2_with fail
  refine (iok_any _ _ _ _ _ _ _ C D _ ((hC.alloc _).alloc _) ((hD.alloc _).alloc _) hn hm).mono ?_
  rintro e w1 ⟨rfl, b1⟩
  have p0 := ((Cel.new w _ _).alloc _).below b1
  have p1 := (Cel.new (w.alloc _) _ _).below b1
  rw [World.size_alloc] at p1
  have hb : Below w.heap.size w w1 := (((Below.refl _ _).alloc (Nat.le_refl _) _).alloc (by simp) _).trans (b1.mono (by simp; omega))
  have c0 := p0.cell 0
  have c1 := p0.cell 1
  have c2 := p0.cell 2
  have r0 := p1.cell 0
  have r1 := p1.cell 1
  have r2 := p1.cell 2
  have r3 := p1.free 0
  have r4 := p1.free 1
  have r5 := p1.free 2
  simp only [List.getElem?_cons_zero, List.getElem?_cons_succ] at c0 c1 c2 r0 r1 r2
  go_wp2
  refine bodyPost_ret (v := formV a n cap c m cap' K) (by simp [results, Tryz.results179, go_sem, r0, r1, r2]) rfl ⟨rfl, ?_⟩
  exact ((hb.setCell (by simp only []; omega) _).setCell (by simp only []; omega) _).setCell (by simp only []; omega) _

set_option maxHeartbeats 400000 in
theorem orN_no (a : Option Addr) (n cap : Nat) (c : Option Addr) (m cap' : Nat) (K : Int) (C D : List Int) (w : World) (hC : Ints w a n C) (hD : Ints w c m D) (hn : n ≤ 1048576) (hm : m ≤ 1048576) (h : formB n m C D K = false) :
    Calls Tryz.prog 179 #[formV a n cap c m cap' K] w fun e w' => e = .returned (formV none 0 0 none 0 0 0) ∧ Below w.heap.size w w' := by
  go_enter Tryz.func179, Tryz.ntmps179
  go_wp2_with fail
  refine (iok_any _ _ _ _ _ _ _ C D _ ((hC.alloc _).alloc _) ((hD.alloc _).alloc _) hn hm).mono ?_
  rintro e w1 ⟨rfl, b1⟩
  have p1 := (Cel.new (w.alloc _) _ _).below b1
  rw [World.size_alloc] at p1
  have hb : Below w.heap.size w w1 := (((Below.refl _ _).alloc (Nat.le_refl _) _).alloc (by simp) _).trans (b1.mono (by simp; omega))
  have r0 := p1.cell 0
  have r1 := p1.cell 1
  have r2 := p1.cell 2
  have r3 := p1.free 0
  have r4 := p1.free 1
  have r5 := p1.free 2
  simp only [List.getElem?_cons_zero, List.getElem?_cons_succ] at r0 r1 r2
  go_wp2
  refine bodyPost_ret (v := formV none 0 0 none 0 0 0) (by simp [results, Tryz.results179, go_sem, r0, r1, r2]) rfl ⟨rfl, ?_⟩
  exact ((hb.setCell (by simp only []; omega) _).setCell (by simp only []; omega) _).setCell (by simp only []; omega) _

/-- Whether so many times a form is ok. -/
def timOk (n m : Nat) (C D : List Int) (K k : Int) : Bool := formB n m C D K && inB k (-10000000) 10000000 && formB 3 2 (mulL k C) (mulL k D) (k * K)

theorem tim_bnd {C : List Int} {k : Int} (h : bnd 10000000 C) (h1 : -10000000 ≤ k) (h2 : k ≤ 10000000) : bndT 1000000000000000000 k C := by
  intro i
  have := bndT_of h h1 h2 (by omega) (by omega) i
  omega
theorem tim_num {K k : Int} (a1 : -10000000 ≤ K) (a2 : K ≤ 10000000) (h1 : -10000000 ≤ k) (h2 : k ≤ 10000000) : -1000000000000000000 ≤ k * K ∧ k * K ≤ 1000000000000000000 := by
  have hx' : k.natAbs ≤ 10000000 := by omega
  have hy' : K.natAbs ≤ 10000000 := by omega
  have hm : (k * K).natAbs ≤ 10000000 * 10000000 := by rw [Int.natAbs_mul]; exact Nat.mul_le_mul hx' hy'
  omega

set_option maxHeartbeats 1600000 in
theorem itim_any (a : Option Addr) (n cap : Nat) (c : Option Addr) (m cap' : Nat) (K : Int) (C D : List Int) (k : Int) (w : World) (hC : Ints w a n C) (hD : Ints w c m D) (hn : n ≤ 1048576) (hm : m ≤ 1048576) :
    Calls Tryz.prog 175 #[formV a n cap c m cap' K, .int .i64 k] w fun e w' => Res w w' e (keepL (timOk n m C D K k) (mulL k C)) (keepL (timOk n m C D K k) (mulL k D)) (keepK (timOk n m C D K k) (k * K)) := by
  have bo : ∀ o o' : Obj, Below w.heap.size w ((w.alloc o).alloc o') := fun o o' => ((Below.refl _ _).alloc (Nat.le_refl _) _).alloc (by simp) _
  cases h1 : formB n m C D K
  · have ht : timOk n m C D K k = false := by simp [timOk, h1]
    rw [ht, keepL_no, keepL_no, keepK_no]
    go_enter Tryz.func175, Tryz.ntmps175
    go_wp2_with fail
    refine (iok_any _ _ _ _ _ _ _ C D _ ((hC.alloc _).alloc _) ((hD.alloc _).alloc _) hn hm).mono ?_
    rintro e w1 ⟨rfl, b1⟩
    have p1 := (Cel.new (w.alloc _) _ _).below b1
    rw [World.size_alloc] at p1
    have hb : Below w.heap.size w w1 := (bo _ _).trans (b1.mono (by simp; omega))
    have r0 := p1.cell 0
    have r1 := p1.cell 1
    have r2 := p1.cell 2
    have r3 := p1.free 0
    have r4 := p1.free 1
    have r5 := p1.free 2
    simp only [List.getElem?_cons_zero, List.getElem?_cons_succ] at r0 r1 r2
    go_wp2
    refine bodyPost_ret (v := formV none 0 0 none 0 0 0) (by simp [results, Tryz.results175, go_sem, r0, r1, r2]) rfl (Res.none rfl ?_)
    exact ((hb.setCell (by simp only []; omega) _).setCell (by simp only []; omega) _).setCell (by simp only []; omega) _
  · cases h2 : inB k (-10000000) 10000000
    · have ht : timOk n m C D K k = false := by simp [timOk, h2]
      rw [ht, keepL_no, keepL_no, keepK_no]
      have ha : allB 10000000 [k] = false := by rw [allB_one]; exact h2
      go_enter Tryz.func175, Tryz.ntmps175
      go_wp2_with fail
      refine (iok_any _ _ _ _ _ _ _ C D _ ((hC.alloc _).alloc _) ((hD.alloc _).alloc _) hn hm).mono ?_
      rintro e w1 ⟨rfl, b1⟩
      have p1 := (Cel.new (w.alloc _) _ _).below b1
      rw [World.size_alloc] at p1
      have hb : Below w.heap.size w w1 := (bo _ _).trans (b1.mono (by simp; omega))
      have l1 := p1.lt
      go_wp2_with fail
      refine (within_any (some ⟨w1.heap.size, 0, none⟩) 1 1 [k] _ _ ?_ (by omega) (by omega) (by omega)).mono ?_
      · refine ⟨rfl, fun i hi => ⟨w1.heap.size, 0, rfl, ?_⟩⟩
        obtain rfl : i = 0 := by omega
        simp [go_sem]
      rintro e w2 ⟨rfl, rfl⟩
      have r0 := p1.cell 0
      have r1 := p1.cell 1
      have r2 := p1.cell 2
      have r3 := p1.free 0
      have r4 := p1.free 1
      have r5 := p1.free 2
      simp only [List.getElem?_cons_zero, List.getElem?_cons_succ] at r0 r1 r2
      go_wp2
      refine bodyPost_ret (v := formV none 0 0 none 0 0 0) (by simp [results, Tryz.results175, go_sem, r0, r1, r2, l1]) rfl (Res.none rfl ?_)
      exact (((hb.setCell (by simp only []; omega) _).setCell (by simp only []; omega) _).setCell (by simp only []; omega) _).alloc (by have := hb.size; rw [size_setCell, size_setCell, size_setCell]; omega) _
    · obtain ⟨rfl, rfl, bC, bD, bK1, bK2⟩ := formB_elim h1
      obtain ⟨hk1, hk2⟩ := inB_iff.1 h2
      have ha : allB 10000000 [k] = true := by rw [allB_one]; exact h2
      have tC := tim_bnd bC hk1 hk2
      have tD := tim_bnd bD hk1 hk2
      have tK := tim_num bK1 bK2 hk1 hk2
      have LC : (mulL k C).length = 3 := by rw [mulL_len]; exact hC.1
      have LD : (mulL k D).length = 2 := by rw [mulL_len]; exact hD.1
      have ht : timOk 3 2 C D K k = formB 3 2 (mulL k C) (mulL k D) (k * K) := by simp [timOk, h1, h2]
      cases h3 : formB 3 2 (mulL k C) (mulL k D) (k * K)
      all_goals
        rw [ht, h3]
        clear ht
        go_enter Tryz.func175, Tryz.ntmps175
        go_wp2_with fail
        refine (iok_any _ _ _ _ _ _ _ C D _ ((hC.alloc _).alloc _) ((hD.alloc _).alloc _) hn hm).mono ?_
        rintro e w1 ⟨rfl, b1⟩
        have p0 := ((Cel.new w _ _).alloc _).below b1
        have p1 := (Cel.new (w.alloc _) _ _).below b1
        rw [World.size_alloc] at p1
        have hb : Below w.heap.size w w1 := (bo _ _).trans (b1.mono (by simp; omega))
        have l1 := p1.lt
        clear b1
        go_wp2_with fail
        refine (within_any (some ⟨w1.heap.size, 0, none⟩) 1 1 [k] _ _ ?_ (by omega) (by omega) (by omega)).mono ?_
        · refine ⟨rfl, fun i hi => ⟨w1.heap.size, 0, rfl, ?_⟩⟩
          obtain rfl : i = 0 := by omega
          simp [go_sem]
        rintro e w2 ⟨rfl, rfl⟩
        have c0 := p0.cell 0
        have c1 := p0.cell 1
        have c2 := p0.cell 2
        simp only [List.getElem?_cons_zero, List.getElem?_cons_succ] at c0 c1 c2
        have l0 := p0.lt
        go_wp2_with fail
        refine (times_any _ _ _ _ _ C D _ _ ((hC.below hb).alloc _) ((hD.below hb).alloc _) tC tD tK).mono ?_
        rintro e w3 ⟨B1, B2, rfl, b3, g1, g2, g3, k1, k2⟩
        rw [World.size_alloc] at g1 g3
        have p3 := (p1.alloc _).below b3
        have hb3 : Below w.heap.size w w3 := (hb.alloc hb.size _).trans (b3.mono (by have := hb.size; simp; omega))
        clear b3 c0 c1 c2 p0 p1
        go_wp2_with fail
        first
          | (refine (orN_no _ _ _ _ _ _ _ (mulL k C) (mulL k D) _ (k1.ints' LC) (k2.ints' LD) hn hm h3).mono ?_)
          | (refine (orN_yes _ _ _ _ _ _ _ (mulL k C) (mulL k D) _ (k1.ints' LC) (k2.ints' LD) hn hm h3).mono ?_)
        rintro e w4 ⟨rfl, b4⟩
        have p4 := p3.below b4
        have k1' := k1.below b4
        have k2' := k2.below b4
        have hb4 := hb3.trans (b4.mono hb3.size)
        have hw1 := hb.size
        have r0 := p4.cell 0
        have r1 := p4.cell 1
        have r2 := p4.cell 2
        have r3 := p4.free 0
        have r4 := p4.free 1
        have r5 := p4.free 2
        simp only [List.getElem?_cons_zero, List.getElem?_cons_succ] at r0 r1 r2
        clear b4 p3 p4 k1 k2 hb3 tC tD tK bC bD
        go_wp2
      · refine bodyPost_ret (v := formV none 0 0 none 0 0 0) (by simp [results, Tryz.results175, go_sem, r0, r1, r2]) rfl (Res.none rfl ?_)
        exact ((hb4.setCell (by simp only []; omega) _).setCell (by simp only []; omega) _).setCell (by simp only []; omega) _
      · refine bodyPost_ret (v := formV (some ⟨B1, 0, none⟩) 3 3 (some ⟨B2, 0, none⟩) 2 2 (k * K)) (by simp [results, Tryz.results175, go_sem, r0, r1, r2]) rfl (Res.of (B1 := B1) (B2 := B2) rfl LC LD ?_ (by omega) g2 (by omega) ?_ ?_)
        · exact ((hb4.setCell (by simp only []; omega) _).setCell (by simp only []; omega) _).setCell (by simp only []; omega) _
        · exact ((k1'.setOther (by omega) _ _).setOther (by omega) _ _).setOther (by omega) _ _
        · exact ((k2'.setOther (by omega) _ _).setOther (by omega) _ _).setOther (by omega) _ _

theorem lin_zero3 {C : List Int} {k : Int} (h : C.length = 3) : lin [0, 0, 0] C k = mulL k C := by
  match C, h with
  | [x, y, z], _ => simp [lin, mulL]
theorem lin_zero2 {D : List Int} {k : Int} (h : D.length = 2) : lin [0, 0] D k = mulL k D := by
  match D, h with
  | [x, y], _ => simp [lin, mulL]
theorem bnd_lit3 : bnd 1000000000000000000 [0, 0, 0] := fun i => by have := bnd_zeros 3 i; simp only [List.replicate] at this; omega
theorem bnd_lit2 : bnd 1000000000000000000 [0, 0] := fun i => by have := bnd_zeros 2 i; simp only [List.replicate] at this; omega

end Go.Proofs.YtdigmokjedckeaaGreatDoor
