/-
  Texts that the claim's last one rests on, behind one another: Times, Add, Slices, Made, MarkS, Into, IntoS, IntoT.
-/
import Derived.Test.YtacjjhfbnbmnlaaGreatDoorPackA
import Derived.Deep.AppendLies
import Derived.Deep.RegionLawGrows
namespace Go.Proofs.YtacjjhfbnbmnlaaGreatDoor
open Go.RowKit
set_option linter.unusedVariables false

theorem mulL_len (n : Int) (zs : List Int) : (mulL n zs).length = zs.length := by simp [mulL]

theorem wrap_id {x : Int} (h1 : -1000000000000000000 ≤ x) (h2 : x ≤ 1000000000000000000) : IntKind.i64.wrap x = x := by
  simp only [IntKind.wrap, IntKind.signed, IntKind.bits]
  simp
  omega

/-- What a new form's call holds while it goes on: its box, its result's room, old memory. -/
structure TimesH (w : World) (a : Option Addr) (cap : Nat) (c : Option Addr) (cap' : Nat) (K : Int) (w' : World) : Prop where
  p : Cel w' w.heap.size [.slice a 3 cap, .slice c 2 cap', .int .i64 K] 127
  r : Cel w' (w.heap.size + 1) [.slice none 0 0, .slice none 0 0, .int .i64 0] 127
  b : Below w.heap.size w w'
theorem TimesH.below {w W w3 : World} {a c : Option Addr} {cap cap' : Nat} {K : Int} (h : TimesH w a cap c cap' K W) (b : Below W.heap.size W w3) : TimesH w a cap c cap' K w3 :=
  ⟨h.p.below b, h.r.below b, h.b.trans (b.mono h.b.size)⟩
theorem TimesH.drew {w W : World} {a c : Option Addr} {cap cap' : Nat} {K : Int} (h : TimesH w a cap c cap' K W) : TimesH w a cap c cap' K W.drew := ⟨h.p, h.r, h.b.drew⟩
theorem TimesH.alloc {w W : World} {a c : Option Addr} {cap cap' : Nat} {K : Int} (h : TimesH w a cap c cap' K W) (o : Obj) : TimesH w a cap c cap' K (W.alloc o) := h.below ((Below.refl _ _).alloc (Nat.le_refl _) _)
theorem TimesH.set {w W : World} {a c : Option Addr} {cap cap' : Nat} {K : Int} (h : TimesH w a cap c cap' K W) {X : Nat} (hX : w.heap.size + 1 < X) (i : Nat) (v : Value) : TimesH w a cap c cap' K (W.setCell ⟨X, i, none⟩ v) :=
  ⟨h.p.setOther (by omega) i v, h.r.setOther (by omega) i v, h.b.setCell (by show w.heap.size ≤ X; omega) v⟩
theorem Cel.trio {w : World} {B : Nat} {x y z : Value} {t : TypeId} (h : Cel w B [x, y, z] t) : w.cell? ⟨B, 0, none⟩ = some x ∧ w.cell? ⟨B, 1, none⟩ = some y ∧ w.cell? ⟨B, 2, none⟩ = some z ∧ w.frozen? ⟨B, 0, none⟩ = false ∧ w.frozen? ⟨B, 1, none⟩ = false ∧ w.frozen? ⟨B, 2, none⟩ = false := ⟨h.cell 0, h.cell 1, h.cell 2, h.free 0, h.free 1, h.free 2⟩
theorem TimesH.cells {w w' : World} {a c : Option Addr} {cap cap' : Nat} {K : Int} (h : TimesH w a cap c cap' K w') :
    w'.cell? ⟨w.heap.size, 0, none⟩ = some (.slice a 3 cap) ∧ w'.cell? ⟨w.heap.size, 1, none⟩ = some (.slice c 2 cap') ∧ w'.cell? ⟨w.heap.size, 2, none⟩ = some (.int .i64 K) := ⟨h.p.cell 0, h.p.cell 1, h.p.cell 2⟩
theorem TimesH.room {w w' : World} {a c : Option Addr} {cap cap' : Nat} {K : Int} (h : TimesH w a cap c cap' K w') :
    w'.cell? ⟨w.heap.size + 1, 0, none⟩ = some (.slice none 0 0) ∧ w'.cell? ⟨w.heap.size + 1, 1, none⟩ = some (.slice none 0 0) ∧ w'.cell? ⟨w.heap.size + 1, 2, none⟩ = some (.int .i64 0) ∧ w'.frozen? ⟨w.heap.size + 1, 0, none⟩ = false ∧ w'.frozen? ⟨w.heap.size + 1, 1, none⟩ = false ∧ w'.frozen? ⟨w.heap.size + 1, 2, none⟩ = false := ⟨h.r.cell 0, h.r.cell 1, h.r.cell 2, h.r.free 0, h.r.free 1, h.r.free 2⟩

set_option maxHeartbeats 1600000 in
theorem times_any (a : Option Addr) (cap : Nat) (c : Option Addr) (cap' : Nat) (K : Int) (C D : List Int) (n : Int) (w : World)
    (hC : Ints w a 3 C) (hD : Ints w c 2 D) (tC : bndT 1000000000000000000 n C) (tD : bndT 1000000000000000000 n D) (tK : -1000000000000000000 ≤ n * K ∧ n * K ≤ 1000000000000000000) :
    Calls Tryz.prog 229 #[formV a 3 cap c 2 cap' K, .int .i64 n] w fun e w' => ∃ B1 B2, e = .returned (formV (some ⟨B1, 0, none⟩) 3 3 (some ⟨B2, 0, none⟩) 2 2 (n * K)) ∧ Below w.heap.size w w' ∧ w.heap.size ≤ B1 ∧ B1 ≠ B2 ∧ w.heap.size ≤ B2 ∧ Blk w' B1 (mulL n C) ∧ Blk w' B2 (mulL n D) := by
  obtain ⟨tK1, tK2⟩ := tK
  go_enter Tryz.func229, Tryz.ntmps229
  go_wp2_with fail
  have H0 : TimesH w a cap c cap' K (((w.alloc (Obj.cells #[Value.slice a 3 cap, Value.slice c 2 cap', Value.int IntKind.i64 K] 127)).alloc (Obj.cells #[Value.slice none 0 0, Value.slice none 0 0, Value.int IntKind.i64 0] 127)).drew) :=
    ⟨(Cel.new w _ _).alloc _, by have := Cel.new (w.alloc (Obj.cells #[Value.slice a 3 cap, Value.slice c 2 cap', Value.int IntKind.i64 K] 127)) [.slice none 0 0, .slice none 0 0, .int .i64 0] 127; rw [World.size_alloc] at this; exact this, (((Below.refl _ _).alloc (Nat.le_refl _) _).alloc (by simp) _).drew⟩
  go_region_held3 (fun w' => w'.cell? ⟨w.heap.size, 0, none⟩ = some (.slice a 3 cap) ∧ w'.cell? ⟨w.heap.size, 1, none⟩ = some (.slice c 2 cap') ∧ w'.cell? ⟨w.heap.size, 2, none⟩ = some (.int .i64 K)) (first | assumption | go_keep)
    (first
      | (go_at_call_of 200 (Value.slice a 3 cap); refine (timesEach_any _ _ _ C _ _ (hC.below (TimesH.b (a := a) (c := c) (cap := cap) (cap' := cap') (K := K) (by assumption))) (by omega) tC).mono ?_; rintro e w3 ⟨rfl, b3, k3⟩; have h3 := TimesH.below (w := w) (a := a) (c := c) (cap := cap) (cap' := cap') (K := K) (by assumption) b3; have g3 := h3.cells; obtain ⟨x0, x1, x2, x3, x4, x5⟩ := h3.room)
      | (go_at_call_of 200 (Value.slice c 2 cap'); refine (timesEach_any _ _ _ D _ _ (hD.below (TimesH.b (a := a) (c := c) (cap := cap) (cap' := cap') (K := K) (by assumption))) (by omega) tD).mono ?_; rintro e w4 ⟨rfl, b4, k4⟩; have h4 := TimesH.below (w := w) (a := a) (c := c) (cap := cap) (cap' := cap') (K := K) (by assumption) b4; have g4 := h4.cells; obtain ⟨y0, y1, y2, y3, y4, y5⟩ := h4.room))
  have hw := wrap_id tK1 tK2
  have e3 : ((w.alloc (Obj.cells #[Value.slice a 3 cap, Value.slice c 2 cap', Value.int IntKind.i64 K] 127)).alloc (Obj.cells #[Value.slice none 0 0, Value.slice none 0 0, Value.int IntKind.i64 0] 127)).drew.heap.size = w.heap.size + 1 + 1 := by show (World.alloc _ _).heap.size = _; rw [World.size_alloc, World.size_alloc]
  rw [e3] at k3
  have k3' := k3.below b4
  have l3 := k3.lt
  have l4 := k4.lt
  have q0 := h4.r.free 0
  clear e3 b3 b4 h3 g3 H0 k3
  go_wp2
  refine bodyPost_ret (v := formV (some ⟨w.heap.size + 1 + 1, 0, none⟩) 3 3 (some ⟨w3.heap.size, 0, none⟩) 2 2 (n * K)) (by simp [results, Tryz.results229, go_sem, y0, y1, y2, hw]) rfl ⟨_, _, rfl, ?_, by omega, by omega, by omega, ?_, ?_⟩
  · exact ((h4.b.setCell (by simp only []; omega) _).setCell (by simp only []; omega) _).setCell (by simp only []; omega) _
  · exact ((k3'.setOther (by omega) _ _).setOther (by omega) _ _).setOther (by omega) _ _
  · exact ((k4.setOther (by omega) _ _).setOther (by omega) _ _).setOther (by omega) _ _

/-- What comes, if it is ok. -/
def keepL (b : Bool) (L : List Int) : List Int := if b then L else []
def keepK (b : Bool) (K : Int) : Int := if b then K else 0
theorem keepL_no (L : List Int) : keepL false L = [] := rfl
theorem keepL_yes (L : List Int) : keepL true L = L := rfl
theorem keepK_no (K : Int) : keepK false K = 0 := rfl
theorem keepK_yes (K : Int) : keepK true K = K := rfl
theorem keepL_len {b : Bool} {L : List Int} {n : Nat} (h : L.length ≤ n) : (keepL b L).length ≤ n := by cases b <;> simp [keepL, h]

set_option maxHeartbeats 400000 in
theorem orN_yes (a : Option Addr) (n cap : Nat) (c : Option Addr) (m cap' : Nat) (K : Int) (C D : List Int) (w : World) (hC : Ints w a n C) (hD : Ints w c m D) (hn : n ≤ 1048576) (hm : m ≤ 1048576) (h : formB n m C D K = true) :
    Calls Tryz.prog 230 #[formV a n cap c m cap' K] w fun e w' => e = .returned (formV a n cap c m cap' K) ∧ Below w.heap.size w w' := by
  go_enter Tryz.func230, Tryz.ntmps230
  go_wp2_with fail
  refine (iok_any _ _ _ _ _ _ _ C D _ ((hC.alloc _).alloc _) ((hD.alloc _).alloc _) hn hm).mono ?_
  rintro e w1 ⟨rfl, b1⟩
  have p0 := ((Cel.new w _ _).alloc _).below b1
  have p1 := (Cel.new (w.alloc _) _ _).below b1
  rw [World.size_alloc] at p1
  have hb : Below w.heap.size w w1 := (((Below.refl _ _).alloc (Nat.le_refl _) _).alloc (by simp) _).trans (b1.mono (by simp; omega))
  have c0 := p0.cell 0
  have c1 := p0.cell 1
  have c2 := p0.cell 2
  have r0 := p1.cell 0
  have r1 := p1.cell 1
  have r2 := p1.cell 2
  have r3 := p1.free 0
  have r4 := p1.free 1
  have r5 := p1.free 2
  simp only [List.getElem?_cons_zero, List.getElem?_cons_succ] at c0 c1 c2 r0 r1 r2
  go_wp2
  refine bodyPost_ret (v := formV a n cap c m cap' K) (by simp [results, Tryz.results230, go_sem, r0, r1, r2]) rfl ⟨rfl, ?_⟩
  exact ((hb.setCell (by simp only []; omega) _).setCell (by simp only []; omega) _).setCell (by simp only []; omega) _

set_option maxHeartbeats 400000 in
theorem orN_no (a : Option Addr) (n cap : Nat) (c : Option Addr) (m cap' : Nat) (K : Int) (C D : List Int) (w : World) (hC : Ints w a n C) (hD : Ints w c m D) (hn : n ≤ 1048576) (hm : m ≤ 1048576) (h : formB n m C D K = false) :
    Calls Tryz.prog 230 #[formV a n cap c m cap' K] w fun e w' => e = .returned (formV none 0 0 none 0 0 0) ∧ Below w.heap.size w w' := by
  go_enter Tryz.func230, Tryz.ntmps230
  go_wp2_with fail
  refine (iok_any _ _ _ _ _ _ _ C D _ ((hC.alloc _).alloc _) ((hD.alloc _).alloc _) hn hm).mono ?_
  rintro e w1 ⟨rfl, b1⟩
  have p1 := (Cel.new (w.alloc _) _ _).below b1
  rw [World.size_alloc] at p1
  have hb : Below w.heap.size w w1 := (((Below.refl _ _).alloc (Nat.le_refl _) _).alloc (by simp) _).trans (b1.mono (by simp; omega))
  have r0 := p1.cell 0
  have r1 := p1.cell 1
  have r2 := p1.cell 2
  have r3 := p1.free 0
  have r4 := p1.free 1
  have r5 := p1.free 2
  simp only [List.getElem?_cons_zero, List.getElem?_cons_succ] at r0 r1 r2
  go_wp2
  refine bodyPost_ret (v := formV none 0 0 none 0 0 0) (by simp [results, Tryz.results230, go_sem, r0, r1, r2]) rfl ⟨rfl, ?_⟩
  exact ((hb.setCell (by simp only []; omega) _).setCell (by simp only []; omega) _).setCell (by simp only []; omega) _

/-- Whether so many times a form is ok. -/
def timOk (n m : Nat) (C D : List Int) (K k : Int) : Bool := formB n m C D K && inB k (-10000000) 10000000 && formB 3 2 (mulL k C) (mulL k D) (k * K)

theorem tim_bnd {C : List Int} {k : Int} (h : bnd 10000000 C) (h1 : -10000000 ≤ k) (h2 : k ≤ 10000000) : bndT 1000000000000000000 k C := by
  intro i
  have := bndT_of h h1 h2 (by omega) (by omega) i
  omega
theorem tim_num {K k : Int} (a1 : -10000000 ≤ K) (a2 : K ≤ 10000000) (h1 : -10000000 ≤ k) (h2 : k ≤ 10000000) : -1000000000000000000 ≤ k * K ∧ k * K ≤ 1000000000000000000 := by
  have hx' : k.natAbs ≤ 10000000 := by omega
  have hy' : K.natAbs ≤ 10000000 := by omega
  have hm : (k * K).natAbs ≤ 10000000 * 10000000 := by rw [Int.natAbs_mul]; exact Nat.mul_le_mul hx' hy'
  omega

set_option maxHeartbeats 1600000 in
theorem itim_any (a : Option Addr) (n cap : Nat) (c : Option Addr) (m cap' : Nat) (K : Int) (C D : List Int) (k : Int) (w : World) (hC : Ints w a n C) (hD : Ints w c m D) (hn : n ≤ 1048576) (hm : m ≤ 1048576) :
    Calls Tryz.prog 226 #[formV a n cap c m cap' K, .int .i64 k] w fun e w' => Res w w' e (keepL (timOk n m C D K k) (mulL k C)) (keepL (timOk n m C D K k) (mulL k D)) (keepK (timOk n m C D K k) (k * K)) := by
  have bo : ∀ o o' : Obj, Below w.heap.size w ((w.alloc o).alloc o') := fun o o' => ((Below.refl _ _).alloc (Nat.le_refl _) _).alloc (by simp) _
  cases h1 : formB n m C D K
  · have ht : timOk n m C D K k = false := by simp [timOk, h1]
    rw [ht, keepL_no, keepL_no, keepK_no]
    go_enter Tryz.func226, Tryz.ntmps226
    go_wp2_with fail
    refine (iok_any _ _ _ _ _ _ _ C D _ ((hC.alloc _).alloc _) ((hD.alloc _).alloc _) hn hm).mono ?_
    rintro e w1 ⟨rfl, b1⟩
    have p1 := (Cel.new (w.alloc _) _ _).below b1
    rw [World.size_alloc] at p1
    have hb : Below w.heap.size w w1 := (bo _ _).trans (b1.mono (by simp; omega))
    have r0 := p1.cell 0
    have r1 := p1.cell 1
    have r2 := p1.cell 2
    have r3 := p1.free 0
    have r4 := p1.free 1
    have r5 := p1.free 2
    simp only [List.getElem?_cons_zero, List.getElem?_cons_succ] at r0 r1 r2
    go_wp2
    refine bodyPost_ret (v := formV none 0 0 none 0 0 0) (by simp [results, Tryz.results226, go_sem, r0, r1, r2]) rfl (Res.none rfl ?_)
    exact ((hb.setCell (by simp only []; omega) _).setCell (by simp only []; omega) _).setCell (by simp only []; omega) _
  · cases h2 : inB k (-10000000) 10000000
    · have ht : timOk n m C D K k = false := by simp [timOk, h2]
      rw [ht, keepL_no, keepL_no, keepK_no]
      have ha : allB 10000000 [k] = false := by rw [allB_one]; exact h2
      go_enter Tryz.func226, Tryz.ntmps226
      go_wp2_with fail
      refine (iok_any _ _ _ _ _ _ _ C D _ ((hC.alloc _).alloc _) ((hD.alloc _).alloc _) hn hm).mono ?_
      rintro e w1 ⟨rfl, b1⟩
      have p1 := (Cel.new (w.alloc _) _ _).below b1
      rw [World.size_alloc] at p1
      have hb : Below w.heap.size w w1 := (bo _ _).trans (b1.mono (by simp; omega))
      have l1 := p1.lt
      go_wp2_with fail
      refine (within_any (some ⟨w1.heap.size, 0, none⟩) 1 1 [k] _ _ ?_ (by omega) (by omega) (by omega)).mono ?_
      · refine ⟨rfl, fun i hi => ⟨w1.heap.size, 0, rfl, ?_⟩⟩
        obtain rfl : i = 0 := by omega
        simp [go_sem]
      rintro e w2 ⟨rfl, rfl⟩
      have r0 := p1.cell 0
      have r1 := p1.cell 1
      have r2 := p1.cell 2
      have r3 := p1.free 0
      have r4 := p1.free 1
      have r5 := p1.free 2
      simp only [List.getElem?_cons_zero, List.getElem?_cons_succ] at r0 r1 r2
      go_wp2
      refine bodyPost_ret (v := formV none 0 0 none 0 0 0) (by simp [results, Tryz.results226, go_sem, r0, r1, r2, l1]) rfl (Res.none rfl ?_)
      exact (((hb.setCell (by simp only []; omega) _).setCell (by simp only []; omega) _).setCell (by simp only []; omega) _).alloc (by have := hb.size; rw [size_setCell, size_setCell, size_setCell]; omega) _
    · obtain ⟨rfl, rfl, bC, bD, bK1, bK2⟩ := formB_elim h1
      obtain ⟨hk1, hk2⟩ := inB_iff.1 h2
      have ha : allB 10000000 [k] = true := by rw [allB_one]; exact h2
      have tC := tim_bnd bC hk1 hk2
      have tD := tim_bnd bD hk1 hk2
      have tK := tim_num bK1 bK2 hk1 hk2
      have LC : (mulL k C).length = 3 := by rw [mulL_len]; exact hC.1
      have LD : (mulL k D).length = 2 := by rw [mulL_len]; exact hD.1
      have ht : timOk 3 2 C D K k = formB 3 2 (mulL k C) (mulL k D) (k * K) := by simp [timOk, h1, h2]
      cases h3 : formB 3 2 (mulL k C) (mulL k D) (k * K)
      all_goals
        rw [ht, h3]
        clear ht
        go_enter Tryz.func226, Tryz.ntmps226
        go_wp2_with fail
        refine (iok_any _ _ _ _ _ _ _ C D _ ((hC.alloc _).alloc _) ((hD.alloc _).alloc _) hn hm).mono ?_
        rintro e w1 ⟨rfl, b1⟩
        have p0 := ((Cel.new w _ _).alloc _).below b1
        have p1 := (Cel.new (w.alloc _) _ _).below b1
        rw [World.size_alloc] at p1
        have hb : Below w.heap.size w w1 := (bo _ _).trans (b1.mono (by simp; omega))
        have l1 := p1.lt
        clear b1
        go_wp2_with fail
        refine (within_any (some ⟨w1.heap.size, 0, none⟩) 1 1 [k] _ _ ?_ (by omega) (by omega) (by omega)).mono ?_
        · refine ⟨rfl, fun i hi => ⟨w1.heap.size, 0, rfl, ?_⟩⟩
          obtain rfl : i = 0 := by omega
          simp [go_sem]
        rintro e w2 ⟨rfl, rfl⟩
        have c0 := p0.cell 0
        have c1 := p0.cell 1
        have c2 := p0.cell 2
        simp only [List.getElem?_cons_zero, List.getElem?_cons_succ] at c0 c1 c2
        have l0 := p0.lt
        go_wp2_with fail
        refine (times_any _ _ _ _ _ C D _ _ ((hC.below hb).alloc _) ((hD.below hb).alloc _) tC tD tK).mono ?_
        rintro e w3 ⟨B1, B2, rfl, b3, g1, g2, g3, k1, k2⟩
        rw [World.size_alloc] at g1 g3
        have p3 := (p1.alloc _).below b3
        have hb3 : Below w.heap.size w w3 := (hb.alloc hb.size _).trans (b3.mono (by have := hb.size; simp; omega))
        clear b3 c0 c1 c2 p0 p1
        go_wp2_with fail
        first
          | (refine (orN_no _ _ _ _ _ _ _ (mulL k C) (mulL k D) _ (k1.ints' LC) (k2.ints' LD) hn hm h3).mono ?_)
          | (refine (orN_yes _ _ _ _ _ _ _ (mulL k C) (mulL k D) _ (k1.ints' LC) (k2.ints' LD) hn hm h3).mono ?_)
        rintro e w4 ⟨rfl, b4⟩
        have p4 := p3.below b4
        have k1' := k1.below b4
        have k2' := k2.below b4
        have hb4 := hb3.trans (b4.mono hb3.size)
        have hw1 := hb.size
        have r0 := p4.cell 0
        have r1 := p4.cell 1
        have r2 := p4.cell 2
        have r3 := p4.free 0
        have r4 := p4.free 1
        have r5 := p4.free 2
        simp only [List.getElem?_cons_zero, List.getElem?_cons_succ] at r0 r1 r2
        clear b4 p3 p4 k1 k2 hb3 tC tD tK bC bD
        go_wp2
      · refine bodyPost_ret (v := formV none 0 0 none 0 0 0) (by simp [results, Tryz.results226, go_sem, r0, r1, r2]) rfl (Res.none rfl ?_)
        exact ((hb4.setCell (by simp only []; omega) _).setCell (by simp only []; omega) _).setCell (by simp only []; omega) _
      · refine bodyPost_ret (v := formV (some ⟨B1, 0, none⟩) 3 3 (some ⟨B2, 0, none⟩) 2 2 (k * K)) (by simp [results, Tryz.results226, go_sem, r0, r1, r2]) rfl (Res.of (B1 := B1) (B2 := B2) rfl LC LD ?_ (by omega) g2 (by omega) ?_ ?_)
        · exact ((hb4.setCell (by simp only []; omega) _).setCell (by simp only []; omega) _).setCell (by simp only []; omega) _
        · exact ((k1'.setOther (by omega) _ _).setOther (by omega) _ _).setOther (by omega) _ _
        · exact ((k2'.setOther (by omega) _ _).setOther (by omega) _ _).setOther (by omega) _ _

theorem lin_zero3 {C : List Int} {k : Int} (h : C.length = 3) : lin [0, 0, 0] C k = mulL k C := by
  match C, h with
  | [x, y, z], _ => simp [lin, mulL]
theorem lin_zero2 {D : List Int} {k : Int} (h : D.length = 2) : lin [0, 0] D k = mulL k D := by
  match D, h with
  | [x, y], _ => simp [lin, mulL]
theorem bnd_lit3 : bnd 1000000000000000000 [0, 0, 0] := fun i => by have := bnd_zeros 3 i; simp only [List.replicate] at this; omega
theorem bnd_lit2 : bnd 1000000000000000000 [0, 0] := fun i => by have := bnd_zeros 2 i; simp only [List.replicate] at this; omega

end Go.Proofs.YtacjjhfbnbmnlaaGreatDoor

namespace Go.Proofs.YtacjjhfbnbmnlaaGreatDoor
open Go.RowKit
set_option linter.unusedVariables false

/-- A form as it lies in memory. -/
structure FV where
  a : Option Addr
  n : Nat
  cap : Nat
  c : Option Addr
  m : Nat
  cap' : Nat
  K : Int
  C : List Int
  D : List Int
def FV.v (f : FV) : Value := formV f.a f.n f.cap f.c f.m f.cap' f.K
def FV.cs (f : FV) : List Value := [.slice f.a f.n f.cap, .slice f.c f.m f.cap', .int .i64 f.K]
def FV.ok (f : FV) : Bool := formB f.n f.m f.C f.D f.K
def FV.frm (f : FV) : Frm := (f.C, f.D, f.K)
def noFV : FV := ⟨none, 0, 0, none, 0, 0, 0, [], []⟩
structure FV.At (f : FV) (w : World) : Prop where
  C : Ints w f.a f.n f.C
  D : Ints w f.c f.m f.D
  hn : f.n ≤ 1048576
  hm : f.m ≤ 1048576
theorem FV.At.below {f : FV} {w w' : World} (h : f.At w) (b : Below w.heap.size w w') : f.At w' := ⟨h.C.below b, h.D.below b, h.hn, h.hm⟩

/-- A slice of forms in memory, of any lengths. -/
def FormsG (w : World) (ad : Option Addr) (fs : List FV) : Prop :=
  ∀ i, i < fs.length → ∃ b off, ad = some ⟨b, off, none⟩ ∧ w.cell? ⟨b, off + i * 3, none⟩ = some (.slice (fs[i]?.getD noFV).a (fs[i]?.getD noFV).n (fs[i]?.getD noFV).cap) ∧ w.cell? ⟨b, off + i * 3 + 1, none⟩ = some (.slice (fs[i]?.getD noFV).c (fs[i]?.getD noFV).m (fs[i]?.getD noFV).cap') ∧ w.cell? ⟨b, off + i * 3 + 2, none⟩ = some (.int .i64 (fs[i]?.getD noFV).K) ∧ (fs[i]?.getD noFV).At w
theorem FormsG.below {w w' : World} {ad : Option Addr} {fs : List FV} (h : FormsG w ad fs) (hb : Below w.heap.size w w') : FormsG w' ad fs := by
  intro i hi
  obtain ⟨b, off, e, e0, e1, e2, e3⟩ := h i hi
  exact ⟨b, off, e, (hb.cell (p := ⟨b, off + i * 3, none⟩) (block_lt e0)).trans e0, (hb.cell (p := ⟨b, off + i * 3 + 1, none⟩) (block_lt e0)).trans e1, (hb.cell (p := ⟨b, off + i * 3 + 2, none⟩) (block_lt e0)).trans e2, e3.below hb⟩
theorem FormsG.at {w : World} {ad : Option Addr} {fs : List FV} (h : FormsG w ad fs) (hok : fs.all FV.ok = true) : FormsAt w ad (fs.map FV.frm) ∧ ∀ i, i < (fs.map FV.frm).length → fits 10000000 ((fs.map FV.frm)[i]?.getD ([], [], 0)) := by
  have key : ∀ i, i < fs.length → (fs.map FV.frm)[i]?.getD ([], [], 0) = (fs[i]?.getD noFV).frm ∧ (fs[i]?.getD noFV).ok = true := by
    intro i hi
    rw [List.getElem?_map, List.getElem?_eq_getElem hi]
    refine ⟨rfl, ?_⟩
    rw [List.all_eq_true] at hok
    exact hok _ (List.getElem_mem hi)
  refine ⟨fun i hi => ?_, fun i hi => ?_⟩
  · rw [List.length_map] at hi
    obtain ⟨b, off, e, e0, e1, e2, e3⟩ := h i hi
    obtain ⟨k1, k2⟩ := key i hi
    obtain ⟨n3, m2, _⟩ := formB_elim k2
    have hC := e3.C
    have hD := e3.D
    rw [n3] at e0 hC
    rw [m2] at e1 hD
    rw [k1]
    exact ⟨b, off, e, _, _, _, _, e0, e1, e2, hC, hD⟩
  · rw [List.length_map] at hi
    obtain ⟨b, off, e, e0, e1, e2, e3⟩ := h i hi
    obtain ⟨k1, k2⟩ := key i hi
    obtain ⟨n3, m2, bC, bD, bK1, bK2⟩ := formB_elim k2
    rw [k1]
    exact ⟨by have := e3.C.1; simp only [FV.frm]; omega, by have := e3.D.1; simp only [FV.frm]; omega, bC, bD, bK1, bK2⟩

theorem all_take_succ {fs : List FV} {k : Nat} (h : k < fs.length) (h1 : (fs.take k).all FV.ok = true) (h2 : (fs[k]?.getD noFV).ok = true) : (fs.take (k + 1)).all FV.ok = true := by
  rw [List.take_succ_eq_append_getElem h, List.all_append, h1]
  rw [List.getElem?_eq_getElem h] at h2
  simpa using h2
theorem all_no {fs : List FV} {k : Nat} (h : k < fs.length) (h2 : (fs[k]?.getD noFV).ok = false) : fs.all FV.ok = false := by
  rw [List.all_eq_false]
  rw [List.getElem?_eq_getElem h] at h2
  exact ⟨fs[k], List.getElem_mem h, by simpa using h2⟩

set_option maxHeartbeats 800000 in
theorem allForms_any (ad : Option Addr) (N cap : Nat) (fs : List FV) (w : World) (hN : fs.length = N) (hF : FormsG w ad fs) (hN1 : N ≤ 1048576) :
    Calls Tryz.prog 227 #[.slice ad N cap] w fun e w' => e = .returned (.bool (fs.all FV.ok)) ∧ Below w.heap.size w w' := by
  have HN : Hid (fs.length = N) := hN
  clear hN
  go_enter Tryz.func227, Tryz.ntmps227
  go_wp2_with fail
  go_loopw [4, 7] (fun _ i wr => ∃ k : Nat, k ≤ N ∧ i = .int .i64 k ∧ Below w.heap.size w wr ∧ (fs.take k).all FV.ok = true) (fun _ i _ => N - (intOf i).toNat)
  case atStart => exact ⟨0, Nat.zero_le _, rfl, Below.refl _ _, by simp⟩
  case round =>
    obtain ⟨k, hk, rfl, hb, hall⟩ := hrel
    have HA : Hid ((fs.take k).all FV.ok = true) := hall
    clear hall
    by_cases hlt : k < N
    · obtain ⟨b, off, rfl, e0, e1, e2, e3⟩ := (hF.below hb) k (by rw [HN.out]; exact hlt)
      generalize HG : fs[k]?.getD noFV = g at *
      have HG' : Hid (fs[k]?.getD noFV = g) := HG
      clear HG hF
      obtain ⟨ga, gn, gcap, gc, gm, gcap', gK, gC, gD⟩ := g
      obtain ⟨iC, iD, hn, hm⟩ := e3
      simp only at e0 e1 e2 iC iD hn hm
      cases hf : formB gn gm gC gD gK
      · go_wp2_with fail
        refine (iok_any _ _ _ _ _ _ _ gC gD _ (iC.alloc _) (iD.alloc _) hn hm).mono ?_
        rintro e w1 ⟨rfl, b1⟩
        have B1 := (hb.alloc hb.size _).trans (b1.mono (by have := hb.size; simp; omega))
        go_wp2
        go_ret
        exact ⟨ret_bool (all_no (k := k) (by rw [HN.out]; exact hlt) (by rw [HG'.out]; exact hf)).symm, B1⟩
      · go_wp2_with fail
        refine (iok_any _ _ _ _ _ _ _ gC gD _ (iC.alloc _) (iD.alloc _) hn hm).mono ?_
        rintro e w1 ⟨rfl, b1⟩
        have B1 := (hb.alloc hb.size _).trans (b1.mono (by have := hb.size; simp; omega))
        clear b1 hb iC iD e0 e1 e2
        go_wp2
        go_roundw
        case rel => exact ⟨k + 1, by omega, by go_num, B1, all_take_succ (by rw [HN.out]; exact hlt) HA.out (by rw [HG'.out]; exact hf)⟩
        case measure => simp [intOf]; omega
    · go_wp2
      go_ret
      exact ⟨ret_bool (by have := HA.out; rw [List.take_of_length_le (by rw [HN.out]; omega)] at this; exact this.symm), hb⟩

/-- Whether a sum is ok. -/
def addOk (n m : Nat) (C D : List Int) (K : Int) (n2 m2 : Nat) (C2 D2 : List Int) (K2 : Int) : Bool := formB n m C D K && formB n2 m2 C2 D2 K2 && formB 3 2 (lin C C2 1) (lin D D2 1) (K + 1 * K2)

/-- What a call on two forms holds while it goes on: both boxes, its result's room, old memory. -/
structure H2 (w : World) (a : Option Addr) (n cap : Nat) (c : Option Addr) (m cap' : Nat) (K : Int) (a2 : Option Addr) (n2 cap2 : Nat) (c2 : Option Addr) (m2 cap2' : Nat) (K2 : Int) (w' : World) : Prop where
  p : Cel w' w.heap.size [.slice a n cap, .slice c m cap', .int .i64 K] 127
  q : Cel w' (w.heap.size + 1) [.slice a2 n2 cap2, .slice c2 m2 cap2', .int .i64 K2] 127
  r : Cel w' (w.heap.size + 1 + 1) [.slice none 0 0, .slice none 0 0, .int .i64 0] 127
  b : Below w.heap.size w w'
section
variable {w W w3 : World} {a c a2 c2 : Option Addr} {n cap m cap' n2 cap2 m2 cap2' : Nat} {K K2 : Int}
theorem H2.below (h : H2 w a n cap c m cap' K a2 n2 cap2 c2 m2 cap2' K2 W) (b : Below W.heap.size W w3) : H2 w a n cap c m cap' K a2 n2 cap2 c2 m2 cap2' K2 w3 :=
  ⟨h.p.below b, h.q.below b, h.r.below b, h.b.trans (b.mono h.b.size)⟩
theorem H2.alloc (h : H2 w a n cap c m cap' K a2 n2 cap2 c2 m2 cap2' K2 W) (o : Obj) : H2 w a n cap c m cap' K a2 n2 cap2 c2 m2 cap2' K2 (W.alloc o) := h.below ((Below.refl _ _).alloc (Nat.le_refl _) _)
theorem H2.new : H2 w a n cap c m cap' K a2 n2 cap2 c2 m2 cap2' K2 (((w.alloc (Obj.cells #[Value.slice a n cap, Value.slice c m cap', Value.int IntKind.i64 K] 127)).alloc (Obj.cells #[Value.slice a2 n2 cap2, Value.slice c2 m2 cap2', Value.int IntKind.i64 K2] 127)).alloc (Obj.cells #[Value.slice none 0 0, Value.slice none 0 0, Value.int IntKind.i64 0] 127)) := by
  have q := (Cel.new (w.alloc (Obj.cells #[Value.slice a n cap, Value.slice c m cap', Value.int IntKind.i64 K] 127)) [.slice a2 n2 cap2, .slice c2 m2 cap2', .int .i64 K2] 127).alloc (Obj.cells #[Value.slice none 0 0, Value.slice none 0 0, Value.int IntKind.i64 0] 127)
  have r := Cel.new ((w.alloc (Obj.cells #[Value.slice a n cap, Value.slice c m cap', Value.int IntKind.i64 K] 127)).alloc (Obj.cells #[Value.slice a2 n2 cap2, Value.slice c2 m2 cap2', Value.int IntKind.i64 K2] 127)) [.slice none 0 0, .slice none 0 0, .int .i64 0] 127
  rw [World.size_alloc] at q
  rw [World.size_alloc, World.size_alloc] at r
  exact ⟨((Cel.new w _ _).alloc _).alloc _, q, r, (((Below.refl _ _).alloc (Nat.le_refl _) _).alloc (by simp) _).alloc (by simp; omega) _⟩
theorem H2.cells (h : H2 w a n cap c m cap' K a2 n2 cap2 c2 m2 cap2' K2 W) :
    W.cell? ⟨w.heap.size, 0, none⟩ = some (.slice a n cap) ∧ W.cell? ⟨w.heap.size, 1, none⟩ = some (.slice c m cap') ∧ W.cell? ⟨w.heap.size, 2, none⟩ = some (.int .i64 K) ∧
    W.cell? ⟨w.heap.size + 1, 0, none⟩ = some (.slice a2 n2 cap2) ∧ W.cell? ⟨w.heap.size + 1, 1, none⟩ = some (.slice c2 m2 cap2') ∧ W.cell? ⟨w.heap.size + 1, 2, none⟩ = some (.int .i64 K2) := ⟨h.p.cell 0, h.p.cell 1, h.p.cell 2, h.q.cell 0, h.q.cell 1, h.q.cell 2⟩
theorem H2.room (h : H2 w a n cap c m cap' K a2 n2 cap2 c2 m2 cap2' K2 W) :
    W.cell? ⟨w.heap.size + 1 + 1, 0, none⟩ = some (.slice none 0 0) ∧ W.cell? ⟨w.heap.size + 1 + 1, 1, none⟩ = some (.slice none 0 0) ∧ W.cell? ⟨w.heap.size + 1 + 1, 2, none⟩ = some (.int .i64 0) ∧ W.frozen? ⟨w.heap.size + 1 + 1, 0, none⟩ = false ∧ W.frozen? ⟨w.heap.size + 1 + 1, 1, none⟩ = false ∧ W.frozen? ⟨w.heap.size + 1 + 1, 2, none⟩ = false := ⟨h.r.cell 0, h.r.cell 1, h.r.cell 2, h.r.free 0, h.r.free 1, h.r.free 2⟩
end

theorem sum_two {C D C2 D2 : List Int} {K K2 : Int} (hC : C.length = 3) (hD : D.length = 2) (hC2 : C2.length = 3) (hD2 : D2.length = 2) :
    sumC [(C, D, K), (C2, D2, K2)] 2 = lin C C2 1 ∧ sumD [(C, D, K), (C2, D2, K2)] 2 = lin D D2 1 ∧ sumK [(C, D, K), (C2, D2, K2)] 2 = K + 1 * K2 := by
  match C, hC, C2, hC2, D, hD, D2, hD2 with
  | [x, y, z], _, [x', y', z'], _, [u, v], _, [u', v'], _ => simp [sumC, sumD, sumK, lin]

set_option maxHeartbeats 3200000 in
theorem iadd_any (a : Option Addr) (n cap : Nat) (c : Option Addr) (m cap' : Nat) (K : Int) (C D : List Int) (a2 : Option Addr) (n2 cap2 : Nat) (c2 : Option Addr) (m2 cap2' : Nat) (K2 : Int) (C2 D2 : List Int) (w : World) (hC : Ints w a n C) (hD : Ints w c m D) (hC2 : Ints w a2 n2 C2) (hD2 : Ints w c2 m2 D2) (hn : n ≤ 1048576) (hm : m ≤ 1048576) (hn2 : n2 ≤ 1048576) (hm2 : m2 ≤ 1048576) :
    Calls Tryz.prog 225 #[formV a n cap c m cap' K, formV a2 n2 cap2 c2 m2 cap2' K2] w fun e w' => Res w w' e (keepL (addOk n m C D K n2 m2 C2 D2 K2) (lin C C2 1)) (keepL (addOk n m C D K n2 m2 C2 D2 K2) (lin D D2 1)) (keepK (addOk n m C D K n2 m2 C2 D2 K2) (K + 1 * K2)) := by
  have n0 := H2.new (w := w) (a := a) (n := n) (cap := cap) (c := c) (m := m) (cap' := cap') (K := K) (a2 := a2) (n2 := n2) (cap2 := cap2) (c2 := c2) (m2 := m2) (cap2' := cap2') (K2 := K2)
  obtain ⟨fs, hfs⟩ : ∃ fs : List FV, fs = [⟨a, n, cap, c, m, cap', K, C, D⟩, ⟨a2, n2, cap2, c2, m2, cap2', K2, C2, D2⟩] := ⟨_, rfl⟩
  have hall : fs.all FV.ok = (formB n m C D K && formB n2 m2 C2 D2 K2) := by rw [hfs]; simp [FV.ok]
  have hlen : fs.length = 2 := by rw [hfs]; rfl
  have hG : ∀ W : World, Below w.heap.size w W → FormsG (W.alloc (Obj.cells #[Value.slice a n cap, Value.slice c m cap', Value.int IntKind.i64 K, Value.slice a2 n2 cap2, Value.slice c2 m2 cap2', Value.int IntKind.i64 K2] 127)) (some ⟨W.heap.size, 0, none⟩) fs := by
    intro W hb i hi
    rw [hfs] at hi ⊢
    have hq := Cel.new W [Value.slice a n cap, Value.slice c m cap', Value.int IntKind.i64 K, Value.slice a2 n2 cap2, Value.slice c2 m2 cap2', Value.int IntKind.i64 K2] 127
    match i, hi with
    | 0, _ => exact ⟨_, 0, rfl, hq.cell 0, hq.cell 1, hq.cell 2, ⟨(hC.below hb).alloc _, (hD.below hb).alloc _, hn, hm⟩⟩
    | 1, _ => exact ⟨_, 0, rfl, hq.cell 3, hq.cell 4, hq.cell 5, ⟨(hC2.below hb).alloc _, (hD2.below hb).alloc _, hn2, hm2⟩⟩
  have HG : Hid _ := hG
  have HF : Hid _ := hfs
  clear hfs hG
  cases h1 : (formB n m C D K && formB n2 m2 C2 D2 K2)
  · have ht : addOk n m C D K n2 m2 C2 D2 K2 = false := by simp only [addOk, h1, Bool.false_and]
    rw [ht, keepL_no, keepL_no, keepK_no]
    rw [h1] at hall
    go_enter Tryz.func225, Tryz.ntmps225
    have gg := HG.out _ n0.b
    simp only [World.size_alloc] at gg
    go_wp2_with fail
    refine (allForms_any _ 2 _ fs _ hlen gg (by omega)).mono ?_
    rintro e w1 ⟨rfl, b1⟩
    have H := (n0.alloc _).below b1
    obtain ⟨r0, r1, r2, r3, r4, r5⟩ := H.room
    rw [hall]
    go_wp2
    refine bodyPost_ret (v := formV none 0 0 none 0 0 0) (by simp [results, Tryz.results225, go_sem, r0, r1, r2]) rfl (Res.none rfl ?_)
    exact ((H.b.setCell (by simp only []; omega) _).setCell (by simp only []; omega) _).setCell (by simp only []; omega) _
  · have h1' := h1
    rw [Bool.and_eq_true] at h1'
    obtain ⟨rfl, rfl, bC, bD, bK1, bK2⟩ := formB_elim h1'.1
    obtain ⟨rfl, rfl, bC2, bD2, bK3, bK4⟩ := formB_elim h1'.2
    have LC := lin_len (n := 1) hC.1 hC2.1
    have LD := lin_len (n := 1) hD.1 hD2.1
    have ht : addOk 3 2 C D K 3 2 C2 D2 K2 = formB 3 2 (lin C C2 1) (lin D D2 1) (K + 1 * K2) := by simp only [addOk, h1, Bool.true_and]
    rw [ht]
    clear ht
    rw [h1] at hall
    obtain ⟨sC, sD, sK⟩ := sum_two (K := K) (K2 := K2) hC.1 hD.1 hC2.1 hD2.1
    have hmap : fs.map FV.frm = [(C, D, K), (C2, D2, K2)] := by rw [HF.out]; rfl
    have HM : Hid _ := hmap
    have SC : Hid _ := sC
    have SD : Hid _ := sD
    have SK : Hid _ := sK
    clear hmap sC sD sK h1 h1' bC bD bC2 bD2
    obtain ⟨S, hS⟩ : ∃ S, S = K + 1 * K2 := ⟨_, rfl⟩
    have HS : Hid (S = K + 1 * K2) := hS
    rw [← hS]
    clear hS
    cases h3 : formB 3 2 (lin C C2 1) (lin D D2 1) S
    all_goals
      go_enter Tryz.func225, Tryz.ntmps225
      have gg := HG.out _ n0.b
      simp only [World.size_alloc] at gg
      go_wp2_with fail
      refine (allForms_any _ 2 _ fs _ hlen gg (by omega)).mono ?_
      rintro e w1 ⟨rfl, b1⟩
      have H1 := (n0.alloc _).below b1
      obtain ⟨c0, c1, c2x, c3, c4, c5⟩ := H1.cells
      have A1 := H1.r.lt
      rw [hall]
      have fa := (HG.out _ H1.b).at hall
      rw [HM.out] at fa
      clear gg b1
      go_wp2_with fail
      refine (sum_any _ 2 _ [(C, D, K), (C2, D2, K2)] 10000000 _ rfl fa.1 fa.2 (by omega) (by omega) (by omega)).mono ?_
      rintro e w2 ⟨B1, B2, rfl, b2, g1, g2, g3, k1, k2⟩
      rw [SC.out] at k1
      rw [SD.out] at k2
      rw [SK.out, ← HS.out]
      rw [World.size_alloc] at g1 g3
      have H2' := (H1.alloc _).below b2
      clear c0 c1 c2x c3 c4 c5 fa b2
      go_wp2_with fail
      first
        | (refine (orN_no _ _ _ _ _ _ _ (lin C C2 1) (lin D D2 1) _ (k1.ints' LC) (k2.ints' LD) hn hm h3).mono ?_)
        | (refine (orN_yes _ _ _ _ _ _ _ (lin C C2 1) (lin D D2 1) _ (k1.ints' LC) (k2.ints' LD) hn hm h3).mono ?_)
      rintro e w3 ⟨rfl, b3⟩
      have H := H2'.below b3
      have k1' := k1.below b3
      have k2' := k2.below b3
      obtain ⟨r0, r1, r2, r3, r4, r5⟩ := H.room
      have A2 := H1.b.size
      clear H1 H2' k1 k2 b3 n0 hall
      go_wp2
    · refine bodyPost_ret (v := formV none 0 0 none 0 0 0) (by simp [results, Tryz.results225, go_sem, r0, r1, r2]) rfl (Res.none rfl ?_)
      exact ((H.b.setCell (by simp only []; omega) _).setCell (by simp only []; omega) _).setCell (by simp only []; omega) _
    · refine bodyPost_ret (v := formV (some ⟨B1, 0, none⟩) 3 3 (some ⟨B2, 0, none⟩) 2 2 S) (by simp [results, Tryz.results225, go_sem, r0, r1, r2]) rfl (Res.of (B1 := B1) (B2 := B2) rfl LC LD ?_ (by omega) g2 (by omega) ?_ ?_)
      · exact ((H.b.setCell (by simp only []; omega) _).setCell (by simp only []; omega) _).setCell (by simp only []; omega) _
      · exact ((k1'.setOther (by omega) _ _).setOther (by omega) _ _).setOther (by omega) _ _
      · exact ((k2'.setOther (by omega) _ _).setOther (by omega) _ _).setOther (by omega) _ _

end Go.Proofs.YtacjjhfbnbmnlaaGreatDoor

namespace Go.Proofs.YtacjjhfbnbmnlaaGreatDoor
open Go.RowKit
set_option linter.unusedVariables false

/-- A slice of forms that came in, of any lengths. -/
def FormsM (w : World) (ad : Option Addr) (fs : List FV) : Prop :=
  ∀ i, i < fs.length → ∃ b off, ad = some ⟨b, off, none⟩ ∧ w.cell? ⟨b, off + i * 3, none⟩ = some (.slice (fs[i]?.getD noFV).a (fs[i]?.getD noFV).n (fs[i]?.getD noFV).cap) ∧ w.cell? ⟨b, off + i * 3 + 1, none⟩ = some (.slice (fs[i]?.getD noFV).c (fs[i]?.getD noFV).m (fs[i]?.getD noFV).cap') ∧ w.cell? ⟨b, off + i * 3 + 2, none⟩ = some (.int .i64 (fs[i]?.getD noFV).K) ∧
    Ints w (fs[i]?.getD noFV).a (fs[i]?.getD noFV).n (fs[i]?.getD noFV).C ∧ Ints w (fs[i]?.getD noFV).c (fs[i]?.getD noFV).m (fs[i]?.getD noFV).D ∧ (fs[i]?.getD noFV).n ≤ maxLen ∧ (fs[i]?.getD noFV).m ≤ maxLen
theorem FormsM.below {w w' : World} {ad : Option Addr} {fs : List FV} (h : FormsM w ad fs) (hb : Below w.heap.size w w') : FormsM w' ad fs := by
  intro i hi
  obtain ⟨b, off, e, e0, e1, e2, e3, e4, e5⟩ := h i hi
  exact ⟨b, off, e, (hb.cell (p := ⟨b, off + i * 3, none⟩) (block_lt e0)).trans e0, (hb.cell (p := ⟨b, off + i * 3 + 1, none⟩) (block_lt e0)).trans e1, (hb.cell (p := ⟨b, off + i * 3 + 2, none⟩) (block_lt e0)).trans e2, e3.below hb, e4.below hb, e5⟩
theorem FormsM.g {w : World} {ad : Option Addr} {fs : List FV} (h : FormsM w ad fs) (hs : ∀ i, i < fs.length → (fs[i]?.getD noFV).n ≤ 1048576 ∧ (fs[i]?.getD noFV).m ≤ 1048576) : FormsG w ad fs := by
  intro i hi
  obtain ⟨b, off, e, e0, e1, e2, e3, e4, e5⟩ := h i hi
  exact ⟨b, off, e, e0, e1, e2, ⟨e3, e4, (hs i hi).1, (hs i hi).2⟩⟩

end Go.Proofs.YtacjjhfbnbmnlaaGreatDoor

namespace Go.Proofs.YtacjjhfbnbmnlaaGreatDoor
open Go.RowKit
set_option linter.unusedVariables false

/-- Chunks of three, one behind the other. -/
def three (cs : List (List Value)) : Prop := ∀ c ∈ cs, c.length = 3
theorem flat_len : ∀ (cs : List (List Value)), three cs → cs.flatten.length = cs.length * 3
  | [], _ => rfl
  | c :: cs, h => by
    have h1 := h c (by simp)
    have h2 := flat_len cs (fun d hd => h d (by simp [hd]))
    simp only [List.flatten_cons, List.length_append, h1, h2, List.length_cons]
    omega
theorem flat_get : ∀ (cs : List (List Value)) (k r : Nat), three cs → r < 3 → cs.flatten[k * 3 + r]? = (cs[k]?.getD [])[r]?
  | [], k, r, _, _ => by simp
  | c :: cs, 0, r, h, hr => by
    have h1 := h c (by simp)
    simp only [List.flatten_cons, Nat.zero_mul, Nat.zero_add, List.getElem?_cons_zero, Option.getD_some]
    rw [List.getElem?_append_left (by omega)]
  | c :: cs, k + 1, r, h, hr => by
    have h1 := h c (by simp)
    have h2 := flat_get cs k r (fun d hd => h d (by simp [hd])) hr
    simp only [List.flatten_cons, List.getElem?_cons_succ]
    rw [List.getElem?_append_right (by omega), h1, ← h2]
    congr 1
    omega
theorem flat_set : ∀ (cs : List (List Value)) (k : Nat) (x y z : Value), three cs → k < cs.length → ((cs.flatten.set (k * 3) x).set (k * 3 + 1) y).set (k * 3 + 2) z = (cs.set k [x, y, z]).flatten
  | [], k, x, y, z, _, hk => by simp at hk
  | c :: cs, 0, x, y, z, h, _ => by
    have h1 := h c (by simp)
    match c, h1 with
    | [u, v, t], _ => simp
  | c :: cs, k + 1, x, y, z, h, hk => by
    have h1 := h c (by simp)
    have h2 := flat_set cs k x y z (fun d hd => h d (by simp [hd])) (by simpa using hk)
    simp only [List.flatten_cons, List.set_cons_succ]
    rw [← h2]
    rw [List.set_append_right _ _ (by omega), List.set_append_right _ _ (by omega), List.set_append_right _ _ (by omega), h1]
    have a1 : (k + 1) * 3 - 3 = k * 3 := by omega
    have a2 : (k + 1) * 3 + 1 - 3 = k * 3 + 1 := by omega
    have a3 : (k + 1) * 3 + 2 - 3 = k * 3 + 2 := by omega
    rw [a1, a2, a3]
theorem three_rep (n : Nat) (c : List Value) (h : c.length = 3) : three (List.replicate n c) := fun d hd => by rw [List.eq_of_mem_replicate hd]; exact h
theorem three_app {a b : List (List Value)} (ha : three a) (hb : three b) : three (a ++ b) := fun d hd => by
  rcases List.mem_append.1 hd with h | h
  · exact ha d h
  · exact hb d h
theorem three_map (gs : List FV) : three (gs.map FV.cs) := fun d hd => by
  obtain ⟨g, _, rfl⟩ := List.mem_map.1 hd
  rfl

def zcs : List Value := [.slice none 0 0, .slice none 0 0, .int .i64 0]
theorem made3 (n : Nat) : (madeCells #[.slice none 0 0, .slice none 0 0, .int .i64 0] (n * 3)).toList = (List.replicate n zcs).flatten := by
  apply List.ext_getElem?
  intro j
  have hl := flat_len (List.replicate n zcs) (three_rep n zcs rfl)
  rw [List.length_replicate] at hl
  by_cases hj : j < n * 3
  · have hk : j / 3 < n := by omega
    have e := flat_get (List.replicate n zcs) (j / 3) (j % 3) (three_rep n zcs rfl) (by omega)
    have e2 : j / 3 * 3 + j % 3 = j := by omega
    rw [e2] at e
    rw [e, List.getElem?_replicate, if_pos hk]
    have hm : j % 3 < 3 := by omega
    simp only [madeCells, Option.getD_some]
    simp [hj]
    match j % 3, hm with
    | 0, _ => rfl
    | 1, _ => rfl
    | 2, _ => rfl
  · have h1 : (madeCells #[.slice none 0 0, .slice none 0 0, .int .i64 0] (n * 3)).toList.length ≤ j := by
      rw [Array.length_toList, size_madeCells]; omega
    have h2 : (List.replicate n zcs).flatten.length ≤ j := by omega
    rw [List.getElem?_eq_none h1, List.getElem?_eq_none h2]

/-- Block B holds the chunks; the forms' lists lie in blocks p i and q i, each behind those ahead of it, from lo on. -/
structure MF (W : World) (B lo : Nat) (cs : List (List Value)) (gs : List FV) (p q : Nat → Nat) : Prop where
  c : W.heap[B]? = some (.cells cs.flatten.toArray 127 (0, 0))
  t : three cs
  l : ∀ i, i < gs.length → cs[i]? = some (gs[i]?.getD noFV).cs ∧ (gs[i]?.getD noFV).a = some ⟨p i, 0, none⟩ ∧ (gs[i]?.getD noFV).c = some ⟨q i, 0, none⟩ ∧ Blk W (p i) (gs[i]?.getD noFV).C ∧ Blk W (q i) (gs[i]?.getD noFV).D ∧ (gs[i]?.getD noFV).C.length = (gs[i]?.getD noFV).n ∧ (gs[i]?.getD noFV).D.length = (gs[i]?.getD noFV).m ∧ (gs[i]?.getD noFV).n ≤ 1048576 ∧ (gs[i]?.getD noFV).m ≤ 1048576 ∧ lo ≤ p i ∧ p i < q i ∧ q i < W.heap.size ∧ ∀ j, j < i → q j < p i
  b : B < lo
  s : lo ≤ W.heap.size
theorem MF.below {W W' : World} {B lo : Nat} {cs : List (List Value)} {gs : List FV} {p q : Nat → Nat} (h : MF W B lo cs gs p q) (b : Below W.heap.size W W') : MF W' B lo cs gs p q := by
  refine ⟨by rw [b.block B (lt_of_block h.c)]; exact h.c, h.t, fun i hi => ?_, h.b, Nat.le_trans h.s b.size⟩
  obtain ⟨a1, a2, a3, a4, a5, a6, a7, a8, a9, a10, a11, a12, a13⟩ := h.l i hi
  have := b.size
  exact ⟨a1, a2, a3, a4.below b, a5.below b, a6, a7, a8, a9, a10, a11, by omega, a13⟩
theorem MF.cell {W : World} {B lo : Nat} {cs : List (List Value)} {gs : List FV} {p q : Nat → Nat} (h : MF W B lo cs gs p q) (k r : Nat) (hr : r < 3) : W.cell? ⟨B, k * 3 + r, none⟩ = (cs[k]?.getD [])[r]? := by
  have hc := h.c
  rw [← flat_get cs k r h.t hr]
  simp [World.cell?, hc]
theorem MF.free {W : World} {B lo : Nat} {cs : List (List Value)} {gs : List FV} {p q : Nat → Nat} (h : MF W B lo cs gs p q) (i : Nat) : W.frozen? ⟨B, i, none⟩ = false := by
  have hc := h.c
  simp [World.frozen?, hc]
theorem MF.g {W : World} {B lo : Nat} {cs : List (List Value)} {gs : List FV} {p q : Nat → Nat} (h : MF W B lo cs gs p q) : FormsG W (some ⟨B, 0, none⟩) gs := by
  intro i hi
  obtain ⟨a1, a2, a3, a4, a5, a6, a7, a8, a9, _⟩ := h.l i hi
  have c0 := h.cell i 0 (by omega)
  have c1 := h.cell i 1 (by omega)
  have c2 := h.cell i 2 (by omega)
  rw [a1] at c0 c1 c2
  refine ⟨B, 0, rfl, by rw [Nat.zero_add]; exact c0, by rw [Nat.zero_add]; exact c1, by rw [Nat.zero_add]; exact c2, ⟨?_, ?_, a8, a9⟩⟩
  · rw [a2, ← a6]; exact a4.ints
  · rw [a3, ← a7]; exact a5.ints

/-- One form more is laid. -/
theorem MF.step {W W1 : World} {B lo k P Q : Nat} {cs : List (List Value)} {gs : List FV} {p q : Nat → Nat} {C D : List Int} {n m : Nat} {K : Int} (h : MF W B lo cs gs p q) (hk : gs.length = k) (hkN : k < cs.length) (b : Below W.heap.size W W1) (hP : W.heap.size ≤ P) (hPQ : P < Q) (k1 : Blk W1 P C) (k2 : Blk W1 Q D) (hC : C.length = n) (hD : D.length = m) (hn : n ≤ 1048576) (hm : m ≤ 1048576) :
    MF (((W1.setCell ⟨B, k * 3, none⟩ (.slice (some ⟨P, 0, none⟩) n n)).setCell ⟨B, k * 3 + 1, none⟩ (.slice (some ⟨Q, 0, none⟩) m m)).setCell ⟨B, k * 3 + 2, none⟩ (.int .i64 K)) B lo (cs.set k [.slice (some ⟨P, 0, none⟩) n n, .slice (some ⟨Q, 0, none⟩) m m, .int .i64 K]) (gs ++ [⟨some ⟨P, 0, none⟩, n, n, some ⟨Q, 0, none⟩, m, m, K, C, D⟩]) (fun i => if i = k then P else p i) (fun i => if i = k then Q else q i) := by
  have h1 := h.below b
  have hB := lt_of_block h.c
  have hlo := h.b
  have hQl := k2.lt
  have hs : ∀ (x : Nat) (o : Option Obj), x ≠ B → W1.heap[x]? = o → (((W1.setCell ⟨B, k * 3, none⟩ (.slice (some ⟨P, 0, none⟩) n n)).setCell ⟨B, k * 3 + 1, none⟩ (.slice (some ⟨Q, 0, none⟩) m m)).setCell ⟨B, k * 3 + 2, none⟩ (.int .i64 K)).heap[x]? = o := fun x o hx ho => by
    rw [Below.heap_setCell _ _ _ _ hx, Below.heap_setCell _ _ _ _ hx, Below.heap_setCell _ _ _ _ hx]; exact ho
  refine ⟨?_, ?_, fun i hi => ?_, h.b, by rw [size_setCell, size_setCell, size_setCell]; exact h1.s⟩
  · have e1 := heap_setCell_same W1 B (k * 3) _ _ (.slice (some ⟨P, 0, none⟩) n n) h1.c
    have e2 := heap_setCell_same _ B (k * 3 + 1) _ _ (.slice (some ⟨Q, 0, none⟩) m m) e1
    have e3 := heap_setCell_same _ B (k * 3 + 2) _ _ (.int .i64 K) e2
    rw [e3]
    simp only [List.setIfInBounds_toArray]
    rw [flat_set cs k _ _ _ h.t hkN]
  · intro d hd
    rcases List.mem_or_eq_of_mem_set hd with h2 | h2
    · exact h.t d h2
    · rw [h2]; rfl
  · rw [List.length_append, hk] at hi
    simp only [List.length_cons, List.length_nil] at hi
    by_cases e : i = k
    · subst e
      rw [List.getElem?_append_right (by omega), hk]
      simp only [Nat.sub_self, List.getElem?_cons_zero, Option.getD_some, if_true]
      refine ⟨by rw [List.getElem?_set_self hkN]; rfl, trivial, trivial, hs P _ (by omega) k1, hs Q _ (by omega) k2, hC, hD, hn, hm, by have := h.s; omega, hPQ, by rw [size_setCell, size_setCell, size_setCell]; exact hQl, fun j hj => ?_⟩
      rw [if_neg (by omega)]
      obtain ⟨_, _, _, _, _, _, _, _, _, _, _, a12, _⟩ := h.l j (by omega)
      omega
    · rw [List.getElem?_append_left (by omega)]
      obtain ⟨a1, a2, a3, a4, a5, a6, a7, a8, a9, a10, a11, a12, a13⟩ := h1.l i (by omega)
      simp only [if_neg e]
      refine ⟨by rw [List.getElem?_set_ne (by omega)]; exact a1, a2, a3, hs _ _ (by omega) a4, hs _ _ (by omega) a5, a6, a7, a8, a9, a10, a11, by rw [size_setCell, size_setCell, size_setCell]; exact a12, fun j hj => ?_⟩
      rw [if_neg (by omega)]
      exact a13 j hj

/-- A copy of a form holds what the form holds. -/
def copies (fs gs : List FV) : Prop := ∀ i, i < gs.length → (gs[i]?.getD noFV).C = (fs[i]?.getD noFV).C ∧ (gs[i]?.getD noFV).D = (fs[i]?.getD noFV).D ∧ (gs[i]?.getD noFV).K = (fs[i]?.getD noFV).K ∧ (gs[i]?.getD noFV).n = (fs[i]?.getD noFV).n ∧ (gs[i]?.getD noFV).m = (fs[i]?.getD noFV).m

theorem Tryz.infoForm : (Tryz.prog.info? 127).map (fun i => (i.zero, i.size, i.bytes)) = some (some (.agg #[.slice none 0 0, .slice none 0 0, .int .i64 0]), 3, 56) := by kernel_rfl

end Go.Proofs.YtacjjhfbnbmnlaaGreatDoor

namespace Go.Proofs.YtacjjhfbnbmnlaaGreatDoor
open Go.RowKit
set_option linter.unusedVariables false

/-- While they are marked: the block's slices stand; the lists from k on are as they were made. -/
structure MK (W : World) (B N s k : Nat) (gs : List FV) (p q : Nat → Nat) (wr : World) : Prop where
  c : ∃ cur : Array Value, wr.heap[B]? = some (.cells cur 127 (0, 0)) ∧ cur.size = N * 3 ∧ ∀ i, i < N → cur[i * 3]? = some (.slice (gs[i]?.getD noFV).a (gs[i]?.getD noFV).n (gs[i]?.getD noFV).cap) ∧ cur[i * 3 + 1]? = some (.slice (gs[i]?.getD noFV).c (gs[i]?.getD noFV).m (gs[i]?.getD noFV).cap')
  o : ∀ i, k ≤ i → i < N → Blk wr (p i) (gs[i]?.getD noFV).C ∧ Blk wr (q i) (gs[i]?.getD noFV).D
  t : Touch (fun x => B ≤ x ∧ x < s) W wr

end Go.Proofs.YtacjjhfbnbmnlaaGreatDoor

namespace Go.Proofs.YtacjjhfbnbmnlaaGreatDoor
open Go.RowKit
set_option linter.unusedVariables false

/-- Pot by pot: the form without its pots, and so many times each pot's form. -/
def intoC (C : List Int) (fs : List FV) : Nat → List Int
  | 0 => [0, 0, 0]
  | k + 1 => lin (intoC C fs k) (fs[k]?.getD noFV).C (C[k]?.getD 0)
def intoD (C D : List Int) (fs : List FV) : Nat → List Int
  | 0 => D
  | k + 1 => lin (intoD C D fs k) (fs[k]?.getD noFV).D (C[k]?.getD 0)
def intoK (C : List Int) (K : Int) (fs : List FV) : Nat → Int
  | 0 => K
  | k + 1 => intoK C K fs k + C[k]?.getD 0 * (fs[k]?.getD noFV).K

theorem lin_mul (xs ys : List Int) (n : Int) : List.zipWith (· + ·) xs (mulL n ys) = lin xs ys n := by
  simp [lin, mulL, List.zipWith_map_right]

/-- The same by one sum of four: the form without its pots first. -/
def terms (C D : List Int) (K : Int) (fs : List FV) : List Frm := ([0, 0, 0], D, K) :: (List.range 3).map fun i => (mulL (C[i]?.getD 0) (fs[i]?.getD noFV).C, mulL (C[i]?.getD 0) (fs[i]?.getD noFV).D, C[i]?.getD 0 * (fs[i]?.getD noFV).K)

theorem zip0 {xs : List Int} (h : xs.length = 3) : List.zipWith (· + ·) [0, 0, 0] xs = xs := by
  match xs, h with
  | [x, y, z], _ => simp
theorem zip02 {xs : List Int} (h : xs.length = 2) : List.zipWith (· + ·) [0, 0] xs = xs := by
  match xs, h with
  | [x, y], _ => simp

theorem terms_sum {C D : List Int} {K : Int} {fs : List FV} (hD : D.length = 2) :
    sumC (terms C D K fs) 4 = intoC C fs 3 ∧ sumD (terms C D K fs) 4 = intoD C D fs 3 ∧ sumK (terms C D K fs) 4 = intoK C K fs 3 := by
  have t0 : (terms C D K fs)[0]? = some ([0, 0, 0], D, K) := rfl
  have t1 : (terms C D K fs)[1]? = some (mulL (C[0]?.getD 0) (fs[0]?.getD noFV).C, mulL (C[0]?.getD 0) (fs[0]?.getD noFV).D, C[0]?.getD 0 * (fs[0]?.getD noFV).K) := rfl
  have t2 : (terms C D K fs)[2]? = some (mulL (C[1]?.getD 0) (fs[1]?.getD noFV).C, mulL (C[1]?.getD 0) (fs[1]?.getD noFV).D, C[1]?.getD 0 * (fs[1]?.getD noFV).K) := rfl
  have t3 : (terms C D K fs)[3]? = some (mulL (C[2]?.getD 0) (fs[2]?.getD noFV).C, mulL (C[2]?.getD 0) (fs[2]?.getD noFV).D, C[2]?.getD 0 * (fs[2]?.getD noFV).K) := rfl
  refine ⟨?_, ?_, ?_⟩
  · simp only [sumC, t0, t1, t2, t3, Option.getD_some, intoC]
    rw [zip0 (xs := [0, 0, 0]) rfl, lin_mul, lin_mul, lin_mul]
  · simp only [sumD, t0, t1, t2, t3, Option.getD_some, intoD]
    rw [zip02 hD, lin_mul, lin_mul, lin_mul]
  · simp only [sumK, t0, t1, t2, t3, Option.getD_some, intoK]
    omega

set_option maxHeartbeats 800000 in
theorem without_any (a : Option Addr) (n cap : Nat) (c : Option Addr) (m cap' : Nat) (K : Int) (w : World) :
    Calls Tryz.prog 228 #[formV a n cap c m cap' K] w fun e w' => ∃ P, e = .returned (formV (some ⟨P, 0, none⟩) 3 3 c m cap' K) ∧ Below w.heap.size w w' ∧ w.heap.size ≤ P ∧ Blk w' P [0, 0, 0] := by
  have hm3 := make3
  go_enter Tryz.func228, Tryz.ntmps228
  go_wp2_with fail
  go_region
  go_wp2
  exact bodyPost_ret (v := formV (some ⟨w.heap.size + 1 + 1, 0, none⟩) 3 3 c m cap' K) (by simp [results, Tryz.results228, go_sem]) rfl ⟨_, rfl, ((((Below.refl _ _).alloc (Nat.le_refl _) _).alloc (by simp) _).alloc (by simp; omega) _).drew, by omega, three2 w _ _ _⟩

end Go.Proofs.YtacjjhfbnbmnlaaGreatDoor

namespace Go.Proofs.YtacjjhfbnbmnlaaGreatDoor
open Go.RowKit
set_option linter.unusedVariables false
set_option maxRecDepth 100000

theorem lin_bnd {M P n : Int} {xs ys : List Int} {k : Nat} (h1 : xs.length = k) (h2 : ys.length = k) (hx : bnd M xs) (hy : bndT P n ys) (h0 : 0 ≤ M + P) : bnd (M + P) (lin xs ys n) := by
  intro i
  by_cases hi : i < k
  · rw [lin_get h1 h2 hi]
    have := hx i
    have := hy i
    omega
  · have : (lin xs ys n)[i]? = none := List.getElem?_eq_none (by rw [lin_len h1 h2]; omega)
    rw [this]
    simp only [Option.getD_none]
    omega
theorem mul_bnd {x y : Int} (a1 : -10000000 ≤ x) (a2 : x ≤ 10000000) (h1 : -10000000 ≤ y) (h2 : y ≤ 10000000) : -100000000000000 ≤ x * y ∧ x * y ≤ 100000000000000 := by
  have hx' : x.natAbs ≤ 10000000 := by omega
  have hy' : y.natAbs ≤ 10000000 := by omega
  have hm : (x * y).natAbs ≤ 10000000 * 10000000 := by rw [Int.natAbs_mul]; exact Nat.mul_le_mul hx' hy'
  omega
theorem mulT_bnd {C : List Int} {k : Int} (h : bnd 10000000 C) (h1 : -10000000 ≤ k) (h2 : k ≤ 10000000) : bndT 100000000000000 k C := by
  intro i
  have := h i
  exact mul_bnd h1 h2 this.1 this.2

/-- What is known of a form that is ok. -/
structure OkF (g : FV) : Prop where
  n : g.n = 3
  m : g.m = 2
  lC : g.C.length = 3
  lD : g.D.length = 2
  bC : bnd 10000000 g.C
  bD : bnd 10000000 g.D
  k1 : -10000000 ≤ g.K
  k2 : g.K ≤ 10000000
theorem OkF.of {g : FV} {w : World} (h : g.At w) (ok : g.ok = true) : OkF g := by
  obtain ⟨n3, m2, bC, bD, bK1, bK2⟩ := formB_elim ok
  exact ⟨n3, m2, by have := h.C.1; omega, by have := h.D.1; omega, bC, bD, bK1, bK2⟩

structure IntoF (C D : List Int) (K : Int) (fs : List FV) (k : Nat) : Prop where
  lC : (intoC C fs k).length = 3
  lD : (intoD C D fs k).length = 2
  bC : bnd (k * 100000000000000) (intoC C fs k)
  bD : bnd (10000000 + k * 100000000000000) (intoD C D fs k)
  k1 : -(10000000 + k * 100000000000000) ≤ intoK C K fs k
  k2 : intoK C K fs k ≤ 10000000 + k * 100000000000000
theorem IntoF.of {C D : List Int} {K : Int} {fs : List FV} (hD : D.length = 2) (bC : bnd 10000000 C) (bD : bnd 10000000 D) (k1 : -10000000 ≤ K) (k2 : K ≤ 10000000) (ho : ∀ i, i < 3 → OkF (fs[i]?.getD noFV)) : ∀ k : Nat, k ≤ 3 → IntoF C D K fs k
  | 0, _ => ⟨rfl, hD, by simpa [intoC] using bnd_zeros 3, by simpa [intoD] using bD, by simpa [intoK] using k1, by simpa [intoK] using k2⟩
  | k + 1, hk => by
    have ih := IntoF.of hD bC bD k1 k2 ho k (by omega)
    have g := ho k (by omega)
    have bc := bC k
    have e : ((k + 1 : Nat) : Int) = k + 1 := by omega
    have tC := mulT_bnd g.bC bc.1 bc.2
    have tD := mulT_bnd g.bD bc.1 bc.2
    have tK := mul_bnd bc.1 bc.2 g.k1 g.k2
    have i1 := ih.k1
    have i2 := ih.k2
    refine ⟨lin_len ih.lC g.lC, lin_len ih.lD g.lD, ?_, ?_, ?_, ?_⟩
    · have := lin_bnd ih.lC g.lC ih.bC tC (by omega)
      intro i
      have := this i
      simp only [intoC]
      omega
    · have := lin_bnd ih.lD g.lD ih.bD tD (by omega)
      intro i
      have := this i
      simp only [intoD]
      omega
    · simp only [intoK]; omega
    · simp only [intoK]; omega

/-- Whether the form that comes is ok, and all that it is made of. -/
def intoOk (n m : Nat) (C D : List Int) (K : Int) (N : Nat) (fs : List FV) : Bool := formB n m C D K && decide (N = 3) && fs.all FV.ok && formB 3 2 (intoC C fs 3) (intoD C D fs 3) (intoK C K fs 3)

/-- A call's box for a form, its result's room, old memory. -/
structure IH (w : World) (a : Option Addr) (n cap : Nat) (c : Option Addr) (m cap' : Nat) (K : Int) (w' : World) : Prop where
  p : Cel w' w.heap.size [.slice a n cap, .slice c m cap', .int .i64 K] 127
  r : Cel w' (w.heap.size + 1) [.slice none 0 0, .slice none 0 0, .int .i64 0] 127
  b : Below w.heap.size w w'
section
variable {w W w3 : World} {a c : Option Addr} {n cap m cap' : Nat} {K : Int}
theorem IH.below (h : IH w a n cap c m cap' K W) (b : Below W.heap.size W w3) : IH w a n cap c m cap' K w3 := ⟨h.p.below b, h.r.below b, h.b.trans (b.mono h.b.size)⟩
theorem IH.drew (h : IH w a n cap c m cap' K W) : IH w a n cap c m cap' K W.drew := ⟨h.p, h.r, h.b.drew⟩
theorem IH.alloc (h : IH w a n cap c m cap' K W) (o : Obj) : IH w a n cap c m cap' K (W.alloc o) := h.below ((Below.refl _ _).alloc (Nat.le_refl _) _)
theorem IH.set (h : IH w a n cap c m cap' K W) {X : Nat} (hX : w.heap.size + 1 < X) (i : Nat) (v : Value) : IH w a n cap c m cap' K (W.setCell ⟨X, i, none⟩ v) :=
  ⟨h.p.setOther (by omega) i v, h.r.setOther (by omega) i v, h.b.setCell (by show w.heap.size ≤ X; omega) v⟩
theorem IH.new : IH w a n cap c m cap' K ((w.alloc (Obj.cells #[Value.slice a n cap, Value.slice c m cap', Value.int IntKind.i64 K] 127)).alloc (Obj.cells #[Value.slice none 0 0, Value.slice none 0 0, Value.int IntKind.i64 0] 127)) :=
  ⟨(Cel.new w _ _).alloc _, by have := Cel.new (w.alloc (Obj.cells #[Value.slice a n cap, Value.slice c m cap', Value.int IntKind.i64 K] 127)) [.slice none 0 0, .slice none 0 0, .int .i64 0] 127; rw [World.size_alloc] at this; exact this, ((Below.refl _ _).alloc (Nat.le_refl _) _).alloc (by simp) _⟩
theorem IH.cells (h : IH w a n cap c m cap' K W) :
    W.cell? ⟨w.heap.size, 0, none⟩ = some (.slice a n cap) ∧ W.cell? ⟨w.heap.size, 1, none⟩ = some (.slice c m cap') ∧ W.cell? ⟨w.heap.size, 2, none⟩ = some (.int .i64 K) := ⟨h.p.cell 0, h.p.cell 1, h.p.cell 2⟩
theorem IH.room (h : IH w a n cap c m cap' K W) :
    W.cell? ⟨w.heap.size + 1, 0, none⟩ = some (.slice none 0 0) ∧ W.cell? ⟨w.heap.size + 1, 1, none⟩ = some (.slice none 0 0) ∧ W.cell? ⟨w.heap.size + 1, 2, none⟩ = some (.int .i64 0) ∧ W.frozen? ⟨w.heap.size + 1, 0, none⟩ = false ∧ W.frozen? ⟨w.heap.size + 1, 1, none⟩ = false ∧ W.frozen? ⟨w.heap.size + 1, 2, none⟩ = false := ⟨h.r.cell 0, h.r.cell 1, h.r.cell 2, h.r.free 0, h.r.free 1, h.r.free 2⟩
theorem IH.none (h : IH w a n cap c m cap' K W) : Res w (((W.setCell ⟨w.heap.size + 1, 0, Option.none⟩ (.slice Option.none 0 0)).setCell ⟨w.heap.size + 1, 1, Option.none⟩ (.slice Option.none 0 0)).setCell ⟨w.heap.size + 1, 2, Option.none⟩ (.int .i64 0)) (.returned (formV Option.none 0 0 Option.none 0 0 0)) [] [] 0 :=
  Res.none rfl (((h.b.setCell (by simp only []; omega) _).setCell (by simp only []; omega) _).setCell (by simp only []; omega) _)
end

set_option maxHeartbeats 1600000 in
theorem sinto_no (a : Option Addr) (n cap : Nat) (c : Option Addr) (m cap' : Nat) (K : Int) (C D : List Int) (ad : Option Addr) (N capN : Nat) (fs : List FV) (w : World) (hC : Ints w a n C) (hD : Ints w c m D) (hn : n ≤ 1048576) (hm : m ≤ 1048576)
    (hN : fs.length = N) (hF : FormsG w ad fs) (hN1 : N ≤ 1048576) (hno : (formB n m C D K && decide (N = 3) && fs.all FV.ok) = false) :
    Calls Tryz.prog 176 #[formV a n cap c m cap' K, .slice ad N capN] w fun e w' => Res w w' e [] [] 0 := by
  have n0 := IH.new (w := w) (a := a) (n := n) (cap := cap) (c := c) (m := m) (cap' := cap') (K := K)
  have HN : Hid (fs.length = N) := hN
  clear hN
  cases h1 : formB n m C D K
  · clear hno
    go_enter Tryz.func176, Tryz.ntmps176
    go_wp2_with fail
    refine (sok_any _ _ _ _ _ _ _ C D _ (hC.below n0.b) (hD.below n0.b) hn hm).mono ?_
    rintro e w1 ⟨rfl, b1⟩
    have H := n0.below b1
    obtain ⟨r0, r1, r2, r3, r4, r5⟩ := H.room
    go_wp2
    exact bodyPost_ret (v := formV none 0 0 none 0 0 0) (by simp [results, Tryz.results176, go_sem, r0, r1, r2]) rfl H.none
  · by_cases h2 : (N : Int) = 3
    · obtain rfl : N = 3 := by omega
      have hno' : fs.all FV.ok = false := by simpa [h1] using hno
      clear hno h2
      have f0 := hF 0 (by rw [HN.out]; omega)
      have f1 := hF 1 (by rw [HN.out]; omega)
      have f2 := hF 2 (by rw [HN.out]; omega)
      obtain ⟨b, off, rfl, p0, p1, p2, A0⟩ := f0
      obtain ⟨b', off', hb', q0, q1, q2, A1⟩ := f1
      simp only [Option.some.injEq, Addr.mk.injEq, and_true] at hb'
      obtain ⟨rfl, rfl⟩ := hb'
      obtain ⟨b', off', hb', r0, r1, r2, A2⟩ := f2
      simp only [Option.some.injEq, Addr.mk.injEq, and_true] at hb'
      obtain ⟨rfl, rfl⟩ := hb'
      have hor : (fs[0]?.getD noFV).ok = false ∨ (fs[1]?.getD noFV).ok = false ∨ (fs[2]?.getD noFV).ok = false := by
        match fs, HN.out with
        | [x, y, z], _ =>
          simp only [List.all_cons, List.all_nil, Bool.and_true] at hno'
          simp only [List.getElem?_cons_zero, List.getElem?_cons_succ, Option.getD_some]
          revert hno'
          cases x.ok <;> cases y.ok <;> cases z.ok <;> simp
      generalize fs[0]?.getD noFV = x at *
      generalize fs[1]?.getD noFV = y at *
      generalize fs[2]?.getD noFV = z at *
      obtain ⟨xa, xn, xcap, xc, xm, xcap', xK, xC, xD⟩ := x
      obtain ⟨ya, yn, ycap, yc, ym, ycap', yK, yC, yD⟩ := y
      obtain ⟨za, zn, zcap, zc, zm, zcap', zK, zC, zD⟩ := z
      obtain ⟨x1, x2, x3, x4⟩ := A0
      obtain ⟨y1, y2, y3, y4⟩ := A1
      obtain ⟨z1, z2, z3, z4⟩ := A2
      simp only [FV.ok] at p0 p1 p2 q0 q1 q2 r0 r1 r2 hor x1 x2 x3 x4 y1 y2 y3 y4 z1 z2 z3 z4
      have lb := block_lt p0
      have nb := n0.b
      clear hF hno'
      rw [Nat.zero_mul, Nat.add_zero] at p0 p1 p2
      rw [Nat.one_mul] at q0 q1 q2
      have e6 : off + 2 * 3 = off + 6 := rfl
      rw [e6] at r0 r1 r2
      cases hx : formB xn xm xC xD xK
      · go_enter Tryz.func176, Tryz.ntmps176
        go_wp2_with fail
        refine (sok_any _ _ _ _ _ _ _ C D _ (hC.below n0.b) (hD.below n0.b) hn hm).mono ?_
        rintro e w1 ⟨rfl, b1⟩
        have H1 := n0.below b1
        have s0 := (H1.b.cell (p := ⟨b, off, none⟩) lb).trans p0
        have s1 := (H1.b.cell (p := ⟨b, off + 1, none⟩) lb).trans p1
        have s2 := (H1.b.cell (p := ⟨b, off + 2, none⟩) lb).trans p2
        go_wp2_with fail
        refine (sok_any _ _ _ _ _ _ _ xC xD _ (x1.below H1.b) (x2.below H1.b) x3 x4).mono ?_
        rintro e w2 ⟨rfl, b2⟩
        have H2 := H1.below b2
        obtain ⟨g0, g1, g2, g3, g4, g5⟩ := H2.room
        go_wp2
        exact bodyPost_ret (v := formV none 0 0 none 0 0 0) (by simp [results, Tryz.results176, go_sem, g0, g1, g2]) rfl H2.none
      · cases hy : formB yn ym yC yD yK
        · go_enter Tryz.func176, Tryz.ntmps176
          go_wp2_with fail
          refine (sok_any _ _ _ _ _ _ _ C D _ (hC.below n0.b) (hD.below n0.b) hn hm).mono ?_
          rintro e w1 ⟨rfl, b1⟩
          have H1 := n0.below b1
          have s0 := (H1.b.cell (p := ⟨b, off, none⟩) lb).trans p0
          have s1 := (H1.b.cell (p := ⟨b, off + 1, none⟩) lb).trans p1
          have s2 := (H1.b.cell (p := ⟨b, off + 2, none⟩) lb).trans p2
          go_wp2_with fail
          refine (sok_any _ _ _ _ _ _ _ xC xD _ (x1.below H1.b) (x2.below H1.b) x3 x4).mono ?_
          rintro e w2 ⟨rfl, b2⟩
          have H2 := H1.below b2
          have t0 := (H2.b.cell (p := ⟨b, off + 3, none⟩) lb).trans q0
          have t1 := (H2.b.cell (p := ⟨b, off + 3 + 1, none⟩) lb).trans q1
          have t2 := (H2.b.cell (p := ⟨b, off + 3 + 2, none⟩) lb).trans q2
          go_wp2_with fail
          refine (sok_any _ _ _ _ _ _ _ yC yD _ (y1.below H2.b) (y2.below H2.b) y3 y4).mono ?_
          rintro e w3 ⟨rfl, b3⟩
          have H3 := H2.below b3
          obtain ⟨g0, g1, g2, g3, g4, g5⟩ := H3.room
          go_wp2
          exact bodyPost_ret (v := formV none 0 0 none 0 0 0) (by simp [results, Tryz.results176, go_sem, g0, g1, g2]) rfl H3.none
        · have hz : formB zn zm zC zD zK = false := by simpa [hx, hy] using hor
          go_enter Tryz.func176, Tryz.ntmps176
          go_wp2_with fail
          refine (sok_any _ _ _ _ _ _ _ C D _ (hC.below n0.b) (hD.below n0.b) hn hm).mono ?_
          rintro e w1 ⟨rfl, b1⟩
          have H1 := n0.below b1
          have s0 := (H1.b.cell (p := ⟨b, off, none⟩) lb).trans p0
          have s1 := (H1.b.cell (p := ⟨b, off + 1, none⟩) lb).trans p1
          have s2 := (H1.b.cell (p := ⟨b, off + 2, none⟩) lb).trans p2
          go_wp2_with fail
          refine (sok_any _ _ _ _ _ _ _ xC xD _ (x1.below H1.b) (x2.below H1.b) x3 x4).mono ?_
          rintro e w2 ⟨rfl, b2⟩
          have H2 := H1.below b2
          have t0 := (H2.b.cell (p := ⟨b, off + 3, none⟩) lb).trans q0
          have t1 := (H2.b.cell (p := ⟨b, off + 3 + 1, none⟩) lb).trans q1
          have t2 := (H2.b.cell (p := ⟨b, off + 3 + 2, none⟩) lb).trans q2
          go_wp2_with fail
          refine (sok_any _ _ _ _ _ _ _ yC yD _ (y1.below H2.b) (y2.below H2.b) y3 y4).mono ?_
          rintro e w3 ⟨rfl, b3⟩
          have H3 := H2.below b3
          have u0 := (H3.b.cell (p := ⟨b, off + 6, none⟩) lb).trans r0
          have u1 := (H3.b.cell (p := ⟨b, off + 6 + 1, none⟩) lb).trans r1
          have u2 := (H3.b.cell (p := ⟨b, off + 6 + 2, none⟩) lb).trans r2
          go_wp2_with fail
          refine (sok_any _ _ _ _ _ _ _ zC zD _ (z1.below H3.b) (z2.below H3.b) z3 z4).mono ?_
          rintro e w4 ⟨rfl, b4⟩
          have H4 := H3.below b4
          obtain ⟨g0, g1, g2, g3, g4, g5⟩ := H4.room
          go_wp2
          exact bodyPost_ret (v := formV none 0 0 none 0 0 0) (by simp [results, Tryz.results176, go_sem, g0, g1, g2]) rfl H4.none
    · clear hno
      have h2' : ((N : Int) != 3) = true := by simpa using h2
      go_enter Tryz.func176, Tryz.ntmps176
      go_wp2_with fail
      refine (sok_any _ _ _ _ _ _ _ C D _ (hC.below n0.b) (hD.below n0.b) hn hm).mono ?_
      rintro e w1 ⟨rfl, b1⟩
      have H := n0.below b1
      obtain ⟨r0, r1, r2, r3, r4, r5⟩ := H.room
      go_wp2
      exact bodyPost_ret (v := formV none 0 0 none 0 0 0) (by simp [results, Tryz.results176, go_sem, r0, r1, r2]) rfl H.none

end Go.Proofs.YtacjjhfbnbmnlaaGreatDoor

namespace Go.Proofs.YtacjjhfbnbmnlaaGreatDoor
open Go.RowKit
set_option linter.unusedVariables false
set_option maxRecDepth 100000

theorem at20 (w : World) (o0 o1 : Obj) : ((w.alloc o0).alloc o1).drew.heap[w.heap.size]? = some o0 := by
  show ((w.heap.push o0).push o1)[w.heap.size]? = some o0
  simp only [Array.getElem?_push, Array.size_push]
  repeat (first | rw [if_pos trivial] | rw [if_neg (by omega)])
theorem lt20 (w : World) (o0 o1 : Obj) : w.heap.size < ((w.alloc o0).alloc o1).drew.heap.size := by
  show w.heap.size < ((w.heap.push o0).push o1).size
  simp only [Array.size_push]
  omega
theorem at21 (w : World) (o0 o1 : Obj) : ((w.alloc o0).alloc o1).drew.heap[w.heap.size + 1]? = some o1 := by
  show ((w.heap.push o0).push o1)[w.heap.size + 1]? = some o1
  simp only [Array.getElem?_push, Array.size_push]
  repeat (first | rw [if_pos trivial] | rw [if_neg (by omega)])
theorem lt21 (w : World) (o0 o1 : Obj) : w.heap.size + 1 < ((w.alloc o0).alloc o1).drew.heap.size := by
  show w.heap.size + 1 < ((w.heap.push o0).push o1).size
  simp only [Array.size_push]
  omega
theorem at30 (w : World) (o0 o1 o2 : Obj) : (((w.alloc o0).alloc o1).alloc o2).drew.heap[w.heap.size]? = some o0 := by
  show (((w.heap.push o0).push o1).push o2)[w.heap.size]? = some o0
  simp only [Array.getElem?_push, Array.size_push]
  repeat (first | rw [if_pos trivial] | rw [if_neg (by omega)])
theorem lt30 (w : World) (o0 o1 o2 : Obj) : w.heap.size < (((w.alloc o0).alloc o1).alloc o2).drew.heap.size := by
  show w.heap.size < (((w.heap.push o0).push o1).push o2).size
  simp only [Array.size_push]
  omega
theorem at31 (w : World) (o0 o1 o2 : Obj) : (((w.alloc o0).alloc o1).alloc o2).drew.heap[w.heap.size + 1]? = some o1 := by
  show (((w.heap.push o0).push o1).push o2)[w.heap.size + 1]? = some o1
  simp only [Array.getElem?_push, Array.size_push]
  repeat (first | rw [if_pos trivial] | rw [if_neg (by omega)])
theorem lt31 (w : World) (o0 o1 o2 : Obj) : w.heap.size + 1 < (((w.alloc o0).alloc o1).alloc o2).drew.heap.size := by
  show w.heap.size + 1 < (((w.heap.push o0).push o1).push o2).size
  simp only [Array.size_push]
  omega
theorem at32 (w : World) (o0 o1 o2 : Obj) : (((w.alloc o0).alloc o1).alloc o2).drew.heap[w.heap.size + 1 + 1]? = some o2 := by
  show (((w.heap.push o0).push o1).push o2)[w.heap.size + 1 + 1]? = some o2
  simp only [Array.getElem?_push, Array.size_push]
  repeat (first | rw [if_pos trivial] | rw [if_neg (by omega)])
theorem lt32 (w : World) (o0 o1 o2 : Obj) : w.heap.size + 1 + 1 < (((w.alloc o0).alloc o1).alloc o2).drew.heap.size := by
  show w.heap.size + 1 + 1 < (((w.heap.push o0).push o1).push o2).size
  simp only [Array.size_push]
  omega

theorem sz1 (w : World) (o0 : Obj) : (w.alloc o0).drew.heap.size = w.heap.size + 1 := by show (w.heap.push o0).size = _; simp only [Array.size_push]
theorem sz2 (w : World) (o0 o1 : Obj) : ((w.alloc o0).alloc o1).drew.heap.size = w.heap.size + 1 + 1 := by show ((w.heap.push o0).push o1).size = _; simp only [Array.size_push]
theorem sz3 (w : World) (o0 o1 o2 : Obj) : (((w.alloc o0).alloc o1).alloc o2).drew.heap.size = w.heap.size + 1 + 1 + 1 := by show (((w.heap.push o0).push o1).push o2).size = _; simp only [Array.size_push]
theorem own_ints {W : World} {base g cap n : Nat} {D : List Int} (h : W.ownsRow base 3 1 (.slice (some ⟨g, 0, none⟩) (0 + n) cap) (0 + n) ([] ++ D.map (Value.int .i64))) (hl : D.length = n) : Ints W (some ⟨g, 0, none⟩) n D := by
  refine ⟨hl, fun i hi => ⟨g, 0, rfl, ?_⟩⟩
  rcases h.2 with ⟨h', _⟩ | ⟨g', cap', cur, h', _, hg, _, _, hcs, htake⟩
  · simp at h'
  · simp only [Value.slice.injEq, Option.some.injEq, Addr.mk.injEq, and_true, true_and] at h'
    obtain ⟨rfl, rfl⟩ := h'
    have e : cur[i]? = (([] ++ D.map (Value.int .i64)) : List Value)[i]? := by
      rw [← htake, List.getElem?_take_of_lt (by omega)]
      simp
    simp only [World.cell?, hg]
    simp only [Nat.zero_add]
    rw [e]
    simp [hl, hi]
theorem Ints.set {W : World} {a : Option Addr} {n X : Nat} {zs : List Int} (h : Ints W a n zs) (hx : ∀ b o, a = some ⟨b, o, none⟩ → b ≠ X) (i : Nat) (v : Value) : Ints (W.setCell ⟨X, i, none⟩ v) a n zs := by
  refine ⟨h.1, fun j hj => ?_⟩
  obtain ⟨b, off, hab, hc⟩ := h.2 j hj
  refine ⟨b, off, hab, ?_⟩
  rw [← hc]
  exact World.cell?_of_block (Below.heap_setCell _ _ _ _ (hx b off hab))
theorem Cel.set3 {w : World} {B : Nat} {x y z : Value} {t : TypeId} (h : Cel w B [x, y, z] t) (u v u' : Value) : Cel (((w.setCell ⟨B, 0, none⟩ u).setCell ⟨B, 1, none⟩ v).setCell ⟨B, 2, none⟩ u') B [u, v, u'] t := ((h.set 0 u).set 1 v).set 2 u'
theorem Cel.new1 (w : World) (o : Obj) (vs : List Value) (t : TypeId) : Cel ((w.alloc o).alloc (.cells vs.toArray t)) (w.heap.size + 1) vs t := by
  have := Cel.new (w.alloc o) vs t
  rw [World.size_alloc] at this; exact this
theorem Blk.new3s (w : World) (p q r : Addr) (u v x : Value) : Blk ((((w.setCell p u).setCell q v).setCell r x).alloc (.cells #[.int .i64 0, .int .i64 0, .int .i64 0] 3)) w.heap.size [0, 0, 0] := by
  have := Blk.new3 (((w.setCell p u).setCell q v).setCell r x)
  rw [size_setCell, size_setCell, size_setCell] at this; exact this
theorem Blk.new31 (w : World) (o : Obj) : Blk ((w.alloc o).alloc (.cells #[.int .i64 0, .int .i64 0, .int .i64 0] 3)) (w.heap.size + 1) [0, 0, 0] := by
  have := Blk.new3 (w.alloc o)
  rw [World.size_alloc] at this; exact this

theorem row_news {W : World} {cb co n : Nat} {D : List Int} (h : Ints W (some ⟨cb, co, none⟩) n D) : ∀ (j : Nat) (u : Value), (D.map (Value.int .i64))[j]? = some u → W.cell? ((⟨cb, co, none⟩ : Addr).add j) = some u := fun j u hu => by
  rw [List.getElem?_map] at hu
  obtain ⟨z, hz, rfl⟩ := Option.map_eq_some_iff.1 hu
  have hj : j < n := by rw [← h.1]; exact (List.getElem?_eq_some_iff.1 hz).1
  obtain ⟨b, off, he, hc⟩ := h.2 j hj
  simp only [Option.some.injEq, Addr.mk.injEq, and_true] at he
  obtain ⟨rfl, rfl⟩ := he
  have hadd : (⟨cb, co, none⟩ : Addr).add j = ⟨cb, co + j, none⟩ := by
    by_cases h0 : j = 0
    · subst h0; simp [Addr.add]
    · simp [Addr.add, h0]
  rw [hadd, hc]
  simp [hz]
theorem row_one (D : List Int) : ∀ u ∈ D.map (Value.int .i64), u.oneCell' = true := by
  intro u hu
  obtain ⟨z, _, rfl⟩ := List.mem_map.1 hu
  rfl

set_option maxHeartbeats 3200000 in
theorem sinto_yes (a : Option Addr) (cap : Nat) (c : Option Addr) (cap' : Nat) (K : Int) (C D : List Int) (b off capN : Nat) (fs : List FV) (w : World) (hC : Ints w a 3 C) (hD : Ints w c 2 D)
    (hN : fs.length = 3) (hF : FormsG w (some ⟨b, off, none⟩) fs) (h1 : formB 3 2 C D K = true) (hall : fs.all FV.ok = true) :
    Calls Tryz.prog 176 #[formV a 3 cap c 2 cap' K, .slice (some ⟨b, off, none⟩) 3 capN] w fun e w' => Res w w' e (keepL (formB 3 2 (intoC C fs 3) (intoD C D fs 3) (intoK C K fs 3)) (intoC C fs 3)) (keepL (formB 3 2 (intoC C fs 3) (intoD C D fs 3) (intoK C K fs 3)) (intoD C D fs 3)) (keepK (formB 3 2 (intoC C fs 3) (intoD C D fs 3) (intoK C K fs 3)) (intoK C K fs 3)) := by
  have n0 := IH.new (w := w) (a := a) (n := 3) (cap := cap) (c := c) (m := 2) (cap' := cap') (K := K)
  obtain ⟨-, -, bC, bD, bK1, bK2⟩ := formB_elim h1
  have hg : ∀ i, i < 3 → ∃ x : FV, x = fs[i]?.getD noFV ∧ OkF x ∧ x.ok = true ∧ x.At w ∧ w.cell? ⟨b, off + i * 3, none⟩ = some (.slice x.a x.n x.cap) ∧ w.cell? ⟨b, off + i * 3 + 1, none⟩ = some (.slice x.c x.m x.cap') ∧ w.cell? ⟨b, off + i * 3 + 2, none⟩ = some (.int .i64 x.K) := fun i hi => by
    obtain ⟨b', off', hb', q0, q1, q2, A1⟩ := hF i (by omega)
    simp only [Option.some.injEq, Addr.mk.injEq, and_true] at hb'
    obtain ⟨rfl, rfl⟩ := hb'
    have ok : (fs[i]?.getD noFV).ok = true := by
      rw [List.all_eq_true] at hall
      rw [List.getElem?_eq_getElem (by omega)]
      exact hall _ (List.getElem_mem _)
    exact ⟨_, rfl, OkF.of A1 ok, ok, A1, q0, q1, q2⟩
  have ho : ∀ i, i < 3 → OkF (fs[i]?.getD noFV) := fun i hi => by
    obtain ⟨x, rfl, h, _⟩ := hg i hi; exact h
  have HI : Hid _ := fun k hk => IntoF.of hD.1 bC bD bK1 bK2 ho k hk
  have HG : Hid _ := hg
  obtain ⟨lb0, _⟩ : b < w.heap.size ∧ True := by
    obtain ⟨x, rfl, _, _, _, q0, _⟩ := hg 0 (by omega)
    exact ⟨block_lt q0, trivial⟩
  clear hg ho hF hN hall
  obtain ⟨cb, co, rfl, hDc⟩ := hD.pos (by omega)
  obtain ⟨ab, ao, rfl, hCc⟩ := hC.pos (by omega)
  clear hDc hCc
  obtain ⟨i0, hi, hz0, hz1, hz2⟩ := info_parts Tryz.infoInt
  go_enter Tryz.func176, Tryz.ntmps176
  go_wp2_with fail
  refine (sok_any _ _ _ _ _ _ _ C D _ (hC.below n0.b) (hD.below n0.b) (by omega) (by omega)).mono ?_
  rintro e w1 ⟨rfl, b1⟩
  have H1 := n0.below b1
  clear n0 b1
  obtain ⟨⟨xa, xn, xcap, xc, xm, xcap', xK, xC, xD⟩, -, -, ok, A, q0, q1, q2⟩ := HG.out 0 (by omega)
  obtain ⟨x1, x2, x3, x4⟩ := A
  simp only [FV.ok] at ok q0 q1 q2 x1 x2 x3 x4
  rw [Nat.zero_mul, Nat.add_zero] at q0 q1 q2
  have s0 := (H1.b.cell (p := ⟨b, off, none⟩) lb0).trans q0
  have s1 := (H1.b.cell (p := ⟨b, off + 1, none⟩) lb0).trans q1
  have s2 := (H1.b.cell (p := ⟨b, off + 2, none⟩) lb0).trans q2
  clear q0 q1 q2
  go_wp2_with fail
  refine (sok_any _ _ _ _ _ _ _ xC xD _ (x1.below H1.b) (x2.below H1.b) x3 x4).mono ?_
  rintro e w2 ⟨rfl, b2⟩
  rw [ok]
  have H2 := H1.below b2
  clear ok x1 x2 x3 x4 s0 s1 s2 H1 b2
  obtain ⟨⟨xa, xn, xcap, xc, xm, xcap', xK, xC, xD⟩, -, -, ok, A, q0, q1, q2⟩ := HG.out 1 (by omega)
  obtain ⟨x1, x2, x3, x4⟩ := A
  simp only [FV.ok] at ok q0 q1 q2 x1 x2 x3 x4
  rw [Nat.one_mul] at q0 q1 q2
  have s0 := (H2.b.cell (p := ⟨b, off + 3, none⟩) lb0).trans q0
  have s1 := (H2.b.cell (p := ⟨b, off + 3 + 1, none⟩) lb0).trans q1
  have s2 := (H2.b.cell (p := ⟨b, off + 3 + 2, none⟩) lb0).trans q2
  clear q0 q1 q2
  go_wp2_with fail
  refine (sok_any _ _ _ _ _ _ _ xC xD _ (x1.below H2.b) (x2.below H2.b) x3 x4).mono ?_
  rintro e w3 ⟨rfl, b3⟩
  rw [ok]
  have H3 := H2.below b3
  clear ok x1 x2 x3 x4 s0 s1 s2 H2 b3
  obtain ⟨⟨xa, xn, xcap, xc, xm, xcap', xK, xC, xD⟩, -, -, ok, A, q0, q1, q2⟩ := HG.out 2 (by omega)
  obtain ⟨x1, x2, x3, x4⟩ := A
  simp only [FV.ok] at ok q0 q1 q2 x1 x2 x3 x4
  have e6 : off + 2 * 3 = off + 6 := rfl
  rw [e6] at q0 q1 q2
  have s0 := (H3.b.cell (p := ⟨b, off + 6, none⟩) lb0).trans q0
  have s1 := (H3.b.cell (p := ⟨b, off + 6 + 1, none⟩) lb0).trans q1
  have s2 := (H3.b.cell (p := ⟨b, off + 6 + 2, none⟩) lb0).trans q2
  clear q0 q1 q2 e6
  go_wp2_with fail
  refine (sok_any _ _ _ _ _ _ _ xC xD _ (x1.below H3.b) (x2.below H3.b) x3 x4).mono ?_
  rintro e wy ⟨rfl, b4⟩
  rw [ok]
  have HY := H3.below b4
  clear ok x1 x2 x3 x4 s0 s1 s2 H3 b4
  have ly := HY.r.lt
  have A1 := HY.b.size
  go_upto_region 3 with fail
  go_cut [5] (fun s wx => ∃ X a' cpa c' cpc, s = .pointer (some ⟨X, 0, none⟩) ∧ IH w (some ⟨ab, ao, none⟩) 3 cap (some ⟨cb, co, none⟩) 2 cap' K wx ∧ Cel wx X [.slice a' 3 cpa, .slice c' 2 cpc, .int .i64 K] 127 ∧ Ints wx a' 3 [0, 0, 0] ∧ Ints wx c' 2 D ∧ w.heap.size + 1 < X)
  case first =>
    have GY := HY.cells
    have N1 := World.new_ne wy ⟨w.heap.size, 1, none⟩ GY.2.1
    have N2 := World.new_ne wy ⟨w.heap.size, 2, none⟩ GY.2.2
    go_region_held3 (fun w' => w'.cell? ⟨w.heap.size, 1, none⟩ = some (.slice (some ⟨cb, co, none⟩) 2 cap') ∧ w'.cell? ⟨w.heap.size, 2, none⟩ = some (.int .i64 K)) (with_reducible first | assumption | exact (HY.alloc _).drew.cells.2 | exact ((HY.alloc _).alloc _).drew.cells.2 | exact (((HY.alloc _).alloc _).alloc _).drew.cells.2 | exact (HZ.alloc _).cells.2 | exact ((HZ.alloc _).alloc _).cells.2 | exact (((HZ.set (by omega) _ _).set (by omega) _ _).set (by omega) _ _).cells.2 | exact ((((HZ.alloc _).set (by omega) _ _).set (by omega) _ _).set (by omega) _ _).cells.2 | exact (((((HZ.alloc _).alloc _).set (by omega) _ _).set (by omega) _ _).set (by omega) _ _).cells.2 | exact ((((HZ.set (by omega) _ _).set (by omega) _ _).set (by omega) _ _).alloc _).cells.2 | go_keep)
      ((refine step_append_grows (by rfl) _ _ _ (by rfl) 3 i0 (.int .i64 0) 1 8 Tryz.underlying23 hi hz0 hz1 hz2 rfl (by decide) _ 0 0 [] (by rfl) (fun _ => ⟨rfl, rfl⟩) rfl (fun _ _ j u hu => by simp at hu) ⟨cb, co, none⟩ 2 cap' (D.map (Value.int .i64)) (by rfl) (by rw [List.length_map]; exact hD.1) (row_news (by with_reducible first | exact hD.below HY.drew.b | exact hD.below (HY.alloc _).drew.b | exact hD.below ((HY.alloc _).alloc _).drew.b | exact hD.below (((HY.alloc _).alloc _).alloc _).drew.b)) (row_one D) (by omega) (by unfold maxLen; omega) (by omega) ?_
        intro v' wz hown hgrow
        obtain ⟨g, cpg, rfl, hbg, hlt⟩ := World.ownsRow.form hown (by omega)
        have IZ := own_ints hown hD.1
        simp only [sz1, World.size_alloc] at hbg
        have BZ := (Below.refl _ _).grown hgrow (Nat.le_refl _) (by simp)
        have HZ := IH.below (w := w) (a := some ⟨ab, ao, none⟩) (n := 3) (cap := cap) (c := some ⟨cb, co, none⟩) (m := 2) (cap' := cap') (K := K) (by with_reducible first | exact HY.drew | exact (HY.alloc _).drew | exact ((HY.alloc _).alloc _).drew | exact (((HY.alloc _).alloc _).alloc _).drew) BZ
        have GZ := HZ.cells.2
        have rz := HZ.r.lt
        have P0 := BZ.block wy.heap.size
        have P1 := BZ.block (wy.heap.size + 1)
        have P2 := BZ.block (wy.heap.size + 1 + 1)
        try simp only [at20, at21, at30, at31, at32, lt20, lt21, lt30, lt31, lt32, forall_const] at P0 P1 P2
        first
          | (have XZ : Cel wz wy.heap.size [.slice none 0 0, .slice none 0 0, .int .i64 0] 127 := by unfold Cel; with_reducible exact P0
             obtain ⟨u0, u1, u2, u3, u4, u5⟩ := XZ.trio; have lx := XZ.lt; have nx0 := World.new_ne wz _ u0; have nx1 := World.new_ne wz _ u1; have nx2 := World.new_ne wz _ u2)
          | (have XZ : Cel wz (wy.heap.size + 1) [.slice none 0 0, .slice none 0 0, .int .i64 0] 127 := by unfold Cel; with_reducible exact P1
             obtain ⟨u0, u1, u2, u3, u4, u5⟩ := XZ.trio; have lx := XZ.lt; have nx0 := World.new_ne wz _ u0; have nx1 := World.new_ne wz _ u1; have nx2 := World.new_ne wz _ u2)
          | (have XZ : Cel wz (wy.heap.size + 1 + 1) [.slice none 0 0, .slice none 0 0, .int .i64 0] 127 := by unfold Cel; with_reducible exact P2
             obtain ⟨u0, u1, u2, u3, u4, u5⟩ := XZ.trio; have lx := XZ.lt; have nx0 := World.new_ne wz _ u0; have nx1 := World.new_ne wz _ u1; have nx2 := World.new_ne wz _ u2)
          | skip
        first
          | have AZ : Blk wz wy.heap.size [0, 0, 0] := by exact P0
          | have AZ : Blk wz (wy.heap.size + 1) [0, 0, 0] := by exact P1
          | have AZ : Blk wz (wy.heap.size + 1 + 1) [0, 0, 0] := by exact P2
          | skip))
    all_goals
      go_wp2_with fail
      go_meet
      case rel =>
        first
          | refine ⟨_, some ⟨wy.heap.size, 0, none⟩, 3, some ⟨g, 0, none⟩, cpg, rfl, (by with_reducible first | exact HZ.alloc _ | exact (HZ.alloc _).alloc _ | exact (((HZ.set (by omega) _ _).set (by omega) _ _).set (by omega) _ _) | exact (((HZ.set (by omega) _ _).set (by omega) _ _).set (by omega) _ _).alloc _), (by with_reducible first | exact Cel.new wz _ _ | exact Cel.new1 wz _ _ _ | exact (Cel.new wz _ _).alloc _ | exact (XZ.set3 _ _ _) | exact (XZ.set3 _ _ _).alloc _), (by with_reducible first | exact (AZ.alloc _).ints' (n := 3) rfl | exact (Blk.new3 _).ints' (n := 3) rfl | exact ((Blk.new3 wz).alloc _).ints' (n := 3) rfl | exact (Blk.new31 wz _).ints' (n := 3) rfl | exact (Blk.new3s wz _ _ _ _ _ _).ints' (n := 3) rfl | exact (((AZ.setOther (by omega) _ _).setOther (by omega) _ _).setOther (by omega) _ _).ints' (n := 3) rfl), (by with_reducible first | exact IZ.alloc _ | exact (IZ.alloc _).alloc _ | exact (((IZ.set (fun x o hx => by simp only [Option.some.injEq, Addr.mk.injEq, and_true] at hx; omega) _ _).set (fun x o hx => by simp only [Option.some.injEq, Addr.mk.injEq, and_true] at hx; omega) _ _).set (fun x o hx => by simp only [Option.some.injEq, Addr.mk.injEq, and_true] at hx; omega) _ _) | exact (((IZ.set (fun x o hx => by simp only [Option.some.injEq, Addr.mk.injEq, and_true] at hx; omega) _ _).set (fun x o hx => by simp only [Option.some.injEq, Addr.mk.injEq, and_true] at hx; omega) _ _).set (fun x o hx => by simp only [Option.some.injEq, Addr.mk.injEq, and_true] at hx; omega) _ _).alloc _), by omega⟩
          | refine ⟨_, some ⟨wy.heap.size + 1, 0, none⟩, 3, some ⟨g, 0, none⟩, cpg, rfl, (by with_reducible first | exact HZ.alloc _ | exact (HZ.alloc _).alloc _ | exact (((HZ.set (by omega) _ _).set (by omega) _ _).set (by omega) _ _) | exact (((HZ.set (by omega) _ _).set (by omega) _ _).set (by omega) _ _).alloc _), (by with_reducible first | exact Cel.new wz _ _ | exact Cel.new1 wz _ _ _ | exact (Cel.new wz _ _).alloc _ | exact (XZ.set3 _ _ _) | exact (XZ.set3 _ _ _).alloc _), (by with_reducible first | exact (AZ.alloc _).ints' (n := 3) rfl | exact (Blk.new3 _).ints' (n := 3) rfl | exact ((Blk.new3 wz).alloc _).ints' (n := 3) rfl | exact (Blk.new31 wz _).ints' (n := 3) rfl | exact (Blk.new3s wz _ _ _ _ _ _).ints' (n := 3) rfl | exact (((AZ.setOther (by omega) _ _).setOther (by omega) _ _).setOther (by omega) _ _).ints' (n := 3) rfl), (by with_reducible first | exact IZ.alloc _ | exact (IZ.alloc _).alloc _ | exact (((IZ.set (fun x o hx => by simp only [Option.some.injEq, Addr.mk.injEq, and_true] at hx; omega) _ _).set (fun x o hx => by simp only [Option.some.injEq, Addr.mk.injEq, and_true] at hx; omega) _ _).set (fun x o hx => by simp only [Option.some.injEq, Addr.mk.injEq, and_true] at hx; omega) _ _) | exact (((IZ.set (fun x o hx => by simp only [Option.some.injEq, Addr.mk.injEq, and_true] at hx; omega) _ _).set (fun x o hx => by simp only [Option.some.injEq, Addr.mk.injEq, and_true] at hx; omega) _ _).set (fun x o hx => by simp only [Option.some.injEq, Addr.mk.injEq, and_true] at hx; omega) _ _).alloc _), by omega⟩
          | refine ⟨_, some ⟨wy.heap.size + 1 + 1, 0, none⟩, 3, some ⟨g, 0, none⟩, cpg, rfl, (by with_reducible first | exact HZ.alloc _ | exact (HZ.alloc _).alloc _ | exact (((HZ.set (by omega) _ _).set (by omega) _ _).set (by omega) _ _) | exact (((HZ.set (by omega) _ _).set (by omega) _ _).set (by omega) _ _).alloc _), (by with_reducible first | exact Cel.new wz _ _ | exact Cel.new1 wz _ _ _ | exact (Cel.new wz _ _).alloc _ | exact (XZ.set3 _ _ _) | exact (XZ.set3 _ _ _).alloc _), (by with_reducible first | exact (AZ.alloc _).ints' (n := 3) rfl | exact (Blk.new3 _).ints' (n := 3) rfl | exact ((Blk.new3 wz).alloc _).ints' (n := 3) rfl | exact (Blk.new31 wz _).ints' (n := 3) rfl | exact (Blk.new3s wz _ _ _ _ _ _).ints' (n := 3) rfl | exact (((AZ.setOther (by omega) _ _).setOther (by omega) _ _).setOther (by omega) _ _).ints' (n := 3) rfl), (by with_reducible first | exact IZ.alloc _ | exact (IZ.alloc _).alloc _ | exact (((IZ.set (fun x o hx => by simp only [Option.some.injEq, Addr.mk.injEq, and_true] at hx; omega) _ _).set (fun x o hx => by simp only [Option.some.injEq, Addr.mk.injEq, and_true] at hx; omega) _ _).set (fun x o hx => by simp only [Option.some.injEq, Addr.mk.injEq, and_true] at hx; omega) _ _) | exact (((IZ.set (fun x o hx => by simp only [Option.some.injEq, Addr.mk.injEq, and_true] at hx; omega) _ _).set (fun x o hx => by simp only [Option.some.injEq, Addr.mk.injEq, and_true] at hx; omega) _ _).set (fun x o hx => by simp only [Option.some.injEq, Addr.mk.injEq, and_true] at hx; omega) _ _).alloc _), by omega⟩
          | refine ⟨_, some ⟨wz.heap.size, 0, none⟩, 3, some ⟨g, 0, none⟩, cpg, rfl, (by with_reducible first | exact HZ.alloc _ | exact (HZ.alloc _).alloc _ | exact (((HZ.set (by omega) _ _).set (by omega) _ _).set (by omega) _ _) | exact (((HZ.set (by omega) _ _).set (by omega) _ _).set (by omega) _ _).alloc _), (by with_reducible first | exact Cel.new wz _ _ | exact Cel.new1 wz _ _ _ | exact (Cel.new wz _ _).alloc _ | exact (XZ.set3 _ _ _) | exact (XZ.set3 _ _ _).alloc _), (by with_reducible first | exact (AZ.alloc _).ints' (n := 3) rfl | exact (Blk.new3 _).ints' (n := 3) rfl | exact ((Blk.new3 wz).alloc _).ints' (n := 3) rfl | exact (Blk.new31 wz _).ints' (n := 3) rfl | exact (Blk.new3s wz _ _ _ _ _ _).ints' (n := 3) rfl | exact (((AZ.setOther (by omega) _ _).setOther (by omega) _ _).setOther (by omega) _ _).ints' (n := 3) rfl), (by with_reducible first | exact IZ.alloc _ | exact (IZ.alloc _).alloc _ | exact (((IZ.set (fun x o hx => by simp only [Option.some.injEq, Addr.mk.injEq, and_true] at hx; omega) _ _).set (fun x o hx => by simp only [Option.some.injEq, Addr.mk.injEq, and_true] at hx; omega) _ _).set (fun x o hx => by simp only [Option.some.injEq, Addr.mk.injEq, and_true] at hx; omega) _ _) | exact (((IZ.set (fun x o hx => by simp only [Option.some.injEq, Addr.mk.injEq, and_true] at hx; omega) _ _).set (fun x o hx => by simp only [Option.some.injEq, Addr.mk.injEq, and_true] at hx; omega) _ _).set (fun x o hx => by simp only [Option.some.injEq, Addr.mk.injEq, and_true] at hx; omega) _ _).alloc _), by omega⟩
          | refine ⟨_, some ⟨wz.heap.size + 1, 0, none⟩, 3, some ⟨g, 0, none⟩, cpg, rfl, (by with_reducible first | exact HZ.alloc _ | exact (HZ.alloc _).alloc _ | exact (((HZ.set (by omega) _ _).set (by omega) _ _).set (by omega) _ _) | exact (((HZ.set (by omega) _ _).set (by omega) _ _).set (by omega) _ _).alloc _), (by with_reducible first | exact Cel.new wz _ _ | exact Cel.new1 wz _ _ _ | exact (Cel.new wz _ _).alloc _ | exact (XZ.set3 _ _ _) | exact (XZ.set3 _ _ _).alloc _), (by with_reducible first | exact (AZ.alloc _).ints' (n := 3) rfl | exact (Blk.new3 _).ints' (n := 3) rfl | exact ((Blk.new3 wz).alloc _).ints' (n := 3) rfl | exact (Blk.new31 wz _).ints' (n := 3) rfl | exact (Blk.new3s wz _ _ _ _ _ _).ints' (n := 3) rfl | exact (((AZ.setOther (by omega) _ _).setOther (by omega) _ _).setOther (by omega) _ _).ints' (n := 3) rfl), (by with_reducible first | exact IZ.alloc _ | exact (IZ.alloc _).alloc _ | exact (((IZ.set (fun x o hx => by simp only [Option.some.injEq, Addr.mk.injEq, and_true] at hx; omega) _ _).set (fun x o hx => by simp only [Option.some.injEq, Addr.mk.injEq, and_true] at hx; omega) _ _).set (fun x o hx => by simp only [Option.some.injEq, Addr.mk.injEq, and_true] at hx; omega) _ _) | exact (((IZ.set (fun x o hx => by simp only [Option.some.injEq, Addr.mk.injEq, and_true] at hx; omega) _ _).set (fun x o hx => by simp only [Option.some.injEq, Addr.mk.injEq, and_true] at hx; omega) _ _).set (fun x o hx => by simp only [Option.some.injEq, Addr.mk.injEq, and_true] at hx; omega) _ _).alloc _), by omega⟩
  case rest =>
    obtain ⟨X, a', cpa, c', cpc, rfl, HX, hX, iA, iD, lX⟩ := hcut
    clear HY ly A1 hi hz0 hz1 hz2
    go_wp2_with fail
    go_loopw [6] (fun i wr => ∃ k : Nat, k ≤ 3 ∧ i = .int .i64 k ∧ IH w (some ⟨ab, ao, none⟩) 3 cap (some ⟨cb, co, none⟩) 2 cap' K wr ∧ ∃ a' cpa c' cpc, Cel wr X [.slice a' 3 cpa, .slice c' 2 cpc, .int .i64 (intoK C K fs k)] 127 ∧ Ints wr a' 3 (intoC C fs k) ∧ Ints wr c' 2 (intoD C D fs k) ∧
      (k = 3 → ∃ B1 B2, a' = some ⟨B1, 0, none⟩ ∧ cpa = 3 ∧ c' = some ⟨B2, 0, none⟩ ∧ cpc = 2 ∧ Blk wr B1 (intoC C fs 3) ∧ Blk wr B2 (intoD C D fs 3) ∧ w.heap.size + 1 < B1 ∧ w.heap.size + 1 < B2 ∧ B1 ≠ B2)) (fun i _ => 3 - (intOf i).toNat)
    case atStart => exact ⟨0, by omega, rfl, HX, a', cpa, c', cpc, hX, iA, iD, fun h => by omega⟩
    case round =>
      clear HX hX iA iD
      obtain ⟨k, hk, rfl, HX, a', cpa, c', cpc, hX, iA, iD, hB⟩ := hrel
      have IF := HI.out k hk
      by_cases hlt : k < 3
      · clear hB
        obtain ⟨x, hx, okf, -, A, q0, q1, q2⟩ := HG.out k hlt
        obtain ⟨xa, xn, xcap, xc, xm, xcap', xK, xC, xD⟩ := x
        obtain ⟨x1, x2, x3, x4⟩ := A
        obtain ⟨o1, o2, o3, o4, o5, o6, o7, o8⟩ := okf
        simp only at o1 o2 o3 o4 o5 o6 o7 o8 q0 q1 q2 x1 x2
        subst o1 o2
        have HX' : Hid _ := hx
        clear hx x3 x4
        have s0 := (HX.b.cell (p := ⟨b, off + k * 3, none⟩) lb0).trans q0
        have s1 := (HX.b.cell (p := ⟨b, off + k * 3 + 1, none⟩) lb0).trans q1
        have s2 := (HX.b.cell (p := ⟨b, off + k * 3 + 2, none⟩) lb0).trans q2
        have bc := bC k
        have tC := tim_bnd o5 bc.1 bc.2
        have tD := tim_bnd o6 bc.1 bc.2
        have tK := tim_num o7 o8 bc.1 bc.2
        obtain ⟨f1, f2, f3, f4, f5, f6⟩ := IF
        have xbC : bnd 1000000000000000000 (intoC C fs k) := fun i => by have := f3 i; omega
        have xbD : bnd 1000000000000000000 (intoD C D fs k) := fun i => by have := f4 i; omega
        have xbK : -1000000000000000000 ≤ intoK C K fs k ∧ intoK C K fs k ≤ 1000000000000000000 := by omega
        have EC : intoC C fs (k + 1) = lin (intoC C fs k) xC (C[k]?.getD 0) := by simp only [intoC]; rw [← HX'.out]
        have ED : intoD C D fs (k + 1) = lin (intoD C D fs k) xD (C[k]?.getD 0) := by simp only [intoD]; rw [← HX'.out]
        have EK : intoK C K fs (k + 1) = intoK C K fs k + C[k]?.getD 0 * xK := by simp only [intoK]; rw [← HX'.out]
        have LC := lin_len (n := C[k]?.getD 0) f1 o3
        have LD := lin_len (n := C[k]?.getD 0) f2 o4
        have hck : wr.cell? ⟨ab, ao + k, none⟩ = some (.int .i64 (C[k]?.getD 0)) := by
          obtain ⟨b', off', he, hc⟩ := (hC.below HX.b).2 k hlt
          simp only [Option.some.injEq, Addr.mk.injEq, and_true] at he
          obtain ⟨rfl, rfl⟩ := he
          simpa using hc
        have HEC : Hid _ := EC
        have HED : Hid _ := ED
        have HEK : Hid _ := EK
        clear EC ED EK f3 f4 f5 f6 bc q0 q1 q2
        have GX := HX.cells.1
        obtain ⟨u0, u1, u2, u3, u4, u5⟩ := hX.trio
        have hlt' : (k : Int) < 3 := by omega
        have hlt0 : (0 : Int) ≤ (k : Int) := by omega
        generalize intoC C fs k = iC at *
        generalize intoD C D fs k = jD at *
        generalize intoK C K fs k = sK at *
        generalize C[k]?.getD 0 = ck at *
        go_wp2_with fail
        go_region_with (first | (go_at_call 178; refine (l1sum_any _ _ _ _ _ iC jD _ _ _ _ _ xC xD _ _ (by exact iA) (by exact iD) (by exact x1.below HX.drew.b) (by exact x2.below HX.drew.b) xbC xbD xbK tC tD tK).mono ?_; rintro e w5 ⟨B1, B2, rfl, b5, g1, g2, g3, k1, k2⟩; have g1' : wr.heap.size ≤ B1 := g1; have g3' : wr.heap.size ≤ B2 := g3; have b5' := below_of_drew b5; have H5 := HX.below b5'; have X5 := hX.below b5'; obtain ⟨v0, v1, v2, v3, v4, v5⟩ := X5.trio))
        all_goals
          have E3 : Blk (((w5.setCell ⟨X, 0, none⟩ (.slice (some ⟨B1, 0, none⟩) 3 3)).setCell ⟨X, 1, none⟩ (.slice (some ⟨B2, 0, none⟩) 2 2)).setCell ⟨X, 2, none⟩ (.int .i64 (sK + ck * xK))) B1 (lin iC xC ck) := ((k1.setOther (by have := hX.lt; omega) _ _).setOther (by have := hX.lt; omega) _ _).setOther (by have := hX.lt; omega) _ _
          have E4 : Blk (((w5.setCell ⟨X, 0, none⟩ (.slice (some ⟨B1, 0, none⟩) 3 3)).setCell ⟨X, 1, none⟩ (.slice (some ⟨B2, 0, none⟩) 2 2)).setCell ⟨X, 2, none⟩ (.int .i64 (sK + ck * xK))) B2 (lin jD xD ck) := ((k2.setOther (by have := hX.lt; omega) _ _).setOther (by have := hX.lt; omega) _ _).setOther (by have := hX.lt; omega) _ _
          have E1 := ((H5.set (X := X) (by omega) 0 (.slice (some ⟨B1, 0, none⟩) 3 3)).set (X := X) (by omega) 1 (.slice (some ⟨B2, 0, none⟩) 2 2)).set (X := X) (by omega) 2 (.int .i64 (sK + ck * xK))
          have E2 := X5.set3 (.slice (some ⟨B1, 0, none⟩) 3 3) (.slice (some ⟨B2, 0, none⟩) 2 2) (.int .i64 (sK + ck * xK))
          have zr := HX.r.lt
          have zX := hX.lt
          clear k1 k2 HX hX iA iD s0 s1 s2 hck x1 x2 b5 b5' tC tD tK xbC xbD xbK u0 u1 u2 u3 u4 u5 GX
          go_wp2
          go_roundw
          case rel =>
            refine ⟨k + 1, by omega, by go_num, E1, some ⟨B1, 0, none⟩, 3, some ⟨B2, 0, none⟩, 2, ?_, ?_, ?_, ?_⟩
            · rw [HEK.out]; exact E2
            · rw [HEC.out]; exact E3.ints' LC
            · rw [HED.out]; exact E4.ints' LD
            · intro h3
              obtain rfl : k = 2 := by omega
              refine ⟨B1, B2, rfl, rfl, rfl, rfl, ?_, ?_, by omega, by omega, g2⟩
              · rw [HEC.out]; exact E3
              · rw [HED.out]; exact E4
          case measure => simp [intOf]; omega
      · obtain rfl : k = 3 := by omega
        obtain ⟨B1, B2, rfl, rfl, rfl, rfl, k1, k2, lB1, lB2, hne⟩ := hB rfl
        obtain ⟨f1, f2, -, -, -, -⟩ := IF
        clear iA iD hlt hk
        obtain ⟨c0, c1, c2, -, -, -⟩ := hX.trio
        cases h3 : formB 3 2 (intoC C fs 3) (intoD C D fs 3) (intoK C K fs 3)
        all_goals
          go_wp2_with fail
          refine (sok_any _ _ _ _ _ _ _ (intoC C fs 3) (intoD C D fs 3) _ (k1.ints' f1) (k2.ints' f2) (by omega) (by omega)).mono ?_
          rintro e w5 ⟨rfl, b5⟩
          have H5 := HX.below b5
          have x5 := hX.below b5
          obtain ⟨d0, d1, d2, -, -, -⟩ := x5.trio
          obtain ⟨r0, r1, r2, r3, r4, r5⟩ := H5.room
          have k1' := k1.below b5
          have k2' := k2.below b5
          clear c0 c1 c2 HX hX k1 k2 b5
          go_wp2
        · refine bodyPost_ret (v := formV none 0 0 none 0 0 0) (by simp [results, Tryz.results176, go_sem, r0, r1, r2]) rfl ?_
          rw [h3]
          exact H5.none
        · refine bodyPost_ret (v := formV (some ⟨B1, 0, none⟩) 3 3 (some ⟨B2, 0, none⟩) 2 2 (intoK C K fs 3)) (by simp [results, Tryz.results176, go_sem, r0, r1, r2]) rfl ?_
          rw [h3]
          refine Res.of (B1 := B1) (B2 := B2) rfl f1 f2 ?_ (by omega) hne (by omega) ?_ ?_
          · exact ((H5.b.setCell (by simp only []; omega) _).setCell (by simp only []; omega) _).setCell (by simp only []; omega) _
          · exact ((k1'.setOther (by omega) _ _).setOther (by omega) _ _).setOther (by omega) _ _
          · exact ((k2'.setOther (by omega) _ _).setOther (by omega) _ _).setOther (by omega) _ _

end Go.Proofs.YtacjjhfbnbmnlaaGreatDoor

