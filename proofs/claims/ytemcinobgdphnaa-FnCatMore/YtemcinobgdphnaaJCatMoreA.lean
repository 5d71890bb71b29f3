/-
  Lemmas that the claim's last text rests on: LineSS, Cat, BothA, CatPq, CatM, Draw, DrF, Tk, DrS, DrA, DrFm, FvC, DrL.
-/
import Derived.Test.YtemcinobgdphnaaAct
import Derived.Test.YtemcinobgdphnaaOpenS
import Derived.Test.YtemcinobgdphnaaCatRS
import Derived.Test.YtemcinobgdphnaaHas
import Derived.Test.YtemcinobgdphnaaPart
import Derived.Test.YtemcinobgdphnaaMarks
import Derived.Laws.BitsAllLaws
import Derived.Test.YtemcinobgdphnaaPots
import Derived.Test.YtemcinobgdphnaaKeyed
import Derived.Deep.DeepCutAuto
import Derived.Test.YtemcinobgdphnaaLin
import Derived.Test.YtemcinobgdphnaaAdd
import Derived.Test.YtemcinobgdphnaaAt
namespace Go.Proofs.Ytemcinobgdphnaa
open Go.ChangeShapes Go.WideShapes Go.ChangeAt Go.RowKit Go.Joins Go.Deep
set_option linter.unusedVariables false
set_option maxRecDepth 100000

/-- A slice, and what it holds. -/
structure L2V where
  a : Option Addr
  n : Nat
  cap : Nat
  x : List LV
def noL : L2V := ⟨none, 0, 0, []⟩
def L2V.v (s : L2V) : Value := .slice s.a s.n s.cap

theorem trod_lenL {H : Type} {enc : TypeId × Value → H} {W : World} {fuel : Nat} {t e : TypeId} {cs : List Value} {x : DataW H × List MemPlace} (hS : Try.prog.underlying t = some (.slice e)) (hf : DataW.trod enc Try.prog W 0 (fun _ => true) true fuel t cs = some x) : cs.length = 1 := by
  rcases open_slice hS hf with ⟨h, _⟩ | ⟨a, len, cap, m, n, D, Pl, h, _⟩ <;> rw [h] <;> rfl

def LM (w : World) (s : L2V) : Prop := s.x.length = s.n ∧ LinesM w s.a s.x ∧ s.n ≤ maxLen
def LG (w : World) (s : L2V) : Prop := s.x.length = s.n ∧ LinesG w s.a s.x ∧ s.n ≤ 1048576
def LS (s : L2V) : Prop := s.n ≤ 1048576 ∧ ∀ i, i < s.x.length → (s.x[i]?.getD noLV).f.n ≤ 1048576 ∧ (s.x[i]?.getD noLV).f.m ≤ 1048576
def LK (w : World) (lo : Nat) (s : L2V) : Prop := ∃ B l p q, s.a = some ⟨B, 0, none⟩ ∧ lo ≤ B ∧ ML w B l s.n s.x p q ∧ s.x.length = s.n ∧ s.n ≤ 1048576
def copiesL2 (s t : L2V) : Prop := t.n = s.n ∧ t.x.length = s.x.length ∧ copiesL s.x t.x
def sameL2 (s t : L2V) : Prop := s.n = t.n ∧ ∀ i, i < s.n → sameL (s.x[i]?.getD noLV) (t.x[i]?.getD noLV)
theorem LM.below {w w' : World} {s : L2V} (h : LM w s) (hb : Below w.heap.size w w') : LM w' s := ⟨h.1, h.2.1.below hb, h.2.2⟩
theorem LG.below {w w' : World} {s : L2V} (h : LG w s) (hb : Below w.heap.size w w') : LG w' s := ⟨h.1, h.2.1.below hb, h.2.2⟩
theorem LM.g {w : World} {s : L2V} (h : LM w s) (hs : LS s) : LG w s := ⟨h.1, h.2.1.g hs.2, hs.1⟩
theorem ML.touch {S : Nat → Prop} {W W' : World} {B lo N : Nat} {gs : List LV} {p q : Nat → Nat} (h : ML W B lo N gs p q) (t : Touch S W W') (hs : ∀ k, S k → k < B) : ML W' B lo N gs p q := by
  obtain ⟨vs, h1, h2, h3⟩ := h.c
  have hb := h.b
  refine ⟨⟨vs, by rw [t.block B (lt_of_block h1) (fun hh => by have := hs _ hh; omega)]; exact h1, h2, h3⟩, fun i hi => ?_, h.b, Nat.le_trans h.s t.size⟩
  obtain ⟨a2, a3, a4, a5, a6, a7, a8, a9, a10, a11, a12, a13⟩ := h.l i hi
  have k1 : Blk W' (p i) (gs[i]?.getD noLV).f.C := by unfold Blk at *; rw [t.block _ (lt_of_block a4) (fun hh => by have := hs _ hh; omega)]; exact a4
  have k2 : Blk W' (q i) (gs[i]?.getD noLV).f.D := by unfold Blk at *; rw [t.block _ (lt_of_block a5) (fun hh => by have := hs _ hh; omega)]; exact a5
  exact ⟨a2, a3, k1, k2, a6, a7, a8, a9, a10, a11, Nat.lt_of_lt_of_le a12 t.size, a13⟩
theorem LK.below {w w' : World} {lo : Nat} {s : L2V} (h : LK w lo s) (hb : Below w.heap.size w w') : LK w' lo s := by
  obtain ⟨B, l, p, q, h1, h2, h3, h4⟩ := h
  exact ⟨B, l, p, q, h1, h2, h3.below hb, h4⟩
theorem LK.touch {S : Nat → Prop} {w w' : World} {lo : Nat} {s : L2V} (h : LK w lo s) (t : Touch S w w') (hs : ∀ k, S k → k < lo) : LK w' lo s := by
  obtain ⟨B, l, p, q, h1, h2, h3, h4⟩ := h
  exact ⟨B, l, p, q, h1, h2, h3.touch t (fun k hk => by have := hs k hk; omega), h4⟩
theorem LK.mono {w : World} {lo lo' : Nat} {s : L2V} (h : LK w lo s) (hl : lo' ≤ lo) : LK w lo' s := by
  obtain ⟨B, l, p, q, h1, h2, h3⟩ := h
  exact ⟨B, l, p, q, h1, by omega, h3⟩
theorem LK.g {w : World} {lo : Nat} {s : L2V} (h : LK w lo s) : LG w s := by
  obtain ⟨B, l, p, q, h1, h2, h3, h4, h5⟩ := h
  refine ⟨h4, ?_, h5⟩
  rw [h1]; exact h3.g
theorem open_L1 {H : Type} {enc : TypeId × Value → H} {W : World} {fuel : Nat} {v : Value} {y : DataW H × List MemPlace}
    (hf : DataW.trod enc Try.prog W 0 (fun _ => true) true fuel 52 [v] = some y) : ∃ s : L2V, v = s.v ∧ LM W s := by
  obtain ⟨a, n, cap, zs, rfl, h1, h2, h3⟩ := open_linesC hf
  exact ⟨⟨a, n, cap, zs⟩, rfl, h1, h2, h3⟩

/-- A slice of slices that came in. -/
def LSM (w : World) (ad : Option Addr) (ss : List L2V) : Prop :=
  ∀ i, i < ss.length → ∃ b off, ad = some ⟨b, off, none⟩ ∧ w.cell? ⟨b, off + i, none⟩ = some (ss[i]?.getD noL).v ∧ LM w (ss[i]?.getD noL)
/-- One that may be copied. -/
def LSG (w : World) (ad : Option Addr) (ss : List L2V) : Prop :=
  ∀ i, i < ss.length → ∃ b off, ad = some ⟨b, off, none⟩ ∧ w.cell? ⟨b, off + i, none⟩ = some (ss[i]?.getD noL).v ∧ LG w (ss[i]?.getD noL)
theorem LSM.below {w w' : World} {ad : Option Addr} {ss : List L2V} (h : LSM w ad ss) (hb : Below w.heap.size w w') : LSM w' ad ss := fun i hi => by
  obtain ⟨b, off, e, hc, hr⟩ := h i hi
  exact ⟨b, off, e, by rw [hb.cell (p := ⟨b, off + i, none⟩) (block_lt hc)]; exact hc, hr.below hb⟩
theorem LSG.below {w w' : World} {ad : Option Addr} {ss : List L2V} (h : LSG w ad ss) (hb : Below w.heap.size w w') : LSG w' ad ss := fun i hi => by
  obtain ⟨b, off, e, hc, hr⟩ := h i hi
  exact ⟨b, off, e, by rw [hb.cell (p := ⟨b, off + i, none⟩) (block_lt hc)]; exact hc, hr.below hb⟩
theorem LSM.g {w : World} {ad : Option Addr} {ss : List L2V} (h : LSM w ad ss) (hs : ∀ i, i < ss.length → LS (ss[i]?.getD noL)) : LSG w ad ss := fun i hi => by
  obtain ⟨b, off, e, hc, hr⟩ := h i hi
  exact ⟨b, off, e, hc, hr.g (hs i hi)⟩

theorem open_LS {H : Type} {enc : TypeId × Value → H} {W : World} {r : Reach} {b0 : Nat} {v : Value} {d : DataW H} {p : List MemPlace}
    (hv : Value.okWide Try.prog W r b0 44 v) (h : DataW.Trod enc Try.prog W 0 (fun _ => true) true 44 v d p) :
    ∃ ad N cap ss, v = .slice ad N cap ∧ ss.length = N ∧ LSM W ad ss ∧ N ≤ maxLen := by
  obtain ⟨ad, N, cap, ss, hv, hl, hN, hall⟩ := open_sliceT noL (fun s => [L2V.v s]) (fun s => LM W s) (c := 1) (by omega) Try.underlying44 (by kernel_rfl) (fun _ => rfl) (fun fuel cs x hx => by
    have hl : cs.length = 1 := (trod_lenL Try.underlying52 hx)
    match cs, hl with
    | [c], _ =>
      obtain ⟨s, hs, hr⟩ := open_L1 hx
      exact ⟨s, by rw [hs], hr⟩) hv h
  refine ⟨ad, N, cap, ss, hv, hl, fun i hi => ?_, hN⟩
  obtain ⟨b, off, e, hc, hr⟩ := hall i hi
  have h0 := hc 0 (by omega)
  simp only [Nat.mul_one, Nat.add_zero, List.getElem?_cons_zero] at h0
  exact ⟨b, off, e, h0, hr⟩

/-- Each holds what the other does. -/
def copiesL2S (ss ts : List L2V) : Prop := ∀ i, i < ts.length → copiesL2 (ss[i]?.getD noL) (ts[i]?.getD noL)

/-- All that a slice of lines holds lies in blocks from lo on, and below hi. -/
def InR (lo hi : Nat) (s : L2V) : Prop := (∀ b, s.a = some ⟨b, 0, none⟩ → lo ≤ b ∧ b < hi) ∧ ∀ k, k < s.x.length → ∀ b, (s.x[k]?.getD noLV).f.c = some ⟨b, 0, none⟩ → b < hi
theorem LK.inR {w : World} {lo : Nat} {s : L2V} (h : LK w lo s) : InR lo w.heap.size s := by
  obtain ⟨B, l, p, q, h1, h2, h3, h4, h5⟩ := h
  refine ⟨fun b e => ?_, fun k hk b e => ?_⟩
  · rw [h1] at e
    simp only [Option.some.injEq, Addr.mk.injEq, and_true] at e
    have := h3.lt
    omega
  · obtain ⟨a2, a3, a4, a5, a6, a7, a8, a9, a10, a11, a12, a13⟩ := h3.l k hk
    rw [a3] at e
    simp only [Option.some.injEq, Addr.mk.injEq, and_true] at e
    omega

/-- Block B holds N slices, of which those of ts have been laid. -/
structure ML2 (W : World) (B N : Nat) (ts : List L2V) : Prop where
  c : ∃ vs : List Value, Cel W B vs 52 ∧ vs.length = N ∧ ∀ i, i < ts.length → vs[i]? = some (ts[i]?.getD noL).v
  l : ∀ i, i < ts.length → LK W (B + 1) (ts[i]?.getD noL)
  d : ∃ c : Nat → Nat, B < c 0 ∧ c ts.length ≤ W.heap.size ∧ ∀ i, i < ts.length → c i ≤ c (i + 1) ∧ InR (c i) (c (i + 1)) (ts[i]?.getD noL)
theorem ML2.lt {W : World} {B N : Nat} {ts : List L2V} (h : ML2 W B N ts) : B < W.heap.size := by
  obtain ⟨vs, h1, _⟩ := h.c
  exact h1.lt
theorem ML2.below {W W' : World} {B N : Nat} {ts : List L2V} (h : ML2 W B N ts) (b : Below W.heap.size W W') : ML2 W' B N ts := by
  obtain ⟨vs, h1, h2, h3⟩ := h.c
  obtain ⟨c, c1, c2, c3⟩ := h.d
  exact ⟨⟨vs, h1.below b, h2, h3⟩, fun i hi => (h.l i hi).below b, c, c1, Nat.le_trans c2 b.size, c3⟩
theorem ML2.g {W : World} {B N : Nat} {ts : List L2V} (h : ML2 W B N ts) : LSG W (some ⟨B, 0, none⟩) ts := fun i hi => by
  obtain ⟨vs, h1, h2, h3⟩ := h.c
  exact ⟨B, 0, rfl, by rw [Nat.zero_add, h1.cell i, h3 i hi], (h.l i hi).g⟩
theorem ML2.step {W W1 : World} {B N k : Nat} {ts : List L2V} {s : L2V} (h : ML2 W B N ts) (hk : ts.length = k) (hkN : k < N) (b : Below W.heap.size W W1) (hs : LK W1 W.heap.size s) : ML2 (W1.setCell ⟨B, k, none⟩ s.v) B N (ts ++ [s]) := by
  have hB := h.lt
  obtain ⟨vs, h1, h2, h3⟩ := (h.below b).c
  have T : Touch (fun x => x = B) W1 (W1.setCell ⟨B, k, none⟩ s.v) := Touch.setCell (S := fun x => x = B) (Touch.refl _ _) rfl _
  refine ⟨⟨vs.set k s.v, h1.set _ _, by rw [List.length_set]; exact h2, fun i hi => ?_⟩, fun i hi => ?_, ?_⟩
  · rw [List.length_append, hk] at hi
    simp only [List.length_cons, List.length_nil] at hi
    by_cases e : i = k
    · subst e
      rw [List.getElem?_set_self (by omega), List.getElem?_append_right (by omega), hk]; simp
    · rw [List.getElem?_set_ne (by omega), List.getElem?_append_left (by omega)]
      exact h3 i (by omega)
  · rw [List.length_append, hk] at hi
    simp only [List.length_cons, List.length_nil] at hi
    by_cases e : i = k
    · subst e
      rw [List.getElem?_append_right (by omega), hk]
      simp only [Nat.sub_self, List.getElem?_cons_zero, Option.getD_some]
      exact (hs.mono (by omega)).touch T (fun x hx => by omega)
    · rw [List.getElem?_append_left (by omega)]
      exact (((h.l i (by omega)).below b)).touch T (fun x hx => by omega)
  · obtain ⟨c, c1, c2, c3⟩ := h.d
    have hb := b.size
    rw [hk] at c2 c3
    refine ⟨fun i => if i ≤ k then (if i = k then W.heap.size else c i) else W1.heap.size, ?_, ?_, fun i hi => ?_⟩
    · simp only [Nat.zero_le, if_true]
      split
      · exact hB
      · exact c1
    · rw [List.length_append, hk, size_setCell]
      simp only [List.length_cons, List.length_nil]
      rw [if_neg (by omega)]
      exact Nat.le_refl _
    · rw [List.length_append, hk] at hi
      simp only [List.length_cons, List.length_nil] at hi
      dsimp only
      by_cases e : i = k
      · subst e
        rw [if_pos (Nat.le_refl _), if_pos rfl, if_neg (by omega), List.getElem?_append_right (by omega), hk]
        simp only [Nat.sub_self, List.getElem?_cons_zero, Option.getD_some]
        exact ⟨hb, hs.inR⟩
      · obtain ⟨d1, d2⟩ := c3 i (by omega)
        rw [if_pos (by omega), if_neg e, if_pos (by omega), List.getElem?_append_left (by omega)]
        by_cases e2 : i + 1 = k
        · rw [if_pos e2]
          rw [e2] at d1 d2
          exact ⟨Nat.le_trans d1 c2, ⟨fun b hb => ⟨(d2.1 b hb).1, Nat.lt_of_lt_of_le (d2.1 b hb).2 c2⟩, fun j hj b hb => Nat.lt_of_lt_of_le (d2.2 j hj b hb) c2⟩⟩
        · rw [if_neg e2]
          exact ⟨d1, d2⟩

theorem Try.infoL2 : (Try.prog.info? 52).map (fun i => (i.zero, i.size, i.bytes)) = some (some (.slice none 0 0), 1, 24) := by kernel_rfl

end Go.Proofs.Ytemcinobgdphnaa
namespace Go.Proofs.Ytemcinobgdphnaa
open Go.RowKit
set_option linter.unusedVariables false
set_option maxRecDepth 100000

theorem copiesL_same {fs gs hs : List LV} {N : Nat} (hg : gs.length = N) (hh : hs.length = N) (h1 : copiesL fs gs) (h2 : copiesL fs hs) : ∀ i, i < N → sameL (gs[i]?.getD noLV) (hs[i]?.getD noLV) := fun i hi => by
  obtain ⟨a1, a2, a3, a4, a5, a6, _⟩ := h1 i (by omega)
  obtain ⟨b1, b2, b3, b4, b5, b6, _⟩ := h2 i (by omega)
  refine ⟨by rw [a1, b1], by rw [a2, b2], by rw [a3, b3], ?_⟩
  rw [a4, a5, a6, b4, b5, b6]
  exact eqF_refl _ _ _
theorem copiesL_map {α : Type} (P : LV → α) (hP : ∀ f g : LV, f.kind = g.kind → f.pot = g.pot → f.skip = g.skip → f.f.C = g.f.C → f.f.D = g.f.D → f.f.K = g.f.K → f.f.n = g.f.n → f.f.m = g.f.m → P f = P g) {fs gs : List LV} (hl : gs.length = fs.length) (h : copiesL fs gs) : gs.map P = fs.map P := by
  apply List.ext_getElem?
  intro i
  by_cases hi : i < gs.length
  · obtain ⟨a1, a2, a3, a4, a5, a6, a7, a8⟩ := h i hi
    have := hP _ _ a1 a2 a3 a4 a5 a6 a7 a8
    rw [List.getElem?_eq_getElem hi, List.getElem?_eq_getElem (by omega)] at this
    simp only [Option.getD_some] at this
    rw [List.getElem?_map, List.getElem?_map, List.getElem?_eq_getElem hi, List.getElem?_eq_getElem (by omega)]
    simp [this]
  · rw [List.getElem?_eq_none (by simp; omega), List.getElem?_eq_none (by simp; omega)]
theorem copiesL_act {fs gs : List LV} {N : Nat} (hl : gs.length = fs.length) (h : copiesL fs gs) : actB N gs = actB N fs := by
  have h1 := copiesL_map LV.ok (fun f g a1 a2 a3 a4 a5 a6 a7 a8 => by simp only [LV.ok, a1, a2, a3, a4, a5, a6, a7, a8]) hl h
  have h2 := copiesL_map LV.tst (fun f g a1 a2 a3 a4 a5 a6 a7 a8 => by simp only [LV.tst, a1]) hl h
  have e1 : ∀ xs : List LV, xs.all LV.ok = (xs.map LV.ok).all id := fun xs => by simp [List.all_map]
  have e2 : ∀ xs : List LV, tests xs = (xs.map LV.tst).countP id := fun xs => by simp [tests, List.countP_map]
  rw [actB, actB, e1, e1, e2, e2, h1, h2]

def L2V.ok (s : L2V) : Bool := actB s.n s.x
/-- Whether acts are ok. -/
def catB (N : Nat) (ss : List L2V) : Bool := inB N 1 4 && ss.all L2V.ok
theorem allC_take_succ {ls : List L2V} {k : Nat} (h : k < ls.length) (h1 : (ls.take k).all L2V.ok = true) (h2 : (ls[k]?.getD noL).ok = true) : (ls.take (k + 1)).all L2V.ok = true := by
  rw [List.take_succ_eq_append_getElem h, List.all_append, h1]
  rw [List.getElem?_eq_getElem h] at h2
  simpa using h2
theorem allC_no {ls : List L2V} {k : Nat} (h : k < ls.length) (h2 : (ls[k]?.getD noL).ok = false) : ls.all L2V.ok = false := by
  rw [List.all_eq_false]
  rw [List.getElem?_eq_getElem h] at h2
  exact ⟨ls[k], List.getElem_mem h, by simpa using h2⟩

set_option maxHeartbeats 1600000 in
theorem scat_any (ad : Option Addr) (N cap : Nat) (ss : List L2V) (w : World) (hN : ss.length = N) (hF : LSG w ad ss) (hN1 : N ≤ 1048576) :
    Calls Try.prog 24 #[.slice ad N cap] w fun e w' => e = .returned (.bool (catB N ss)) ∧ Below w.heap.size w w' := by
  have HN : Hid (ss.length = N) := hN
  clear hN
  cases hib : inB N 1 4
  · go_enter Try.func24, Try.ntmps24
    go_wp2_with fail
    refine (in_any _ _ _ _).mono ?_
    rintro e w1 ⟨rfl, rfl⟩
    rw [hib]
    go_wp2
    go_ret
    exact ⟨ret_bool (by rw [catB, hib]; rfl), Below.refl _ _⟩
  go_enter Try.func24, Try.ntmps24
  go_wp2_with fail
  refine (in_any _ _ _ _).mono ?_
  rintro e w1 ⟨rfl, hw1⟩
  rw [hib, hw1]
  clear hw1
  go_wp2_with fail
  have HCB : Hid (catB N ss = ss.all L2V.ok) := by show catB N ss = _; rw [catB, hib]; rfl
  go_loopw [3] (fun  i wr => ∃ k : Nat, k ≤ N ∧ i = .int .i64 k ∧ Below w.heap.size w wr ∧ (ss.take k).all L2V.ok = true) (fun i _ => N - (intOf i).toNat)
  case atStart => exact ⟨0, Nat.zero_le _, rfl, Below.refl _ _, by simp⟩
  case round =>
    obtain ⟨k, hk, rfl, hb, hall⟩ := hrel
    have HA : Hid ((ss.take k).all L2V.ok = true) := hall
    clear hall
    by_cases hlt : k < N
    · obtain ⟨b, off, rfl, hc, hr⟩ := (hF.below hb) k (by rw [HN.out]; exact hlt)
      generalize HG : ss[k]?.getD noL = g at *
      have HG' : Hid (ss[k]?.getD noL = g) := HG
      clear HG hF
      obtain ⟨ga, gn, gcap, gx⟩ := g
      have hc' : wr.cell? ⟨b, off + k, none⟩ = some (.slice ga gn gcap) := hc
      clear hc
      cases hf : actB gn gx
      · go_wp2_with fail
        refine (sact_any _ _ _ gx _ hr.1 hr.2.1 hr.2.2).mono ?_
        rintro e w1 ⟨rfl, b1⟩
        rw [hf]
        go_wp2
        go_ret
        exact ⟨ret_bool (by rw [HCB.out, allC_no (k := k) (by rw [HN.out]; exact hlt) (by rw [HG'.out]; exact hf)]), hb.trans (b1.mono hb.size)⟩
      · go_wp2_with fail
        refine (sact_any _ _ _ gx _ hr.1 hr.2.1 hr.2.2).mono ?_
        rintro e w1 ⟨rfl, b1⟩
        rw [hf]
        go_wp2
        go_roundw
        case rel => exact ⟨k + 1, by omega, by go_num, hb.trans (b1.mono hb.size), allC_take_succ (by rw [HN.out]; exact hlt) HA.out (by rw [HG'.out]; exact hf)⟩
        case measure => simp [intOf]; omega
    · go_wp2
      go_ret
      exact ⟨ret_bool (by rw [HCB.out]; have := HA.out; rw [List.take_of_length_le (by rw [HN.out]; omega)] at this; exact this.symm), hb⟩

set_option maxHeartbeats 1600000 in
theorem icat_any (ad : Option Addr) (N cap : Nat) (ss : List L2V) (w : World) (hN : ss.length = N) (hF : LSG w ad ss) (hN1 : N ≤ 1048576) :
    Calls Try.prog 25 #[.slice ad N cap] w fun e w' => e = .returned (.bool (catB N ss)) ∧ Below w.heap.size w w' := by
  have HN : Hid (ss.length = N) := hN
  clear hN
  by_cases h1 : N < 1
  · have hib : inB N 1 4 = false := inB_not.2 (by omega)
    go_enter Try.func25, Try.ntmps25
    go_wp2
    go_ret
    exact ⟨ret_bool (by rw [catB, hib]; rfl), Below.refl _ _⟩
  by_cases h4 : 4 < N
  · have hib : inB N 1 4 = false := inB_not.2 (by omega)
    go_enter Try.func25, Try.ntmps25
    go_wp2
    go_ret
    exact ⟨ret_bool (by rw [catB, hib]; rfl), Below.refl _ _⟩
  have hib : inB N 1 4 = true := inB_iff.2 (by omega)
  go_enter Try.func25, Try.ntmps25
  go_wp2_with fail
  have HCB : Hid (catB N ss = ss.all L2V.ok) := by show catB N ss = _; rw [catB, hib]; rfl
  go_loopw [4, 15] (fun _ i wr => ∃ k : Nat, k ≤ N ∧ i = .int .i64 k ∧ Below w.heap.size w wr ∧ (ss.take k).all L2V.ok = true) (fun _ i _ => N - (intOf i).toNat)
  case atStart => exact ⟨0, Nat.zero_le _, rfl, Below.refl _ _, by simp⟩
  case round =>
    obtain ⟨k, hk, rfl, hb, hall⟩ := hrel
    have HA : Hid ((ss.take k).all L2V.ok = true) := hall
    clear hall
    by_cases hlt : k < N
    · obtain ⟨b, off, rfl, hc, hr⟩ := (hF.below hb) k (by rw [HN.out]; exact hlt)
      generalize HG : ss[k]?.getD noL = g at *
      have HG' : Hid (ss[k]?.getD noL = g) := HG
      clear HG hF
      obtain ⟨ga, gn, gcap, gx⟩ := g
      have hc' : wr.cell? ⟨b, off + k, none⟩ = some (.slice ga gn gcap) := hc
      clear hc
      cases hf : actB gn gx
      · go_wp2_with fail
        refine (iact_any _ _ _ gx _ hr.1 hr.2.1 hr.2.2).mono ?_
        rintro e w1 ⟨rfl, b1⟩
        rw [hf]
        go_wp2
        go_ret
        exact ⟨ret_bool (by rw [HCB.out, allC_no (k := k) (by rw [HN.out]; exact hlt) (by rw [HG'.out]; exact hf)]), hb.trans (b1.mono hb.size)⟩
      · go_wp2_with fail
        refine (iact_any _ _ _ gx _ hr.1 hr.2.1 hr.2.2).mono ?_
        rintro e w1 ⟨rfl, b1⟩
        rw [hf]
        go_wp2
        go_roundw
        case rel => exact ⟨k + 1, by omega, by go_num, hb.trans (b1.mono hb.size), allC_take_succ (by rw [HN.out]; exact hlt) HA.out (by rw [HG'.out]; exact hf)⟩
        case measure => simp [intOf]; omega
    · go_wp2
      go_ret
      exact ⟨ret_bool (by rw [HCB.out]; have := HA.out; rw [List.take_of_length_le (by rw [HN.out]; omega)] at this; exact this.symm), hb⟩

end Go.Proofs.Ytemcinobgdphnaa
namespace Go.Proofs.Ytemcinobgdphnaa
open Go.RowKit Go.Deep
set_option linter.unusedVariables false
set_option maxRecDepth 100000

/-- A part is put behind the others, if it is not there, and not 0. -/
def addPb (ps : List (List Int)) (p : List Int) : List (List Int) := if p ∈ ps ∨ p = [0, 0, 0] then ps else ps ++ [p]
def guardsP (ps : List (List Int)) (fs : List Frm) : List (List Int) := fs.foldl (fun ps f => addPb ps (partL f.1)) ps
def rowsP (ps : List (List Int)) (rs : List RowM) : List (List Int) := rs.foldl (fun ps r => guardsP ps r.guards) ps
def actsP (ps : List (List Int)) (ss : List L2V) : List (List Int) := ss.foldl (fun ps s => rowsP ps (rowsL s.x)) ps
def pots3 : List (List Int) := [[1, 0, 0], [0, 1, 0], [0, 0, 1]]
/-- The parts of acts. -/
def catP (ss : List L2V) : List (List Int) := actsP pots3 ss
/-- Some act tells of a pot, or adds by it. -/
def pinsA (ss : List L2V) (v : Nat) : Bool := ss.any fun s => readsR (rowsL s.x) v
theorem foldl_take {α β : Type} (f : β → α → β) (b : β) (xs : List α) (k : Nat) (d : α) (h : k < xs.length) : (xs.take (k + 1)).foldl f b = f ((xs.take k).foldl f b) (xs[k]?.getD d) := by
  rw [List.take_succ_eq_append_getElem h, List.foldl_append, List.getElem?_eq_getElem h]; rfl
theorem guardsP_snoc (ps : List (List Int)) (fs : List Frm) (k : Nat) (h : k < fs.length) : guardsP ps (fs.take (k + 1)) = addPb (guardsP ps (fs.take k)) (partL (fs[k]?.getD ([], [], 0)).1) := foldl_take _ _ _ _ _ h
theorem rowsP_snoc (ps : List (List Int)) (rs : List RowM) (k : Nat) (h : k < rs.length) : rowsP ps (rs.take (k + 1)) = guardsP (rowsP ps (rs.take k)) (rs[k]?.getD noR).guards := foldl_take _ _ _ _ _ h
theorem actsP_snoc (ps : List (List Int)) (ss : List L2V) (k : Nat) (h : k < ss.length) : actsP ps (ss.take (k + 1)) = rowsP (actsP ps (ss.take k)) (rowsL (ss[k]?.getD noL).x) := foldl_take _ _ _ _ _ h
theorem pinsA_snoc (ss : List L2V) (k : Nat) (h : k < ss.length) (v : Nat) : pinsA (ss.take (k + 1)) v = (pinsA (ss.take k) v || readsR (rowsL (ss[k]?.getD noL).x) v) := by
  rw [pinsA, List.take_succ_eq_append_getElem h, List.any_append, List.getElem?_eq_getElem h]
  simp [pinsA]
theorem has_mem (p : List Int) : ∀ (ps : List (List Int)) (k : Nat), (hasFrom p k ps < 0 ↔ p ∉ ps)
  | [], k => by simp [hasFrom]
  | q :: ps, k => by
    rw [hasFrom]
    by_cases e : q = p
    · subst e; simp [eqB]
    · have h1 : eqB q p = false := by simp [eqB, e]
      rw [h1]
      have := has_mem p ps (k + 1)
      simp only [Bool.false_eq_true, if_false, this, List.mem_cons, not_or]
      exact ⟨fun h => ⟨fun h2 => e h2.symm, h⟩, fun h => h.2⟩
theorem addP_has {ps : List (List Int)} {p : List Int} (h : ¬ hasFrom p 0 ps < 0) : addPb ps p = ps := by
  rw [has_mem] at h
  rw [addPb, if_pos (.inl (Classical.not_not.1 h))]
theorem addP_zero {ps : List (List Int)} {p : List Int} (h : p = [0, 0, 0]) : addPb ps p = ps := by rw [addPb, if_pos (.inr h)]
theorem addP_new {ps : List (List Int)} {p : List Int} (h : hasFrom p 0 ps < 0) (h2 : p ≠ [0, 0, 0]) : addPb ps p = ps ++ [p] := by
  rw [has_mem] at h
  rw [addPb, if_neg (by rintro (h' | h'); exact h h'; exact h2 h')]

theorem Ints.blkB {w : World} {b off n : Nat} {zs : List Int} (h : Ints w (some ⟨b, off, none⟩) n zs) (hn : 0 < n) : b < w.heap.size := by
  obtain ⟨b', o', e, hc⟩ := h.2 0 hn
  simp only [Option.some.injEq, Addr.mk.injEq, and_true] at e
  obtain ⟨rfl, rfl⟩ := e
  exact block_lt hc
/-- A slice of parts, in memory made since w: no part lies in its block. -/
structure JP (w : World) (G cap : Nat) (ts : List IV) (W : World) : Prop where
  b : Below w.heap.size w W
  o : W.ownsRow w.heap.size 26 1 (.slice (some ⟨G, 0, none⟩) ts.length cap) ts.length (ts.map IV.v)
  k : ∀ j, j < ts.length → (ts[j]?.getD noI).n = 3 ∧ Ints W (ts[j]?.getD noI).a 3 (ts[j]?.getD noI).x ∧ ∀ b o, (ts[j]?.getD noI).a = some ⟨b, o, none⟩ → b ≠ G
theorem JP.nil (w W : World) (hb : Below w.heap.size w W) : JP w W.heap.size 0 [] (W.alloc (.cells #[] 26)) :=
  ⟨hb.alloc hb.size _, World.ownsRow_lit W #[] 0 hb.size (by unfold maxLen; omega) rfl, fun j hj => by simp at hj⟩
theorem JP.below {w W W' : World} {G cap : Nat} {ts : List IV} (j : JP w G cap ts W) (h : Below W.heap.size W W') : JP w G cap ts W' :=
  ⟨j.b.trans (h.mono j.b.size), own_below j.o h, fun i hi => by obtain ⟨a, b, c⟩ := j.k i hi; exact ⟨a, b.below h, c⟩⟩
theorem JP.lt {w W : World} {G cap : Nat} {ts : List IV} (j : JP w G cap ts W) : w.heap.size ≤ G ∧ G < W.heap.size := by
  rcases j.o.2 with ⟨h, _⟩ | ⟨g, cap', cur, h, hg, hh, _⟩
  · cases h
  · simp only [Value.slice.injEq, Option.some.injEq, Addr.mk.injEq, and_true, true_and] at h
    obtain ⟨rfl, _⟩ := h
    exact ⟨hg, lt_of_block hh⟩
theorem JP.g {w W : World} {G cap : Nat} {ts : List IV} (j : JP w G cap ts W) : ISG W (some ⟨G, 0, none⟩) ts := fun i hi => by
  obtain ⟨h1, h2, h3⟩ := j.k i hi
  refine ⟨G, 0, rfl, ?_, ?_, by omega⟩
  · rw [Nat.zero_add, own_cell j.o i (by omega), List.getElem?_map, List.getElem?_eq_getElem hi]; rfl
  · rw [h1]; exact h2
theorem JP.app {w W W' : World} {G cap g cp k : Nat} {ts : List IV} {s : IV} {o : Obj} (j : JP w G cap ts W) (hk : ts.length = k) (hs : s.n = 3) (hI : Ints W s.a 3 s.x) (hb : ∀ b o, s.a = some ⟨b, o, none⟩ → b ≠ G)
    (hown : W'.ownsRow w.heap.size 26 1 (.slice (some ⟨g, 0, none⟩) (k + 1) cp) (k + 1) (ts.map IV.v ++ [s.v])) (hg : (W.alloc o).grownBy W' (some G)) (hat : g = G ∨ W.heap.size ≤ g) : JP w g cp (ts ++ [s]) W' := by
  subst hk
  have A : Below W.heap.size W (W.alloc o) := (Below.refl _ _).alloc (Nat.le_refl _) _
  have ja := j.below A
  have T : Touch (fun y => y = G) (W.alloc o) W' := ⟨hg.os, hg.tape, hg.output, hg.size, fun z hz hn => hg.block z hz (fun e => hn (by simpa using e))⟩
  have key : ∀ (a : Option Addr) (x : List Int), Ints W a 3 x → (∀ b o, a = some ⟨b, o, none⟩ → b ≠ G) → Ints W' a 3 x ∧ ∀ b o, a = some ⟨b, o, none⟩ → b ≠ g := fun a x h1 h2 => by
    refine ⟨(h1.below A).offC (fun b o e => h2 b o e) T, fun b o e => ?_⟩
    have h3 := h2 b o e
    subst e
    have := h1.blkB (by omega)
    omega
  refine ⟨ja.b.grown hg ja.b.size (fun z hz => ?_), ?_, fun i hi => ?_⟩
  · have := j.lt
    simp only [Option.some.injEq] at hz
    omega
  · rw [List.length_append, List.map_append]; exact hown
  · by_cases h : i < ts.length
    · rw [List.getElem?_append_left h]
      obtain ⟨a, b, c⟩ := j.k i h
      exact ⟨a, key _ _ b c⟩
    · rw [List.length_append, List.length_singleton] at hi
      obtain rfl : i = ts.length := by omega
      rw [List.getElem?_append_right (Nat.le_refl _), Nat.sub_self]
      exact ⟨hs, key _ _ hI hb⟩

end Go.Proofs.Ytemcinobgdphnaa
namespace Go.Proofs.Ytemcinobgdphnaa
open Go.RowKit Go.Deep
set_option linter.unusedVariables false
set_option maxRecDepth 100000

def GoodP (ps : List (List Int)) : Prop := ps.Nodup ∧ [0, 0, 0] ∉ ps
theorem addPb_pre (ps : List (List Int)) (p : List Int) : ps <+: addPb ps p := by
  unfold addPb
  split
  · exact List.prefix_refl _
  · exact List.prefix_append _ _
theorem addPb_good {ps : List (List Int)} (p : List Int) (h : GoodP ps) : GoodP (addPb ps p) := by
  unfold addPb
  split
  · exact h
  · rename_i hn
    have h1 : p ∉ ps := fun e => hn (.inl e)
    have h2 : p ≠ [0, 0, 0] := fun e => hn (.inr e)
    refine ⟨?_, fun e => ?_⟩
    · rw [List.nodup_append]
      refine ⟨h.1, by simp, fun a ha b hb e => ?_⟩
      rw [List.mem_singleton] at hb
      subst hb; subst e
      exact h1 ha
    · rcases List.mem_append.1 e with e | e
      · exact h.2 e
      · rw [List.mem_singleton] at e
        exact h2 e.symm
theorem addPb_has (ps : List (List Int)) (p : List Int) : p = [0, 0, 0] ∨ p ∈ addPb ps p := by
  unfold addPb
  split
  · rename_i h
    rcases h with h | h
    · exact .inr h
    · exact .inl h
  · exact .inr (by simp)
theorem foldl_pre {α : Type} {f : List (List Int) → α → List (List Int)} (hf : ∀ ps a, ps <+: f ps a) : ∀ (xs : List α) (ps : List (List Int)), ps <+: xs.foldl f ps
  | [], ps => List.prefix_refl _
  | x :: xs, ps => (hf ps x).trans (foldl_pre hf xs (f ps x))
theorem foldl_good {α : Type} {f : List (List Int) → α → List (List Int)} (hf : ∀ ps a, GoodP ps → GoodP (f ps a)) : ∀ (xs : List α) (ps : List (List Int)), GoodP ps → GoodP (xs.foldl f ps)
  | [], ps, h => h
  | x :: xs, ps, h => foldl_good hf xs (f ps x) (hf ps x h)
theorem foldl_has {α : Type} {f : List (List Int) → α → List (List Int)} (hf : ∀ ps a, ps <+: f ps a) {p : List Int} {a : α} (h : ∀ ps, p = [0, 0, 0] ∨ p ∈ f ps a) : ∀ (xs : List α), a ∈ xs → ∀ ps, p = [0, 0, 0] ∨ p ∈ xs.foldl f ps
  | [], ha, ps => by simp at ha
  | x :: xs, ha, ps => by
    rcases List.mem_cons.1 ha with e | e
    · subst e
      rcases h ps with h1 | h1
      · exact .inl h1
      · exact .inr ((foldl_pre hf xs _).subset h1)
    · exact foldl_has hf h xs e (f ps x)
theorem guardsP_pre (ps : List (List Int)) (fs : List Frm) : ps <+: guardsP ps fs := foldl_pre (fun ps f => addPb_pre ps _) fs ps
theorem rowsP_pre (ps : List (List Int)) (rs : List RowM) : ps <+: rowsP ps rs := foldl_pre (fun ps r => guardsP_pre ps _) rs ps
theorem actsP_pre (ps : List (List Int)) (ss : List L2V) : ps <+: actsP ps ss := foldl_pre (fun ps s => rowsP_pre ps _) ss ps
theorem guardsP_good {ps : List (List Int)} (fs : List Frm) (h : GoodP ps) : GoodP (guardsP ps fs) := foldl_good (fun ps f h => addPb_good _ h) fs ps h
theorem rowsP_good {ps : List (List Int)} (rs : List RowM) (h : GoodP ps) : GoodP (rowsP ps rs) := foldl_good (fun ps f h => guardsP_good _ h) rs ps h
theorem actsP_good {ps : List (List Int)} (ss : List L2V) (h : GoodP ps) : GoodP (actsP ps ss) := foldl_good (fun ps f h => rowsP_good _ h) ss ps h
theorem pots3_good : GoodP pots3 := by unfold GoodP pots3; decide
theorem catP_good (ss : List L2V) : GoodP (catP ss) := actsP_good ss pots3_good
theorem catP_pre (ss : List L2V) : pots3 <+: catP ss := actsP_pre pots3 ss
theorem catP_len (ss : List L2V) : 3 ≤ (catP ss).length := (catP_pre ss).length_le
theorem catP_guard {ss : List L2V} {s : L2V} {r : RowM} {f : Frm} (hs : s ∈ ss) (hr : r ∈ rowsL s.x) (hf : f ∈ r.guards) : partL f.1 = [0, 0, 0] ∨ partL f.1 ∈ catP ss :=
  foldl_has (f := fun ps (s : L2V) => rowsP ps (rowsL s.x)) (fun ps s => rowsP_pre ps _) (fun ps => foldl_has (f := fun ps (r : RowM) => guardsP ps r.guards) (fun ps r => guardsP_pre ps _) (fun ps => foldl_has (f := fun ps (f : Frm) => addPb ps (partL f.1)) (fun ps f => addPb_pre ps _) (fun ps => addPb_has ps _) _ hf ps) _ hr ps) ss hs pots3
theorem has_at : ∀ (ps : List (List Int)), ps.Nodup → ∀ (k i : Nat) (hi : i < ps.length), hasFrom (ps[i]?.getD []) k ps = ((k + i : Nat) : Int)
  | [], _, k, i, hi => by simp at hi
  | q :: ps, hn, k, i, hi => by
    rw [hasFrom]
    cases i with
    | zero => simp [eqB]
    | succ i =>
      have hi2 : i < ps.length := by simpa using hi
      have e : (q :: ps)[i + 1]?.getD [] = ps[i]?.getD [] := rfl
      rw [e]
      have hne : eqB q (ps[i]?.getD []) = false := by
        rw [List.getElem?_eq_getElem hi2]
        have h1 := (List.nodup_cons.1 hn).1
        simp only [eqB, Option.getD_some, decide_eq_false_iff_not]
        intro e2
        rw [e2] at h1
        exact h1 (List.getElem_mem _)
      rw [hne]
      simp only [Bool.false_eq_true, if_false]
      rw [has_at ps (List.nodup_cons.1 hn).2 (k + 1) i hi2]
      omega
theorem has_pos {p : List Int} {ps : List (List Int)} {k : Nat} (h : p ∈ ps) : ¬ hasFrom p k ps < 0 := fun e => ((has_mem p ps k).1 e) h
theorem pot_in {ss : List L2V} {p : List Int} (h : p ∈ pots3) : p ∈ catP ss := (catP_pre ss).subset h

end Go.Proofs.Ytemcinobgdphnaa
namespace Go.Proofs.Ytemcinobgdphnaa
open Go.RowKit
set_option linter.unusedVariables false
set_option maxRecDepth 100000

theorem addPb_same {ps : List (List Int)} {p : List Int} (h : p = [0, 0, 0] ∨ p ∈ ps) : addPb ps p = ps := by
  unfold addPb
  rw [if_pos (h.elim Or.inr Or.inl)]
theorem foldl_same {α β : Type} {f : β → α → β} : ∀ (xs : List α) (b : β), (∀ a ∈ xs, f b a = b) → xs.foldl f b = b
  | [], b, _ => rfl
  | a :: xs, b, h => by
    rw [List.foldl_cons, h a (by simp)]
    exact foldl_same xs b (fun c hc => h c (by simp [hc]))
theorem rowsP_same {ps : List (List Int)} {rs : List RowM} (h : ∀ r ∈ rs, ∀ f ∈ r.guards, partL f.1 = [0, 0, 0] ∨ partL f.1 ∈ ps) : rowsP ps rs = ps :=
  foldl_same rs ps fun r hr => foldl_same r.guards ps fun f hf => addPb_same (h r hr f hf)
theorem catP_snoc (ss : List L2V) (a : L2V) : catP (ss ++ [a]) = rowsP (catP ss) (rowsL a.x) := by
  unfold catP actsP
  rw [List.foldl_append]
  rfl
/-- What more acts have is more. -/
theorem catP_more (ss : List L2V) (a : L2V) : catP ss <+: catP (ss ++ [a]) := by
  rw [catP_snoc]; exact rowsP_pre _ _
theorem catP_take (ss : List L2V) (a : L2V) : (catP (ss ++ [a])).take (catP ss).length = catP ss := by
  obtain ⟨t, ht⟩ := catP_more ss a
  rw [← ht, List.take_left]
/-- An act that is there already adds nothing. -/
theorem catP_twice {ss : List L2V} {a : L2V} (h : a ∈ ss) : catP (ss ++ [a]) = catP ss := by
  rw [catP_snoc]
  exact rowsP_same fun r hr f hf => catP_guard h hr hf
theorem pinsA_more (ss : List L2V) (a : L2V) (v : Nat) : pinsA (ss ++ [a]) v = (pinsA ss v || readsR (rowsL a.x) v) := by
  unfold pinsA
  rw [List.any_append]
  simp
theorem pinsA_twice {ss : List L2V} {a : L2V} (h : a ∈ ss) : pinsA (ss ++ [a]) = pinsA ss := by
  funext v
  rw [pinsA_more]
  cases hr : readsR (rowsL a.x) v
  · simp
  · have : pinsA ss v = true := List.any_eq_true.2 ⟨a, h, hr⟩
    rw [this]; rfl
theorem catB_more {N : Nat} {ss : List L2V} {a : L2V} (h : catB N ss = true) (hN : N < 4) (ha : a.ok = true) : catB (N + 1) (ss ++ [a]) = true := by
  unfold catB at *
  simp only [Bool.and_eq_true] at *
  have h1 := inB_iff.1 h.1
  refine ⟨inB_iff.2 ⟨by omega, by omega⟩, ?_⟩
  rw [List.all_append, h.2]
  simp [ha]
end Go.Proofs.Ytemcinobgdphnaa
namespace Go.Proofs.Ytemcinobgdphnaa
open Go.RowKit
set_option linter.unusedVariables false

theorem i64_xor_nat (a b : Nat) (ha : a < 4294967296) (hb : b < 4294967296) : bits .xor .i64 (a : Int) (b : Int) = ((a ^^^ b : Nat) : Int) := by
  have hx : a ^^^ b < 2 ^ 32 := Nat.xor_lt_two_pow (by omega) (by omega)
  show IntKind.i64.wrap ((BitVec.ofInt 64 (a : Int) ^^^ BitVec.ofInt 64 (b : Int)).toNat : Int) = _
  rw [BitVec.toNat_xor, ofInt_u64 a (by omega), ofInt_u64 b (by omega), IntKind.wrap_i64]
  omega
theorem i64_xor_bnd (x y : Int) (h1 : 0 ≤ x) (h2 : x < 4294967296) (h3 : 0 ≤ y) (h4 : y < 4294967296) : 0 ≤ bits .xor .i64 x y ∧ bits .xor .i64 x y < 4294967296 := by
  obtain ⟨A, rfl⟩ := Int.eq_ofNat_of_zero_le h1
  obtain ⟨B, rfl⟩ := Int.eq_ofNat_of_zero_le h3
  have hx : A ^^^ B < 2 ^ 32 := Nat.xor_lt_two_pow (by omega) (by omega)
  rw [i64_xor_nat A B (by omega) (by omega)]
  omega

/-- A slice's first n cells hold these bytes. -/
def BInts (w : World) (a : Option Addr) (n : Nat) (bs : List Int) : Prop :=
  bs.length = n ∧ (∀ i, i < n → ∃ b off, a = some ⟨b, off, none⟩ ∧ w.cell? ⟨b, off + i, none⟩ = some (.int .u8 (bs.getD i 0))) ∧ ∀ i : Nat, 0 ≤ bs[i]?.getD 0 ∧ bs[i]?.getD 0 ≤ 255
theorem BInts.pos {w : World} {a : Option Addr} {n : Nat} {zs : List Int} (h : BInts w a n zs) (hn : 0 < n) :
    ∃ b off, a = some ⟨b, off, none⟩ ∧ ∀ i, i < n → w.cell? ⟨b, off + i, none⟩ = some (.int .u8 (zs.getD i 0)) := by
  obtain ⟨b, off, hab, _⟩ := h.2.1 0 hn
  refine ⟨b, off, hab, fun i hi => ?_⟩
  obtain ⟨b', off', hab', hc⟩ := h.2.1 i hi
  rw [hab] at hab'
  simp only [Option.some.injEq, Addr.mk.injEq, and_true] at hab'
  obtain ⟨rfl, rfl⟩ := hab'
  exact hc
theorem BInts.below {w w' : World} {a : Option Addr} {n : Nat} {zs : List Int} (h : BInts w a n zs) (hb : Below w.heap.size w w') : BInts w' a n zs := by
  refine ⟨h.1, fun i hi => ?_, h.2.2⟩
  obtain ⟨b, off, hab, hc⟩ := h.2.1 i hi
  exact ⟨b, off, hab, by rw [hb.cell (p := ⟨b, off + i, none⟩) (block_lt hc)]; exact hc⟩
theorem BInts.take {w : World} {a : Option Addr} {n : Nat} {zs : List Int} (h : BInts w a n zs) (k : Nat) (hk : k ≤ n) : BInts w a k (zs.take k) := by
  refine ⟨by rw [List.length_take, h.1]; omega, fun i hi => ?_, fun i => ?_⟩
  · obtain ⟨b, off, hab, hc⟩ := h.2.1 i (by omega)
    exact ⟨b, off, hab, by rw [hc]; simp [hi]⟩
  · have := h.2.2 i
    by_cases hi : i < k
    · rw [List.getElem?_take_of_lt hi]; exact this
    · rw [List.getElem?_eq_none (by rw [List.length_take]; omega)]; simp

/-- The reader in its block, beside the bytes. -/
structure Rd (w : World) (R : Nat) (a : Option Addr) (n cap : Nat) (bs : List Int) (p : Int) : Prop where
  c : Cel w R [.slice a n cap, .int .i64 p] 88
  b : BInts w a n bs
  hn : n ≤ 2000
  ne : 0 < n → ∀ b o, a = some ⟨b, o, none⟩ → b ≠ R

theorem Rd.below {w w' : World} {R : Nat} {a : Option Addr} {n cap : Nat} {bs : List Int} {p : Int} (h : Rd w R a n cap bs p) (b : Below w.heap.size w w') : Rd w' R a n cap bs p := ⟨h.c.below b, h.b.below b, h.hn, h.ne⟩

set_option maxHeartbeats 1600000 in
theorem pick_any (R : Nat) (a : Option Addr) (n cap : Nat) (bs : List Int) (p k : Int) (w : World) (hR : Rd w R a n cap bs p) (hp : 0 ≤ p) (hp1 : p ≤ 10000000) (hk : 1 ≤ k) (hk1 : k ≤ 1000) :
    Calls Try.prog 59 #[.pointer (some ⟨R, 0, none⟩), .int .i64 k] w fun e w' => ∃ r, 0 ≤ r ∧ r < k ∧ e = .returned (.int .i64 r) ∧ Touch (fun x => x = R) w w' ∧ Rd w' R a n cap bs (p + 1) := by
  obtain ⟨hc, hB, hn, hne⟩ := hR
  have c0 := hc.cell 0
  have c1 := hc.cell 1
  have c2 := hc.free 1
  simp only [List.getElem?_cons_zero, List.getElem?_cons_succ] at c0 c1
  have T1 : Touch (fun x => x = R) w (w.setCell ⟨R, 1, none⟩ (.int .i64 (p + 1))) := Touch.setCell (S := fun x => x = R) (Touch.refl _ w) (B := R) rfl _
  have R1 : Rd (w.setCell ⟨R, 1, none⟩ (.int .i64 (p + 1))) R a n cap bs (p + 1) := by
    refine ⟨hc.set 1 _, ⟨hB.1, fun i hi => ?_, hB.2.2⟩, hn, hne⟩
    obtain ⟨b, off, hab, hcc⟩ := hB.2.1 i hi
    exact ⟨b, off, hab, (World.cell?_of_block (Below.heap_setCell w ⟨R, 1, none⟩ _ b (hne (by omega) b off hab))).trans hcc⟩
  clear hc
  by_cases h0 : n = 0
  · subst h0
    go_enter Try.func59, Try.ntmps59
    go_wp2
    go_ret
    exact ⟨0, by omega, by omega, rfl, T1, R1⟩
  · obtain ⟨b, off, rfl, hcell⟩ := hB.pos (by omega)
    have hbR : ¬ b = R := hne (by omega) b off rfl
    have hbR' : ¬ R = b := fun h => hbR h.symm
    obtain ⟨q, rfl⟩ := Int.eq_ofNat_of_zero_le hp
    have hn0 : ((n : Int) == 0) = false := by simp; omega
    by_cases hq : q < n
    · have hq' : (q : Int) < (n : Int) := by omega
      have hx := hcell q hq
      obtain ⟨x1, x2⟩ := hB.2.2 q
      clear hcell hB
      go_enter Try.func59, Try.ntmps59
      go_wp2
      go_ret
      exact ⟨_, Int.emod_nonneg _ (by omega), Int.emod_lt_of_pos _ (by omega), rfl, T1, R1⟩
    · have hq' : ¬ (q : Int) < (n : Int) := by omega
      have hnz : ¬ (n : Int) = 0 := by omega
      have hkz : ¬ k = 0 := by omega
      obtain ⟨i, hi⟩ : ∃ i : Nat, (q : Int) % (n : Int) = i := ⟨((q : Int) % (n : Int)).toNat, by have := Int.emod_nonneg (q : Int) hnz; omega⟩
      obtain ⟨j, hj⟩ : ∃ j : Nat, ((q : Int) * 7 + 3) % (n : Int) = j := ⟨(((q : Int) * 7 + 3) % (n : Int)).toNat, by have := Int.emod_nonneg ((q : Int) * 7 + 3) hnz; omega⟩
      have hi1 : (i : Int) < n := by rw [← hi]; exact Int.emod_lt_of_pos _ (by omega)
      have hj1 : (j : Int) < n := by rw [← hj]; exact Int.emod_lt_of_pos _ (by omega)
      have hx := hcell i (by omega)
      have hy := hcell j (by omega)
      obtain ⟨x1, x2⟩ := hB.2.2 i
      obtain ⟨x3, x4⟩ := hB.2.2 j
      have d1 : 0 ≤ (q : Int) / (n : Int) := Int.ediv_nonneg (by omega) (by omega)
      have d2 : (q : Int) / (n : Int) ≤ q := Int.ediv_le_self _ (by omega)
      clear hcell hB
      go_enter Try.func59, Try.ntmps59
      go_wp2_with fail
      go_quiet (fail)
      go_wp2
      go_ret
      have X1 : 0 ≤ bs[i]?.getD 0 * 131 + bs[j]?.getD 0 * 1117 + (q : Int) * 29 + (q : Int) / (n : Int) * 53 := by omega
      have X2 : bs[i]?.getD 0 * 131 + bs[j]?.getD 0 * 1117 + (q : Int) * 29 + (q : Int) / (n : Int) * 53 < 4294967296 := by omega
      have X3 := i64_xor_bnd _ ((bs[i]?.getD 0 * 131 + bs[j]?.getD 0 * 1117 + (q : Int) * 29 + (q : Int) / (n : Int) * 53) / 64) X1 (by omega) (by omega) (by omega)
      have bd := below_drewN (Below.refl (w.setCell ⟨R, 1, none⟩ (.int .i64 ((q : Int) + 1))).heap.size (w.setCell ⟨R, 1, none⟩ (.int .i64 ((q : Int) + 1))))
      exact ⟨_, Int.tmod_nonneg _ X3.1, Int.tmod_lt_of_pos _ (by omega), rfl, T1.trans (Touch.of (bd _)), R1.below (bd _)⟩

theorem Rd.touch {S : Nat → Prop} {w w' : World} {R : Nat} {a : Option Addr} {n cap : Nat} {bs : List Int} {p : Int} (h : Rd w R a n cap bs p) (t : Touch S w w') (hR : ¬ S R) (hS : 0 < n → ∀ b o, a = some ⟨b, o, none⟩ → ¬ S b) : Rd w' R a n cap bs p := by
  refine ⟨h.c.touch t hR, ⟨h.b.1, fun i hi => ?_, h.b.2.2⟩, h.hn, h.ne⟩
  obtain ⟨b, off, hab, hcc⟩ := h.b.2.1 i hi
  exact ⟨b, off, hab, (World.cell?_of_block (t.block b (block_lt hcc) (hS (by omega) b off hab))).trans hcc⟩

set_option maxHeartbeats 400000 in
theorem open_any (a : Option Addr) (n cap : Nat) (bs : List Int) (w : World) (h : BInts w a n bs) (hn : n ≤ cap) (hn1 : n ≤ 1048576) (hc : cap ≤ maxLen) :
    Calls Try.prog 28 #[.slice a n cap] w fun e w' => ∃ R n' cap2 bs', e = .returned (.pointer (some ⟨R, 0, none⟩)) ∧ Below w.heap.size w w' ∧ w.heap.size ≤ R ∧ Rd w' R a n' cap2 bs' 0 := by
  have key : ∀ k, k ≤ n → k ≤ 2000 → ∀ cap2 : Nat, Rd (w.alloc (.cells #[.slice a k cap2, .int .i64 0] 88)) w.heap.size a k cap2 (bs.take k) 0 := by
    intro k hk hk2 cap2
    refine ⟨Cel.new w _ _, (h.take k hk).below ((Below.refl _ _).alloc (Nat.le_refl _) _), hk2, fun h0 b o hab => ?_⟩
    obtain ⟨b', o', hab', hcc⟩ := h.2.1 0 (by omega)
    rw [hab] at hab'
    simp only [Option.some.injEq, Addr.mk.injEq, and_true] at hab'
    have := block_lt hcc
    omega
  unfold maxLen at hc
  by_cases h2 : n ≤ 2000
  · go_enter Try.func28, Try.ntmps28
    go_wp2
    go_ret
    exact ⟨_, n, cap, _, rfl, (Below.refl _ _).alloc (Nat.le_refl _) _, Nat.le_refl _, key n (Nat.le_refl _) h2 cap⟩
  · obtain ⟨b, off, rfl, hcell⟩ := h.pos (by omega)
    go_enter Try.func28, Try.ntmps28
    go_wp2
    go_ret
    exact ⟨_, 2000, cap, _, rfl, (Below.refl _ _).alloc (Nat.le_refl _) _, Nat.le_refl _, key 2000 (by omega) (by omega) cap⟩

end Go.Proofs.Ytemcinobgdphnaa
namespace Go.Proofs.Ytemcinobgdphnaa
open Go.RowKit
set_option linter.unusedVariables false
set_option maxRecDepth 100000

/-- A form of the common lengths, in two blocks of its own. -/
structure F32 (w : World) (lo B1 B2 : Nat) (C D : List Int) : Prop where
  k1 : Blk w B1 C
  k2 : Blk w B2 D
  l1 : C.length = 3
  l2 : D.length = 2
  b1 : lo ≤ B1
  b2 : lo ≤ B2
  ne : B1 ≠ B2
theorem F32.below {w w' : World} {lo B1 B2 : Nat} {C D : List Int} (h : F32 w lo B1 B2 C D) (b : Below w.heap.size w w') : F32 w' lo B1 B2 C D := ⟨h.k1.below b, h.k2.below b, h.l1, h.l2, h.b1, h.b2, h.ne⟩
theorem F32.setOther {w : World} {lo B1 B2 X : Nat} {C D : List Int} (h : F32 w lo B1 B2 C D) (h1 : B1 ≠ X) (h2 : B2 ≠ X) (i : Nat) (v : Value) : F32 (w.setCell ⟨X, i, none⟩ v) lo B1 B2 C D := ⟨h.k1.setOther h1 _ _, h.k2.setOther h2 _ _, h.l1, h.l2, h.b1, h.b2, h.ne⟩
theorem F32.setD {w : World} {lo B1 B2 : Nat} {C D : List Int} (h : F32 w lo B1 B2 C D) (i : Nat) (x : Int) : F32 (w.setCell ⟨B2, i, none⟩ (.int .i64 x)) lo B1 B2 C (D.set i x) := ⟨h.k1.setOther h.ne _ _, h.k2.set i x, h.l1, by rw [List.length_set]; exact h.l2, h.b1, h.b2, h.ne⟩
theorem F32.setC {w : World} {lo B1 B2 : Nat} {C D : List Int} (h : F32 w lo B1 B2 C D) (i : Nat) (x : Int) : F32 (w.setCell ⟨B1, i, none⟩ (.int .i64 x)) lo B1 B2 (C.set i x) D := ⟨h.k1.set i x, h.k2.setOther (fun e => h.ne e.symm) _ _, by rw [List.length_set]; exact h.l1, h.l2, h.b1, h.b2, h.ne⟩
theorem F32.mono {w : World} {lo lo' B1 B2 : Nat} {C D : List Int} (h : F32 w lo B1 B2 C D) (hl : lo' ≤ lo) : F32 w lo' B1 B2 C D := ⟨h.k1, h.k2, h.l1, h.l2, Nat.le_trans hl h.b1, Nat.le_trans hl h.b2, h.ne⟩
theorem szero_f (w : World) : Calls Try.prog 79 #[] w fun e w' => ∃ B1 B2, e = .returned (formV (some ⟨B1, 0, none⟩) 3 3 (some ⟨B2, 0, none⟩) 2 2 0) ∧ Below w.heap.size w w' ∧ F32 w' w.heap.size B1 B2 [0, 0, 0] [0, 0] :=
  (szero_any w).mono fun e w' ⟨B1, B2, he, hb, h1, h2, h3, k1, k2⟩ => ⟨B1, B2, he, hb, k1, k2, rfl, rfl, h1, h3, h2⟩

set_option maxHeartbeats 1600000 in
theorem num_f (a b k : Int) (w : World) : Calls Try.prog 84 #[.int .i64 a, .int .i64 b, .int .i64 k] w fun e w' => ∃ B1 B2, e = .returned (formV (some ⟨B1, 0, none⟩) 3 3 (some ⟨B2, 0, none⟩) 2 2 k) ∧ Below w.heap.size w w' ∧ F32 w' w.heap.size B1 B2 [0, 0, 0] [a, b] := by
  have bx := Cel.new w [.slice none 0 0, .slice none 0 0, .int .i64 0] 34
  have B0 := (Below.refl w.heap.size w).alloc (Nat.le_refl _) (.cells #[.slice none 0 0, .slice none 0 0, .int .i64 0] 34)
  go_enter Try.func84, Try.ntmps84
  go_wp2_with fail
  refine (szero_f _).mono ?_
  rintro e w1 ⟨B1, B2, rfl, b1, f1⟩
  have al := (Below.refl w1.heap.size w1).alloc (Nat.le_refl _) (.cells #[.slice (some ⟨B1, 0, none⟩) 3 3, .slice (some ⟨B2, 0, none⟩) 2 2, .int .i64 0] 34)
  have b2 := b1.trans (al.mono b1.size)
  have bx2 := bx.below b2
  have BW := B0.trans (b2.mono B0.size)
  have f2 := f1.below al
  have cb := Cel.new w1 [.slice (some ⟨B1, 0, none⟩) 3 3, .slice (some ⟨B2, 0, none⟩) 2 2, .int .i64 0] 34
  have z1 := f1.b1
  have z2 := f1.b2
  rw [World.size_alloc] at z1 z2
  have lt1 := f1.k1.lt
  have lt2 := f1.k2.lt
  obtain ⟨W1, hW1⟩ : ∃ W, W = w1.alloc (.cells #[.slice (some ⟨B1, 0, none⟩) 3 3, .slice (some ⟨B2, 0, none⟩) 2 2, .int .i64 0] 34) := ⟨_, rfl⟩
  have hbw := bx.lt
  have hlw : w.heap.size < w1.heap.size := (bx.below b1).lt
  go_upto_region 2 with fail
  rw [← hW1] at bx2 BW f2 cb ⊢
  clear hW1 bx B0 b1 al b2 f1
  have c0 := cb.cell 0
  have c1 := cb.cell 1
  have c2 := cb.cell 2
  simp only [List.getElem?_cons_zero, List.getElem?_cons_succ] at c0 c1 c2
  have d0 := f2.k2.cell 0 (by decide)
  have d1 := f2.k2.cell 1 (by decide)
  have e0 := f2.k2.free 0
  have e1 := f2.k2.free 1
  have q2 := cb.free 2
  have r0 := bx2.cell 0
  have r1 := bx2.cell 1
  have r2 := bx2.cell 2
  have g0 := bx2.free 0
  have g1 := bx2.free 1
  have g2 := bx2.free 2
  simp only [List.getElem?_cons_zero, List.getElem?_cons_succ] at r0 r1 r2
  have lt3 := bx2.lt
  have lt4 := cb.lt
  have lt5 := f2.k2.lt
  have n1 : ¬ B2 = w1.heap.size := by omega
  have n2 : ¬ B2 = w.heap.size := by omega
  have n3 : ¬ w1.heap.size = w.heap.size := by omega
  have n4 : ¬ w1.heap.size = B2 := by omega
  have n5 : ¬ w.heap.size = B2 := by omega
  have n6 : ¬ w.heap.size = w1.heap.size := by omega
  go_wp2
  refine bodyPost_ret (v := formV (some ⟨B1, 0, none⟩) 3 3 (some ⟨B2, 0, none⟩) 2 2 k) (by simp [results, Try.results84, go_sem, r0, r1, r2]) rfl ⟨B1, B2, rfl, ?_, ?_⟩
  · exact (((((BW.setCell (p := ⟨B2, 0, none⟩) (by show w.heap.size ≤ B2; omega) _).setCell (p := ⟨B2, 1, none⟩) (by show w.heap.size ≤ B2; omega) _).setCell (p := ⟨w1.heap.size, 2, none⟩) (by show w.heap.size ≤ w1.heap.size; omega) _).setCell (Nat.le_refl _) _).setCell (Nat.le_refl _) _).setCell (Nat.le_refl _) _
  · have m1 : B1 ≠ w1.heap.size := by omega
    have m2 : B1 ≠ w.heap.size := by omega
    exact ((((((f2.setD 0 a).setD 1 b).setOther m1 n1 2 _).setOther m2 n2 0 _).setOther m2 n2 1 _).setOther m2 n2 2 _).mono (by rw [World.size_alloc]; omega)

theorem Touch.setNewF {S : Nat → Prop} {w W : World} (h : Touch S w W) {B : Nat} (hB : w.heap.size ≤ B) (i : Nat) (v : Value) : Touch S w (W.setCell ⟨B, i, none⟩ v) :=
  ⟨h.os, h.tape, h.output, by rw [size_setCell]; exact h.size, fun k hk hs => by rw [Below.heap_setCell _ _ _ _ (by simp only []; omega)]; exact h.block k hk hs⟩

set_option maxHeartbeats 1600000 in
theorem with_f (B1 B2 v : Nat) (x K : Int) (lo : Nat) (C D : List Int) (w : World) (hf : F32 w lo B1 B2 C D) (hv : v < 3) :
    Calls Try.prog 83 #[formV (some ⟨B1, 0, none⟩) 3 3 (some ⟨B2, 0, none⟩) 2 2 K, .int .i64 v, .int .i64 x] w fun e w' => e = .returned (formV (some ⟨B1, 0, none⟩) 3 3 (some ⟨B2, 0, none⟩) 2 2 K) ∧ Touch (fun z => z = B1) w w' ∧ F32 w' lo B1 B2 (C.set v x) D := by
  have lt1 := hf.k1.lt
  have lt2 := hf.k2.lt
  have al := ((Below.refl w.heap.size w).alloc (Nat.le_refl _) (.cells #[.slice (some ⟨B1, 0, none⟩) 3 3, .slice (some ⟨B2, 0, none⟩) 2 2, .int .i64 K] 34)).alloc (by simp) (.cells #[.slice none 0 0, .slice none 0 0, .int .i64 0] 34)
  have pb := (Cel.new w [.slice (some ⟨B1, 0, none⟩) 3 3, .slice (some ⟨B2, 0, none⟩) 2 2, .int .i64 K] 34).alloc (.cells #[.slice none 0 0, .slice none 0 0, .int .i64 0] 34)
  have rb := Cel.new (w.alloc (.cells #[.slice (some ⟨B1, 0, none⟩) 3 3, .slice (some ⟨B2, 0, none⟩) 2 2, .int .i64 K] 34)) [.slice none 0 0, .slice none 0 0, .int .i64 0] 34
  rw [World.size_alloc] at rb
  have f2 := hf.below al
  obtain ⟨W1, hW1⟩ : ∃ W, W = (w.alloc (.cells #[.slice (some ⟨B1, 0, none⟩) 3 3, .slice (some ⟨B2, 0, none⟩) 2 2, .int .i64 K] 34)).alloc (.cells #[.slice none 0 0, .slice none 0 0, .int .i64 0] 34) := ⟨_, rfl⟩
  have hv3 : (v : Int) < 3 := by omega
  go_enter Try.func83, Try.ntmps83
  go_upto_region 1 with fail
  rw [← hW1] at al pb rb f2 ⊢
  clear hW1 hf
  have c0 := pb.cell 0
  have c1 := pb.cell 1
  have c2 := pb.cell 2
  have r0 := rb.cell 0
  have r1 := rb.cell 1
  have r2 := rb.cell 2
  have g0 := rb.free 0
  have g1 := rb.free 1
  have g2 := rb.free 2
  simp only [List.getElem?_cons_zero, List.getElem?_cons_succ] at c0 c1 c2 r0 r1 r2
  have d0 := f2.k1.cell v (by rw [f2.l1]; exact hv)
  have e0 := f2.k1.free v
  have lt3 := pb.lt
  have lt4 := rb.lt
  have lt5 := f2.k1.lt
  have n1 : ¬ B1 = w.heap.size := by omega
  have n2 : ¬ B1 = w.heap.size + 1 := by omega
  have n3 : ¬ w.heap.size = B1 := by omega
  have n4 : ¬ w.heap.size + 1 = B1 := by omega
  go_wp2
  refine bodyPost_ret (v := formV (some ⟨B1, 0, none⟩) 3 3 (some ⟨B2, 0, none⟩) 2 2 K) (by simp [results, Try.results83, go_sem, r0, r1, r2]) rfl ⟨rfl, ?_, ?_⟩
  · have t1 : Touch (fun z => z = B1) w (W1.setCell ⟨B1, v, none⟩ (.int .i64 x)) := Touch.setCell (S := fun z => z = B1) (Touch.of al) rfl _
    exact ((t1.setNewF (B := w.heap.size + 1) (by omega) 0 _).setNewF (B := w.heap.size + 1) (by omega) 1 _).setNewF (B := w.heap.size + 1) (by omega) 2 _
  · have m1 : B1 ≠ w.heap.size + 1 := n2
    have m2 : B2 ≠ w.heap.size + 1 := by omega
    exact (((f2.setC v x).setOther m1 m2 0 _).setOther m1 m2 1 _).setOther m1 m2 2 _

end Go.Proofs.Ytemcinobgdphnaa
namespace Go.Proofs.Ytemcinobgdphnaa
open Go.RowKit
section
variable {P : Program} {ops : Array Oper} {Q : Exit → Act → World → Prop} {md : Region.Mode} {S0 S : World → Prop} {s : Nat}
theorem tkE {i : Nat} {oi : Oper} {v : Value} {fuel : Nat} {listed : Array Bool} {a : Act} {w : World} (hi : ops[i]? = some oi) (hy : YieldsIf P ops S0 oi v a) (hS : S0 w ∧ S w)
    (h : wpAnyE P md ops Q S0 S s fuel (listed.setIfInBounds i true) (a.put oi.dst v) w)
    (hs : Region.noSelect ops = true := by kernel_rfl) (hf : Region.free md ops listed i = true := by kernel_rfl) (hr : (Region.ready md ops listed).contains i = true := by kernel_rfl) (his : i ≠ s := by decide)
    (hQ : ∀ c a w, Q (.panic c) (a.put oi.dst v) w → Q (.panic c) a w := by exact fun _ _ _ h => h) : wpAnyE P md ops Q S0 S s (fuel + 1) listed a w :=
  wpAnyE_take0 hi hs hf hr his hQ hy hS h
theorem tkL {i : Nat} {oi : Oper} {v : Value} {fuel : Nat} {listed : Array Bool} {a : Act} {w : World} (hi : ops[i]? = some oi) (hS : S0 w ∧ S w)
    (h : wpAnyE P md ops Q S0 S s fuel (listed.setIfInBounds i true) (a.put oi.dst v) w)
    (hw : Region.wanted oi (yielded ops a.tmps) = true := by rfl)
    (hy : ∀ w, S0 w → (execOp a.eval oi).run P w = .ok (.value v) w := by (intro wz hSw; (try dsimp only at hSw); go_simp; try (with_reducible rfl)))
    (hs : Region.noSelect ops = true := by kernel_rfl) (hf : Region.free md ops listed i = true := by kernel_rfl) (hr : (Region.ready md ops listed).contains i = true := by kernel_rfl) (his : i ≠ s := by decide)
    (hQ : ∀ c a w, Q (.panic c) (a.put oi.dst v) w → Q (.panic c) a w := by exact fun _ _ _ h => h) : wpAnyE P md ops Q S0 S s (fuel + 1) listed a w :=
  wpAnyE_take0 hi hs hf hr his hQ (Or.inl ⟨hw, hy⟩) hS h
theorem tkU {i : Nat} {oi : Oper} {fuel : Nat} {listed : Array Bool} {a : Act} {w : World} (hi : ops[i]? = some oi) (hS : S0 w ∧ S w)
    (h : wpAnyE P md ops Q S0 S s fuel (listed.setIfInBounds i true) (a.put oi.dst undef) w)
    (hw : Region.wanted oi (yielded ops a.tmps) = false := by kernel_rfl)
    (hs : Region.noSelect ops = true := by kernel_rfl) (hf : Region.free md ops listed i = true := by kernel_rfl) (hr : (Region.ready md ops listed).contains i = true := by kernel_rfl) (his : i ≠ s := by decide)
    (hQ : ∀ c a w, Q (.panic c) (a.put oi.dst undef) w → Q (.panic c) a w := by exact fun _ _ _ h => h) : wpAnyE P md ops Q S0 S s (fuel + 1) listed a w :=
  wpAnyE_take0 hi hs hf hr his hQ (Or.inr ⟨hw, rfl⟩) hS h
theorem tkM {i : Nat} {oi os : Oper} {v : Value} {fuel : Nat} {listed : Array Bool} {a : Act} {w : World} (hi : ops[i]? = some oi) (hos : ops[s]? = some os) (hS : S0 w ∧ S w)
    (h : wpAnyE P md ops Q S0 S s fuel (listed.setIfInBounds i true) (a.put oi.dst v) w)
    (hw : Region.wanted oi (yielded ops a.tmps) = true := by rfl)
    (hy : ∀ w, S w → (execOp a.eval oi).run P w = .ok (.value v) w := by (intro wz hSw; (try dsimp only at hSw); go_simp; try (with_reducible rfl)))
    (hs : Region.noSelect ops = true := by kernel_rfl) (hf : Region.free md ops listed i = true := by kernel_rfl) (hr : (Region.ready md ops listed).contains i = true := by kernel_rfl) (his : i ≠ s := by decide)
    (hls : listed.getD s true = false := by rfl) (hb : ∃ e ∈ os.after, Region.binds md e = true ∧ e.on = i := by simp [Region.binds])
    (hQ : ∀ c a w, Q (.panic c) (a.put oi.dst v) w → Q (.panic c) a w := by exact fun _ _ _ h => h) : wpAnyE P md ops Q S0 S s (fuel + 1) listed a w :=
  wpAnyE_take1 hi hos hs hf hr his hls hb hQ (Or.inl ⟨hw, hy⟩) hS h
end
end Go.Proofs.Ytemcinobgdphnaa
namespace Go.Proofs.Ytemcinobgdphnaa
open Go.RowKit
set_option linter.unusedVariables false
set_option maxRecDepth 100000

theorem bnd.set {M : Int} {zs : List Int} (h : bnd M zs) (i : Nat) {x : Int} (h1 : -M ≤ x) (h2 : x ≤ M) : bnd M (zs.set i x) := by
  intro j
  have hj := h j
  by_cases e : i = j
  · subst e
    by_cases hl : i < zs.length
    · rw [List.getElem?_set_self hl]; simp; omega
    · rw [List.getElem?_eq_none (by rw [List.length_set]; omega)]
      rw [List.getElem?_eq_none (by omega)] at hj
      exact hj
  · rw [List.getElem?_set_ne e]; exact hj

/-- A form that is being drawn: its two boxes, its two lists, the reader. -/
structure SmI (w W : World) (R : Nat) (a : Option Addr) (n cap : Nat) (bs : List Int) (q : Int) (fb B1 B2 : Nat) (C D : List Int) (K M : Int) : Prop where
  t : Touch (fun x => x = R) w W
  r : Rd W R a n cap bs q
  f : F32 W (w.heap.size + 1) B1 B2 C D
  cb : Cel W fb [.slice (some ⟨B1, 0, none⟩) 3 3, .slice (some ⟨B2, 0, none⟩) 2 2, .int .i64 K] 34
  rb : Cel W w.heap.size [.slice none 0 0, .slice none 0 0, .int .i64 0] 34
  hf : w.heap.size < fb
  n1 : B1 ≠ fb
  n2 : B2 ≠ fb
  hR : R < w.heap.size
  ha : 0 < n → ∀ b o, a = some ⟨b, o, none⟩ → b < w.heap.size
  sC : bnd M C
  sD : bnd M D
section
variable {w W W' : World} {R : Nat} {a : Option Addr} {n cap : Nat} {bs : List Int} {q : Int} {fb B1 B2 : Nat} {C D : List Int} {K M : Int}
theorem SmI.below (s : SmI w W R a n cap bs q fb B1 B2 C D K M) (b : Below W.heap.size W W') : SmI w W' R a n cap bs q fb B1 B2 C D K M :=
  ⟨s.t.trans (Touch.of b), s.r.below b, s.f.below b, s.cb.below b, s.rb.below b, s.hf, s.n1, s.n2, s.hR, s.ha, s.sC, s.sD⟩
theorem Blk.touchF {S : Nat → Prop} {B : Nat} {zs : List Int} (h : Blk W B zs) (t : Touch S W W') (hn : ¬ S B) : Blk W' B zs := by
  have hl := h.lt
  unfold Blk at *
  rw [t.block B hl hn]; exact h
theorem SmI.pick {q' : Int} (s : SmI w W R a n cap bs q fb B1 B2 C D K M) (t : Touch (fun x => x = R) W W') (r : Rd W' R a n cap bs q') : SmI w W' R a n cap bs q' fb B1 B2 C D K M := by
  have h1 := s.f.b1
  have h2 := s.f.b2
  have h3 := s.hR
  have h4 := s.hf
  exact ⟨s.t.trans t, r, ⟨s.f.k1.touchF t (by omega), s.f.k2.touchF t (by omega), s.f.l1, s.f.l2, s.f.b1, s.f.b2, s.f.ne⟩, s.cb.touch t (by omega), s.rb.touch t (by omega), s.hf, s.n1, s.n2, s.hR, s.ha, s.sC, s.sD⟩
theorem Rd.setNew (h : Rd W R a n cap bs q) {B : Nat} (hB : B ≠ R) (ha : 0 < n → ∀ b o, a = some ⟨b, o, none⟩ → b ≠ B) (i : Nat) (v : Value) : Rd (W.setCell ⟨B, i, none⟩ v) R a n cap bs q := by
  have t : Touch (fun x => x = B) W (W.setCell ⟨B, i, none⟩ v) := Touch.setCell (S := fun x => x = B) (Touch.refl _ _) rfl _
  exact h.touch t (fun e => hB e.symm) (fun h0 b o e => ha h0 b o e)
theorem SmI.setC (s : SmI w W R a n cap bs q fb B1 B2 C D K M) (i : Nat) {x : Int} (x1 : -M ≤ x) (x2 : x ≤ M) : SmI w (W.setCell ⟨B1, i, none⟩ (.int .i64 x)) R a n cap bs q fb B1 B2 (C.set i x) D K M := by
  have h1 := s.f.b1
  have h3 := s.hR
  exact ⟨s.t.setNewF (by omega) i _, s.r.setNew (by omega) (fun h0 b o e => by have := s.ha h0 b o e; omega) i _, s.f.setC i x, s.cb.setOther (fun e => s.n1 e.symm) _ _, s.rb.setOther (by omega) _ _, s.hf, s.n1, s.n2, s.hR, s.ha, s.sC.set i x1 x2, s.sD⟩
theorem SmI.setD (s : SmI w W R a n cap bs q fb B1 B2 C D K M) (i : Nat) {x : Int} (x1 : -M ≤ x) (x2 : x ≤ M) : SmI w (W.setCell ⟨B2, i, none⟩ (.int .i64 x)) R a n cap bs q fb B1 B2 C (D.set i x) K M := by
  have h1 := s.f.b2
  have h3 := s.hR
  exact ⟨s.t.setNewF (by omega) i _, s.r.setNew (by omega) (fun h0 b o e => by have := s.ha h0 b o e; omega) i _, s.f.setD i x, s.cb.setOther (fun e => s.n2 e.symm) _ _, s.rb.setOther (by omega) _ _, s.hf, s.n1, s.n2, s.hR, s.ha, s.sC, s.sD.set i x1 x2⟩
theorem lit_cell {L j : Nat} {xs : List Int} {t : TypeId} (h : Cel W L (xs.map (Value.int .i64)) t) (hj : j < xs.length) : W.cell? ⟨L, j, none⟩ = some (.int .i64 (xs[j]?.getD 0)) := by
  have := h.cell j
  rw [List.getElem?_map, List.getElem?_eq_getElem hj] at this
  rw [List.getElem?_eq_getElem hj]
  exact this
end
theorem lit_6 (j : Nat) (hj : j < 6) : -2 ≤ ([0, 0, 0, 1, -1, 2] : List Int)[j]?.getD 0 ∧ ([0, 0, 0, 1, -1, 2] : List Int)[j]?.getD 0 ≤ 2 := by
  rcases j with _ | _ | _ | _ | _ | _ | _ | _ | j <;> first | omega | simp
theorem lit_5 (j : Nat) (hj : j < 5) : -2 ≤ ([0, 0, 1, -1, 2] : List Int)[j]?.getD 0 ∧ ([0, 0, 1, -1, 2] : List Int)[j]?.getD 0 ≤ 2 := by
  rcases j with _ | _ | _ | _ | _ | _ | _ | _ | j <;> first | omega | simp
theorem lit_8 (j : Nat) (hj : j < 8) : -20 ≤ ([0, 0, 1, -1, 5, -5, 20, -20] : List Int)[j]?.getD 0 ∧ ([0, 0, 1, -1, 5, -5, 20, -20] : List Int)[j]?.getD 0 ≤ 20 := by
  rcases j with _ | _ | _ | _ | _ | _ | _ | _ | j <;> first | omega | simp

set_option maxHeartbeats 6400000 in
theorem small_f (R : Nat) (a : Option Addr) (n cap : Nat) (bs : List Int) (p : Int) (w : World) (hR : Rd w R a n cap bs p) (hp : 0 ≤ p) (hp1 : p ≤ 9000000) (ha : 0 < n → ∀ b o, a = some ⟨b, o, none⟩ → b < w.heap.size) :
    Calls Try.prog 86 #[.pointer (some ⟨R, 0, none⟩)] w fun e w' => ∃ B1 B2 C D K, e = .returned (formV (some ⟨B1, 0, none⟩) 3 3 (some ⟨B2, 0, none⟩) 2 2 K) ∧ Touch (fun x => x = R) w w' ∧ Rd w' R a n cap bs (p + 6) ∧ F32 w' w.heap.size B1 B2 C D ∧ bnd 2 C ∧ bnd 2 D ∧ -20 ≤ K ∧ K ≤ 20 := by
  have hRl := hR.c.lt
  have bx := Cel.new w [.slice none 0 0, .slice none 0 0, .int .i64 0] 34
  have B0 := (Below.refl w.heap.size w).alloc (Nat.le_refl _) (.cells #[.slice none 0 0, .slice none 0 0, .int .i64 0] 34)
  go_enter Try.func86, Try.ntmps86
  go_wp2_with fail
  refine (szero_f _).mono ?_
  rintro e w1 ⟨B1, B2, rfl, b1, f1⟩
  have al := (Below.refl w1.heap.size w1).alloc (Nat.le_refl _) (.cells #[.slice (some ⟨B1, 0, none⟩) 3 3, .slice (some ⟨B2, 0, none⟩) 2 2, .int .i64 0] 34)
  have z1 := f1.b1
  have z2 := f1.b2
  rw [World.size_alloc] at z1 z2
  have lt1 := f1.k1.lt
  have lt2 := f1.k2.lt
  have b2 := b1.trans (al.mono b1.size)
  have BW := B0.trans (b2.mono B0.size)
  have hlw : w.heap.size < w1.heap.size := (bx.below b1).lt
  have s0 : SmI w (w1.alloc (.cells #[.slice (some ⟨B1, 0, none⟩) 3 3, .slice (some ⟨B2, 0, none⟩) 2 2, .int .i64 0] 34)) R a n cap bs (p + ((0 : Nat) : Int)) w1.heap.size B1 B2 [0, 0, 0] [0, 0] 0 2 :=
    ⟨Touch.of BW, by have h := hR.below BW; rw [show p + ((0 : Nat) : Int) = p by omega]; exact h, (f1.below al).mono (by rw [World.size_alloc]; omega), Cel.new w1 _ _, bx.below b2, hlw, by omega, by omega, hRl, ha, fun i => by rcases i with _ | _ | _ | i <;> simp, fun i => by rcases i with _ | _ | i <;> simp⟩
  obtain ⟨fb, hfb⟩ : ∃ x, x = w1.heap.size := ⟨_, rfl⟩
  rw [← hfb] at s0
  go_wp2_with fail
  rw [← hfb]
  clear hfb hR bx B0 b1 f1 al b2 BW z1 z2 lt1 lt2 hlw
  go_loopw [4] (fun i wr => ∃ (k : Nat) (C : List Int), k ≤ 3 ∧ i = .int .i64 k ∧ SmI w wr R a n cap bs (p + (k : Int)) fb B1 B2 C [0, 0] 0 2) (fun i _ => 3 - (intOf i).toNat)
  case atStart => exact ⟨0, _, Nat.zero_le _, rfl, s0⟩
  case round =>
    clear s0
    obtain ⟨k, C, hk, rfl, s⟩ := hrel
    by_cases hlt : k < 3
    · have hk3 : (k : Int) < 3 := by omega
      go_upto_region 5 with fail
      refine wp_region_ends (fun X => X.cell? ⟨fb, 0, none⟩ = some (.slice (some ⟨B1, 0, none⟩) 3 3)) (fun _ => True) 9 (by kernel_rfl) ?_
      have sd := s.below ((Below.refl _ _).drew)
      obtain ⟨V0, hV0⟩ : ∃ V, V = wr.drew := ⟨_, rfl⟩
      rw [← hV0] at sd ⊢
      clear hV0 s
      have hS0 : (fun X : World => X.cell? ⟨fb, 0, none⟩ = some (.slice (some ⟨B1, 0, none⟩) 3 3)) V0 ∧ True := ⟨sd.cb.cell 0, trivial⟩
      refine tkL (i := 0) rfl hS0 ?_
      refine tkL (i := 1) rfl hS0 ?_
      refine tkL (i := 2) rfl hS0 ?_
      refine tkL (i := 4) rfl hS0 ?_
      refine wpAnyE_two (i := 3) (j := 5) (by kernel_rfl) rfl rfl (fun Kn hK => ?_) (fun Kn hK => ?_)
      · go_simp
        have al := (Below.refl V0.heap.size V0).alloc (Nat.le_refl _) (.cells #[.int .i64 0, .int .i64 0, .int .i64 0, .int .i64 1, .int .i64 (-1), .int .i64 2] 3)
        have lb0 := Cel.new V0 [.int .i64 0, .int .i64 0, .int .i64 0, .int .i64 1, .int .i64 (-1), .int .i64 2] 3
        have s4 := sd.below al
        refine hK.out _ _ ⟨s4.cb.cell 0, fun _ => trivial⟩ ?_
        clear hK
        refine wpAnyE_one (i := 5) (by kernel_rfl) rfl (fun Kn hK => ?_)
        go_simp
        refine (pick_any R a n cap bs _ 6 _ s4.r (by omega) (by omega) (by omega) (by omega)).mono ?_
        rintro e w5 ⟨r, r0, r1, rfl, t5, R5⟩
        obtain ⟨j, rfl⟩ := Int.eq_ofNat_of_zero_le r0
        have hj : j < 6 := by omega
        have hj' : (j : Int) < 6 := by omega
        have s5 := s4.pick t5 R5
        have lb := lb0.touch t5 (by have h1 := sd.hR; have h2 := sd.t.size; omega)
        dsimp only
        have hS5 : (fun X : World => X.cell? ⟨fb, 0, none⟩ = some (.slice (some ⟨B1, 0, none⟩) 3 3)) w5 ∧ True := ⟨s5.cb.cell 0, trivial⟩
        refine hK.out _ _ ⟨hS5.1, fun _ => trivial⟩ ?_
        clear hK hS0
        refine tkL (i := 6) rfl hS5 ?_
        have hc := lit_cell (xs := [0, 0, 0, 1, -1, 2]) lb hj
        have hy := lit_6 j hj
        generalize ([0, 0, 0, 1, -1, 2] : List Int)[j]?.getD 0 = y at hc hy
        refine wpAnyE_one (i := 7) (by kernel_rfl) rfl (fun Kn hK => ?_)
        go_simp
        refine hK.out _ _ ⟨hS5.1, fun _ => trivial⟩ ?_
        clear hK
        refine tkL (i := 8) rfl hS5 ?_
        have s6 := s5.setC k hy.1 hy.2
        have kc := s5.f.k1.cell k (by rw [s5.f.l1]; omega)
        have kf := s5.f.k1.free k
        have kl := s5.f.k1.lt
        refine wpAnyE_one (i := 9) (by kernel_rfl) rfl (fun Kn hK => ?_)
        go_simp
        refine hK.out _ _ ⟨s6.cb.cell 0, fun _ => trivial⟩ ?_
        clear hK
        refine wpAnyE_done (by kernel_rfl) ?_ _
        clear hS5 hc kc kf
        go_wp2
        go_roundw
        case rel => exact ⟨k + 1, _, by omega, by go_num, by have h := s6; rw [show p + (k : Int) + 1 = p + ((k + 1 : Nat) : Int) by omega] at h; exact h⟩
        case measure => simp [intOf]; omega
      · go_simp
        refine (pick_any R a n cap bs _ 6 _ sd.r (by omega) (by omega) (by omega) (by omega)).mono ?_
        rintro e w5 ⟨r, r0, r1, rfl, t5, R5⟩
        obtain ⟨j, rfl⟩ := Int.eq_ofNat_of_zero_le r0
        have hj : j < 6 := by omega
        have hj' : (j : Int) < 6 := by omega
        have s5a := sd.pick t5 R5
        dsimp only
        refine hK.out _ _ ⟨s5a.cb.cell 0, fun _ => trivial⟩ ?_
        clear hK
        refine wpAnyE_one (i := 3) (by kernel_rfl) rfl (fun Kn hK => ?_)
        go_simp
        have al := (Below.refl w5.heap.size w5).alloc (Nat.le_refl _) (.cells #[.int .i64 0, .int .i64 0, .int .i64 0, .int .i64 1, .int .i64 (-1), .int .i64 2] 3)
        have lb := Cel.new w5 [.int .i64 0, .int .i64 0, .int .i64 0, .int .i64 1, .int .i64 (-1), .int .i64 2] 3
        have s5 := s5a.below al
        have hS5 : (fun X : World => X.cell? ⟨fb, 0, none⟩ = some (.slice (some ⟨B1, 0, none⟩) 3 3)) (w5.alloc (.cells #[.int .i64 0, .int .i64 0, .int .i64 0, .int .i64 1, .int .i64 (-1), .int .i64 2] 3)) ∧ True := ⟨s5.cb.cell 0, trivial⟩
        refine hK.out _ _ ⟨hS5.1, fun _ => trivial⟩ ?_
        clear hK hS0
        refine tkL (i := 6) rfl hS5 ?_
        have hc := lit_cell (xs := [0, 0, 0, 1, -1, 2]) lb hj
        have hy := lit_6 j hj
        generalize ([0, 0, 0, 1, -1, 2] : List Int)[j]?.getD 0 = y at hc hy
        refine wpAnyE_one (i := 7) (by kernel_rfl) rfl (fun Kn hK => ?_)
        go_simp
        refine hK.out _ _ ⟨hS5.1, fun _ => trivial⟩ ?_
        clear hK
        refine tkL (i := 8) rfl hS5 ?_
        have s6 := s5.setC k hy.1 hy.2
        have kc := s5.f.k1.cell k (by rw [s5.f.l1]; omega)
        have kf := s5.f.k1.free k
        have kl := s5.f.k1.lt
        refine wpAnyE_one (i := 9) (by kernel_rfl) rfl (fun Kn hK => ?_)
        go_simp
        refine hK.out _ _ ⟨s6.cb.cell 0, fun _ => trivial⟩ ?_
        clear hK
        refine wpAnyE_done (by kernel_rfl) ?_ _
        clear hS5 hc kc kf
        go_wp2
        go_roundw
        case rel => exact ⟨k + 1, _, by omega, by go_num, by have h := s6; rw [show p + (k : Int) + 1 = p + ((k + 1 : Nat) : Int) by omega] at h; exact h⟩
        case measure => simp [intOf]; omega
    · have HK : Hid (k = 3) := show k = 3 by omega
      have hlt' : ¬ (k : Int) < 3 := by omega
      have s0 : SmI w wr R a n cap bs (p + 3 + ((0 : Nat) : Int)) fb B1 B2 C [0, 0] 0 2 := by have h := s; rw [show p + (k : Int) = p + 3 + ((0 : Nat) : Int) by have := HK.out; omega] at h; exact h
      clear s hk
      go_wp2_with fail
      go_loopw [5] (fun i wx => ∃ (l : Nat) (D : List Int), l ≤ 2 ∧ i = .int .i64 l ∧ SmI w wx R a n cap bs (p + 3 + (l : Int)) fb B1 B2 C D 0 2) (fun i _ => 2 - (intOf i).toNat)
      case atStart => exact ⟨0, _, Nat.zero_le _, rfl, s0⟩
      case round =>
        clear s0 HK
        obtain ⟨l, D, hl, rfl, s⟩ := hrel
        by_cases hl2 : l < 2
        · have hk3 : (l : Int) < 2 := by omega
          go_upto_region 9 with fail
          refine wp_region_ends (fun X => X.cell? ⟨fb, 1, none⟩ = some (.slice (some ⟨B2, 0, none⟩) 2 2)) (fun _ => True) 9 (by kernel_rfl) ?_
          have sd := s.below ((Below.refl _ _).drew)
          obtain ⟨V0, hV0⟩ : ∃ V, V = wr.drew := ⟨_, rfl⟩
          rw [← hV0] at sd ⊢
          clear hV0 s
          have hS0 : (fun X : World => X.cell? ⟨fb, 1, none⟩ = some (.slice (some ⟨B2, 0, none⟩) 2 2)) V0 ∧ True := ⟨sd.cb.cell 1, trivial⟩
          refine tkL (i := 0) rfl hS0 ?_
          refine tkL (i := 1) rfl hS0 ?_
          refine tkL (i := 2) rfl hS0 ?_
          refine tkL (i := 4) rfl hS0 ?_
          refine wpAnyE_two (i := 3) (j := 5) (by kernel_rfl) rfl rfl (fun Kn hK => ?_) (fun Kn hK => ?_)
          · go_simp
            have al := (Below.refl V0.heap.size V0).alloc (Nat.le_refl _) (.cells #[.int .i64 0, .int .i64 0, .int .i64 1, .int .i64 (-1), .int .i64 2] 3)
            have lb0 := Cel.new V0 [.int .i64 0, .int .i64 0, .int .i64 1, .int .i64 (-1), .int .i64 2] 3
            have s4 := sd.below al
            refine hK.out _ _ ⟨s4.cb.cell 1, fun _ => trivial⟩ ?_
            clear hK
            refine wpAnyE_one (i := 5) (by kernel_rfl) rfl (fun Kn hK => ?_)
            go_simp
            refine (pick_any R a n cap bs _ 5 _ s4.r (by omega) (by omega) (by omega) (by omega)).mono ?_
            rintro e w5 ⟨r, r0, r1, rfl, t5, R5⟩
            obtain ⟨j, rfl⟩ := Int.eq_ofNat_of_zero_le r0
            have hj : j < 5 := by omega
            have hj' : (j : Int) < 5 := by omega
            have s5 := s4.pick t5 R5
            have lb := lb0.touch t5 (by have h1 := sd.hR; have h2 := sd.t.size; omega)
            dsimp only
            have hS5 : (fun X : World => X.cell? ⟨fb, 1, none⟩ = some (.slice (some ⟨B2, 0, none⟩) 2 2)) w5 ∧ True := ⟨s5.cb.cell 1, trivial⟩
            refine hK.out _ _ ⟨hS5.1, fun _ => trivial⟩ ?_
            clear hK hS0
            refine tkL (i := 6) rfl hS5 ?_
            have hc := lit_cell (xs := [0, 0, 1, -1, 2]) lb hj
            have hy := lit_5 j hj
            generalize ([0, 0, 1, -1, 2] : List Int)[j]?.getD 0 = y at hc hy
            refine wpAnyE_one (i := 7) (by kernel_rfl) rfl (fun Kn hK => ?_)
            go_simp
            refine hK.out _ _ ⟨hS5.1, fun _ => trivial⟩ ?_
            clear hK
            refine tkL (i := 8) rfl hS5 ?_
            have s6 := s5.setD l hy.1 hy.2
            have kc := s5.f.k2.cell l (by rw [s5.f.l2]; omega)
            have kf := s5.f.k2.free l
            have kl := s5.f.k2.lt
            refine wpAnyE_one (i := 9) (by kernel_rfl) rfl (fun Kn hK => ?_)
            go_simp
            refine hK.out _ _ ⟨s6.cb.cell 1, fun _ => trivial⟩ ?_
            clear hK
            refine wpAnyE_done (by kernel_rfl) ?_ _
            clear hS5 hc kc kf
            go_wp2
            go_roundw
            case rel => exact ⟨l + 1, _, by omega, by go_num, by have h := s6; rw [show p + 3 + (l : Int) + 1 = p + 3 + ((l + 1 : Nat) : Int) by omega] at h; exact h⟩
            case measure => simp [intOf]; omega
          · go_simp
            refine (pick_any R a n cap bs _ 5 _ sd.r (by omega) (by omega) (by omega) (by omega)).mono ?_
            rintro e w5 ⟨r, r0, r1, rfl, t5, R5⟩
            obtain ⟨j, rfl⟩ := Int.eq_ofNat_of_zero_le r0
            have hj : j < 5 := by omega
            have hj' : (j : Int) < 5 := by omega
            have s5a := sd.pick t5 R5
            dsimp only
            refine hK.out _ _ ⟨s5a.cb.cell 1, fun _ => trivial⟩ ?_
            clear hK
            refine wpAnyE_one (i := 3) (by kernel_rfl) rfl (fun Kn hK => ?_)
            go_simp
            have al := (Below.refl w5.heap.size w5).alloc (Nat.le_refl _) (.cells #[.int .i64 0, .int .i64 0, .int .i64 1, .int .i64 (-1), .int .i64 2] 3)
            have lb := Cel.new w5 [.int .i64 0, .int .i64 0, .int .i64 1, .int .i64 (-1), .int .i64 2] 3
            have s5 := s5a.below al
            have hS5 : (fun X : World => X.cell? ⟨fb, 1, none⟩ = some (.slice (some ⟨B2, 0, none⟩) 2 2)) (w5.alloc (.cells #[.int .i64 0, .int .i64 0, .int .i64 1, .int .i64 (-1), .int .i64 2] 3)) ∧ True := ⟨s5.cb.cell 1, trivial⟩
            refine hK.out _ _ ⟨hS5.1, fun _ => trivial⟩ ?_
            clear hK hS0
            refine tkL (i := 6) rfl hS5 ?_
            have hc := lit_cell (xs := [0, 0, 1, -1, 2]) lb hj
            have hy := lit_5 j hj
            generalize ([0, 0, 1, -1, 2] : List Int)[j]?.getD 0 = y at hc hy
            refine wpAnyE_one (i := 7) (by kernel_rfl) rfl (fun Kn hK => ?_)
            go_simp
            refine hK.out _ _ ⟨hS5.1, fun _ => trivial⟩ ?_
            clear hK
            refine tkL (i := 8) rfl hS5 ?_
            have s6 := s5.setD l hy.1 hy.2
            have kc := s5.f.k2.cell l (by rw [s5.f.l2]; omega)
            have kf := s5.f.k2.free l
            have kl := s5.f.k2.lt
            refine wpAnyE_one (i := 9) (by kernel_rfl) rfl (fun Kn hK => ?_)
            go_simp
            refine hK.out _ _ ⟨s6.cb.cell 1, fun _ => trivial⟩ ?_
            clear hK
            refine wpAnyE_done (by kernel_rfl) ?_ _
            clear hS5 hc kc kf
            go_wp2
            go_roundw
            case rel => exact ⟨l + 1, _, by omega, by go_num, by have h := s6; rw [show p + 3 + (l : Int) + 1 = p + 3 + ((l + 1 : Nat) : Int) by omega] at h; exact h⟩
            case measure => simp [intOf]; omega
        · have hl2' : ¬ (l : Int) < 2 := by omega
          have s4 := s.below ((Below.refl wr.heap.size wr).alloc (Nat.le_refl _) (.cells #[.int .i64 0, .int .i64 0, .int .i64 1, .int .i64 (-1), .int .i64 5, .int .i64 (-5), .int .i64 20, .int .i64 (-20)] 3))
          have lb0 := Cel.new wr [.int .i64 0, .int .i64 0, .int .i64 1, .int .i64 (-1), .int .i64 5, .int .i64 (-5), .int .i64 20, .int .i64 (-20)] 3
          have hRR := s.hR
          have hsz := s.t.size
          clear s
          go_wp2_with fail
          refine (pick_any R a n cap bs _ 8 _ s4.r (by omega) (by omega) (by omega) (by omega)).mono ?_
          rintro e w5 ⟨r, r0, r1, rfl, t5, R5⟩
          obtain ⟨j, rfl⟩ := Int.eq_ofNat_of_zero_le r0
          have hj : j < 8 := by omega
          have hj' : (j : Int) < 8 := by omega
          have s5 := s4.pick t5 R5
          have lb := lb0.touch t5 (by omega)
          have hc := lit_cell (xs := [0, 0, 1, -1, 5, -5, 20, -20]) lb hj
          have hy := lit_8 j hj
          generalize ([0, 0, 1, -1, 5, -5, 20, -20] : List Int)[j]?.getD 0 = y at hc hy
          have d0 := s5.cb.cell 0
          have d1 := s5.cb.cell 1
          have d2 := s5.cb.cell 2
          have e2 := s5.cb.free 2
          have r0 := s5.rb.cell 0
          have r1 := s5.rb.cell 1
          have r2 := s5.rb.cell 2
          have g0 := s5.rb.free 0
          have g1 := s5.rb.free 1
          have g2 := s5.rb.free 2
          simp only [List.getElem?_cons_zero, List.getElem?_cons_succ] at d0 d1 d2 r0 r1 r2
          have l1 := s5.cb.lt
          have l2 := s5.rb.lt
          have h4 := s5.hf
          have n3 : ¬ w.heap.size = fb := by omega
          have n4 : ¬ fb = w.heap.size := by omega
          have q1 := s5.f.b1
          have q2 := s5.f.b2
          have F5 := s5.f
          have RR := s5.r
          have TT := s5.t
          have m1 := s5.n1
          have m2 := s5.n2
          have a5 := s5.ha
          have c5 := s5.sC
          have c6 := s5.sD
          clear s4 s5 t5 R5 lb lb0
          go_wp2
          refine bodyPost_ret (v := formV (some ⟨B1, 0, none⟩) 3 3 (some ⟨B2, 0, none⟩) 2 2 y) (by simp [results, Try.results86, go_sem, r0, r1, r2]) rfl ⟨B1, B2, C, D, y, rfl, ?_, ?_, ?_, c5, c6, hy.1, hy.2⟩
          · exact (((TT.setNewF (B := fb) (by omega) 2 _).setNewF (B := w.heap.size) (by omega) 0 _).setNewF (B := w.heap.size) (by omega) 1 _).setNewF (B := w.heap.size) (by omega) 2 _
          · have h := (((RR.setNew (B := fb) (by omega) (fun h0 b o e => by have := a5 h0 b o e; omega) 2 (.int .i64 y)).setNew (B := w.heap.size) (by omega) (fun h0 b o e => by have := a5 h0 b o e; omega) 0 (.slice (some ⟨B1, 0, none⟩) 3 3)).setNew (B := w.heap.size) (by omega) (fun h0 b o e => by have := a5 h0 b o e; omega) 1 (.slice (some ⟨B2, 0, none⟩) 2 2)).setNew (B := w.heap.size) (by omega) (fun h0 b o e => by have := a5 h0 b o e; omega) 2 (.int .i64 y)
            rw [show p + 3 + (l : Int) + 1 = p + 6 by omega] at h
            exact h
          · exact ((((F5.setOther m1 m2 2 _).setOther (by omega) (by omega) 0 _).setOther (by omega) (by omega) 1 _).setOther (by omega) (by omega) 2 _).mono (by omega)

end Go.Proofs.Ytemcinobgdphnaa
namespace Go.Proofs.Ytemcinobgdphnaa
open Go.RowKit
set_option linter.unusedVariables false
set_option maxRecDepth 100000

theorem ownsRow_touch {S : Nat → Prop} {W W' : World} {base : Nat} {e : TypeId} {size : Nat} {v : Value} {n : Nat} {xs : List Value} (h : W.ownsRow base e size v n xs) (t : Touch S W W') (hS : ∀ k, S k → k < base) : W'.ownsRow base e size v n xs := by
  obtain ⟨h1, h2⟩ := h
  refine ⟨h1, ?_⟩
  rcases h2 with h2 | ⟨g, cap, cur, hv, hg, hh, r⟩
  · exact Or.inl h2
  · refine Or.inr ⟨g, cap, cur, hv, hg, ?_, r⟩
    rw [t.block g (lt_of_block hh) (fun hs => by have := hS g hs; omega)]; exact hh

theorem Touch.grown {S : Nat → Prop} {w W W' : World} {row : Option Nat} (h : Touch S w W) (g : W.grownBy W' row) (hr : ∀ k, row = some k → w.heap.size ≤ k) : Touch S w W' :=
  ⟨g.os.trans h.os, g.tape.trans h.tape, g.output.trans h.output, Nat.le_trans h.size g.size, fun k hk hs => (g.block k (Nat.lt_of_lt_of_le hk h.size) (fun e => by have := hr k e.symm; omega)).trans (h.block k hk hs)⟩

/-- What the drawing holds: the reader, the list so far, old memory. -/
structure J (w : World) (R : Nat) (a : Option Addr) (n cap : Nat) (bs : List Int) (p : Int) (v : Value) (xs : List Int) (W : World) : Prop where
  t : Touch (fun x => x = R) w W
  r : Rd W R a n cap bs p
  o : W.ownsRow w.heap.size 3 1 v xs.length (xs.map (Value.int .i64))
  lR : R < w.heap.size
  lb : 0 < n → ∀ b o, a = some ⟨b, o, none⟩ → b < w.heap.size
section
variable {w W W' : World} {R : Nat} {a : Option Addr} {n cap : Nat} {bs : List Int} {p : Int} {v : Value} {xs : List Int}
theorem J.alloc (j : J w R a n cap bs p v xs W) (o : Obj) : J w R a n cap bs p v xs (W.alloc o) :=
  ⟨j.t.trans (Touch.of ((Below.refl _ _).alloc (Nat.le_refl _) _)), j.r.below ((Below.refl _ _).alloc (Nat.le_refl _) _), j.o.alloc o, j.lR, j.lb⟩
theorem J.pick {q : Int} (j : J w R a n cap bs p v xs W) (t : Touch (fun x => x = R) W W') (r : Rd W' R a n cap bs q) : J w R a n cap bs q v xs W' :=
  ⟨j.t.trans t, r, ownsRow_touch j.o t (fun k h => by have := j.lR; omega), j.lR, j.lb⟩
theorem J.own {v' : Value} {ys : List Int} (j : J w R a n cap bs p v xs W) (o : W'.ownsRow w.heap.size 3 1 v' ys.length (ys.map (Value.int .i64))) (g : W.grownBy W' v.ownBlock) : J w R a n cap bs p v' ys W' := by
  have hr : ∀ k, v.ownBlock = some k → w.heap.size ≤ k := fun k hk => (j.o.lt k hk).1
  have lR := j.lR
  have T : Touch (fun x => w.heap.size ≤ x) W W' := ⟨g.os, g.tape, g.output, g.size, fun k hk hs => g.block k hk (fun e => hs (hr k e.symm))⟩
  exact ⟨j.t.grown g hr, j.r.touch T (by omega) (fun h0 b o hab => by have := j.lb h0 b o hab; omega), o, j.lR, j.lb⟩
theorem J.ints (j : J w R a n cap bs p v xs W) (h0 : 0 < xs.length) : ∃ g cap', v = .slice (some ⟨g, 0, none⟩) xs.length cap' ∧ xs.length ≤ cap' ∧ w.heap.size ≤ g ∧ Ints W (some ⟨g, 0, none⟩) xs.length xs ∧ ∀ i, W.frozen? ⟨g, i, none⟩ = false := by
  rcases j.o.2 with ⟨_, h⟩ | ⟨g, cap', cur, rfl, hg, hh, hl, _, _⟩
  · omega
  · refine ⟨g, cap', rfl, hl, hg, ⟨rfl, fun i hi => ⟨g, 0, rfl, ?_⟩⟩, fun i => j.o.frozenAt i⟩
    have := j.o.cellAt i (by omega)
    rw [Nat.zero_add, this]
    simp [hi]
end

theorem Touch.setNewD {S : Nat → Prop} {w W : World} (h : Touch S w W) {B : Nat} (hB : w.heap.size ≤ B) (i : Nat) (v : Value) : Touch S w (W.setCell ⟨B, i, none⟩ v) :=
  ⟨h.os, h.tape, h.output, by rw [size_setCell]; exact h.size, fun k hk hs => by rw [Below.heap_setCell _ _ _ _ (by simp only []; omega)]; exact h.block k hk hs⟩
theorem ints_set {W : World} {g n s : Nat} {xs : List Int} (h : Ints W (some ⟨g, 0, none⟩) n xs) (hs : s < n) (y : Int) : Ints (W.setCell ⟨g, s, none⟩ (.int .i64 y)) (some ⟨g, 0, none⟩) n (xs.set s y) := by
  refine ⟨by rw [List.length_set]; exact h.1, fun i hi => ⟨g, 0, rfl, ?_⟩⟩
  have hc : ∀ i, i < n → W.cell? ⟨g, i, none⟩ = some (.int .i64 (xs.getD i 0)) := fun i hi => by
    obtain ⟨b, o, e, hh⟩ := h.2 i hi
    simp only [Option.some.injEq, Addr.mk.injEq, and_true] at e
    obtain ⟨rfl, rfl⟩ := e
    simpa using hh
  rw [Nat.zero_add]
  by_cases e : i = s
  · subst e
    rw [World.cell?_setCell_same' W ⟨g, i, none⟩ _ (by rw [hc i hi]; rfl)]
    simp [h.1, hi]
  · have ho : (W.setCell ⟨g, s, none⟩ (.int .i64 y)).cell? ⟨g, i, none⟩ = W.cell? ⟨g, i, none⟩ := by
      first
        | exact World.cell?_setCell_other W ⟨g, s, none⟩ ⟨g, i, none⟩ (.int .i64 y) (by intro hh; simp only [Addr.mk.injEq] at hh; omega)
        | exact World.cell?_setCell_other W ⟨g, s, none⟩ (.int .i64 y) ⟨g, i, none⟩ (by intro hh; simp only [Addr.mk.injEq] at hh; omega)
        | exact World.cell?_setCell_other W ⟨g, s, none⟩ (.int .i64 y) (by intro hh; simp only [Addr.mk.injEq] at hh; omega)
        | exact World.cell?_setCell_other (by intro hh; simp only [Addr.mk.injEq] at hh; omega)
    rw [ho, hc i hi]
    simp [Ne.symm e]

/-- A list was drawn: it lies in new memory, the reader has gone on. -/
structure Dn (w w' : World) (R : Nat) (a : Option Addr) (n cap : Nat) (bs : List Int) (p q : Int) (a' : Option Addr) (n' : Nat) (zs : List Int) : Prop where
  t : Touch (fun x => x = R) w w'
  r : Rd w' R a n cap bs q
  i : Ints w' a' n' zs
  h4 : n' ≤ 4
  h1 : 1 ≤ n'
  lo : ∀ b o, a' = some ⟨b, o, none⟩ → w.heap.size ≤ b
  q0 : p ≤ q
  q1 : q ≤ p + 8
theorem Dn.hi {w w' : World} {R : Nat} {a : Option Addr} {n cap : Nat} {bs : List Int} {p q : Int} {a' : Option Addr} {n' : Nat} {zs : List Int} (h : Dn w w' R a n cap bs p q a' n' zs) : ∀ b o, a' = some ⟨b, o, none⟩ → b < w'.heap.size := fun b o e => by
  obtain ⟨b', o', e', hc⟩ := h.i.2 0 (by have := h.h1; omega)
  rw [e] at e'
  simp only [Option.some.injEq, Addr.mk.injEq, and_true] at e'
  have := block_lt hc
  omega
theorem J.setR {w W : World} {R : Nat} {a : Option Addr} {n cap : Nat} {bs : List Int} {p : Int} {v : Value} {xs : List Int} (j : J w R a n cap bs p v xs W) {g : Nat} (hg : w.heap.size ≤ g) (i : Nat) (x : Value) : Rd (W.setCell ⟨g, i, none⟩ x) R a n cap bs p := by
  have lR := j.lR
  have T : Touch (fun x => x = g) W (W.setCell ⟨g, i, none⟩ x) := Touch.setCell (S := fun x => x = g) (Touch.refl _ _) rfl _
  exact j.r.touch T (by omega) (fun h0 b o hab => by have := j.lb h0 b o hab; omega)

def tabV : List Int := [0, 1, 5, 20, -3, 60, 10000, -10000, 9996]

set_option maxHeartbeats 1600000 in
theorem vals_gen (R : Nat) (a : Option Addr) (n cap : Nat) (bs : List Int) (p N : Int) (w : World) (hR : Rd w R a n cap bs p) (hp : 0 ≤ p) (hp1 : p ≤ 9000000) (hN : 1 ≤ N) (hN1 : N ≤ 1000) (hlb : 0 < n → ∀ b o, a = some ⟨b, o, none⟩ → b < w.heap.size) :
    Calls Try.prog 30 #[.pointer (some ⟨R, 0, none⟩), .int .i64 N] w fun e w' => ∃ a' n' cap' zs q, e = .returned (.slice a' n' cap') ∧ Dn w w' R a n cap bs p q a' n' zs := by
  have lR := hR.c.lt
  obtain ⟨i0, hi, hz0, hz1, hz2⟩ := info_parts Try.infoInt
  go_enter Try.func30, Try.ntmps30
  go_wp2_with fail
  go_loopw [5, 6] (fun v i wr => ∃ k : Nat, k ≤ 3 ∧ i = .int .i64 k ∧ ∃ xs : List Int, xs.length = k ∧ J w R a n cap bs (p + k) v xs wr) (fun _ i _ => 3 - (intOf i).toNat)
  case atStart =>
    exact ⟨0, by omega, rfl, [], rfl, by rw [show p + ((0 : Nat) : Int) = p by omega]; exact ⟨Touch.of ((Below.refl _ _).alloc (Nat.le_refl _) _), hR.below ((Below.refl _ _).alloc (Nat.le_refl _) _), World.ownsRow_lit w #[] 0 (Nat.le_refl _) (by unfold maxLen; omega) rfl, lR, hlb⟩⟩
  case round =>
    obtain ⟨k, hk, rfl, xs, hxs, j⟩ := hrel
    have HX : Hid (xs.length = k) := hxs
    clear hxs
    by_cases hlt : k < 3
    · go_wp2_with fail
      refine (pick_any R a n cap bs (p + k) 9 _ (j.alloc _).r (by omega) (by omega) (by omega) (by omega)).mono ?_
      rintro e w1 ⟨r, r0, r9, rfl, t1, R1⟩
      have j1 := (j.alloc _).pick t1 R1
      have tb := (Cel.new wr _ _).touch t1 (by have := j.t.size; omega)
      obtain ⟨rn, rfl⟩ := Int.eq_ofNat_of_zero_le r0
      have ct : w1.cell? ⟨wr.heap.size, rn, none⟩ = some (.int .i64 (tabV[rn]?.getD 0)) := by
        rw [tb.cell rn]
        match rn, r9 with
        | 0, _ => rfl
        | 1, _ => rfl
        | 2, _ => rfl
        | 3, _ => rfl
        | 4, _ => rfl
        | 5, _ => rfl
        | 6, _ => rfl
        | 7, _ => rfl
        | 8, _ => rfl
        | (m + 9), h => omega
      have hw := j1.t.size
      clear t1 R1 tb j
      go_wp2_with (at_builtin; refine wpList_append_own _ rfl (.tmp 12) (.tmp 18) 26 rfl w.heap.size 3 i0 (.int .i64 0) 1 8 Try.underlying26 hi hz0 hz1 hz2 rfl (by decide) _ _ _ rfl (j1.alloc _).o ⟨w1.heap.size, 0, none⟩ 1 1 [.int .i64 (tabV[rn]?.getD 0)] rfl rfl ?c1 ?c2 ?c3 ?c4 ?c5 ?_)
      case c1 =>
        intro i u hu
        match i, hu with
        | 0, hu => simp at hu; subst hu; simp [Addr.add]
      case c2 => intro u hu; simp at hu; subst hu; rfl
      case c3 => rw [HX.out]; unfold maxLen; omega
      case c4 => rw [HX.out]; omega
      case c5 => simp; omega
      intro v' w2 hown' hgrow _
      have j2 : J w R a n cap bs (p + k + 1) v' (xs ++ [tabV[rn]?.getD 0]) w2 := (j1.alloc _).own (by simpa using hown') hgrow
      clear hown' hgrow j1
      go_wp2
      go_roundw
      case rel => exact ⟨k + 1, by omega, by go_num, xs ++ [tabV[rn]?.getD 0], by rw [List.length_append, HX.out]; rfl, by have h := j2; rw [show p + (k : Int) + 1 = p + ((k + 1 : Nat) : Int) by omega] at h; exact h⟩
      case measure => simp [intOf]; omega
    · obtain rfl : k = 3 := by omega
      clear hlb hR
      have wW := j.t.size
      go_wp2_with fail
      refine (pick_any R a n cap bs (p + ((3 : Nat) : Int)) N _ j.r (by omega) (by omega) (by omega) (by omega)).mono ?_
      rintro e w1 ⟨r, r0, r2, rfl, t1, R1⟩
      have j1 := j.pick t1 R1
      clear t1 R1 j
      by_cases hr : r = 0
      · subst hr
        go_wp2_with fail
        refine (pick_any R a n cap bs (p + ((3 : Nat) : Int) + 1) 3 _ j1.r (by omega) (by omega) (by omega) (by omega)).mono ?_
        rintro e w2 ⟨s, s0, s3, rfl, t2, R2⟩
        have j2 := j1.pick t2 R2
        clear t2 R2 j1
        obtain ⟨g, cap', hv, hcap, hg, hI, hfz⟩ := j2.ints (by rw [HX.out]; omega)
        rw [HX.out] at hv hcap hI
        subst hv
        rcases (show s = 0 ∨ s = 1 ∨ s = 2 from by omega) with rfl | rfl | rfl
        · go_wp2
          go_ret
          exact ⟨_, 2, cap', xs.take 2, _, rfl, j2.t, j2.r, ⟨by rw [List.length_take, HX.out]; rfl, fun i hi => by obtain ⟨b, o, h1, h2⟩ := hI.2 i (by omega); exact ⟨b, o, h1, by rw [h2]; simp [hi]⟩⟩, by omega, by first | omega | simp, fun b o e => by simp only [Option.some.injEq, Addr.mk.injEq] at e; omega, by omega, by omega⟩
        · go_wp2_with (at_builtin; refine wpList_append_own _ rfl (.tmp 41) (.tmp 42) 26 rfl w.heap.size 3 i0 (.int .i64 0) 1 8 Try.underlying26 hi hz0 hz1 hz2 rfl (by decide) _ _ _ rfl (j2.alloc _).o ⟨w2.heap.size, 0, none⟩ 1 1 [.int .i64 0] rfl rfl ?d1 ?d2 ?d3 ?d4 ?d5 ?_)
          case d1 =>
            intro i u hu
            match i, hu with
            | 0, hu => simp at hu; subst hu; simp [Addr.add]
          case d2 => intro u hu; simp at hu; subst hu; rfl
          case d3 => rw [HX.out]; unfold maxLen; omega
          case d4 => rw [HX.out]; omega
          case d5 => have := j2.t.size; simp; omega
          intro v' w3 hown' hgrow _
          have j3 : J w R a n cap bs (p + ((3 : Nat) : Int) + 1 + 1) v' (xs ++ [0]) w3 := (j2.alloc _).own (by simpa using hown') hgrow
          obtain ⟨g', cap2, hv', hcap2, hg', hI', hfz'⟩ := j3.ints (by rw [List.length_append]; simp)
          have hl : (xs ++ [0]).length = 4 := by rw [List.length_append, HX.out]; rfl
          rw [hl] at hv' hcap2 hI'
          subst hv'
          clear hown' hgrow j2 hI hfz
          go_wp2
          go_ret
          exact ⟨_, 4, cap2, _, _, rfl, j3.t, j3.r, hI', by omega, by first | omega | simp, fun b o e => by simp only [Option.some.injEq, Addr.mk.injEq] at e; omega, by omega, by omega⟩
        · go_wp2_with fail
          refine (pick_any R a n cap bs (p + ((3 : Nat) : Int) + 1 + 1) 3 _ j2.r (by omega) (by omega) (by omega) (by omega)).mono ?_
          rintro e w3 ⟨s, s0, s3, rfl, t3, R3⟩
          have j3 := j2.pick t3 R3
          obtain ⟨sn, rfl⟩ := Int.eq_ofNat_of_zero_le s0
          clear t3 R3 j2 hI hfz
          go_wp2_with fail
          refine (pick_any R a n cap bs (p + ((3 : Nat) : Int) + 1 + 1 + 1) 2 _ (j3.alloc _).r (by omega) (by omega) (by omega) (by omega)).mono ?_
          rintro e w4 ⟨u, u0, u2, rfl, t4, R4⟩
          have j4 := (j3.alloc _).pick t4 R4
          have tb := (Cel.new w3 _ _).touch t4 (by have := j3.t.size; omega)
          obtain ⟨un, rfl⟩ := Int.eq_ofNat_of_zero_le u0
          have ct : w4.cell? ⟨w3.heap.size, un, none⟩ = some (.int .i64 ([10001, -10001][un]?.getD 0)) := by
            rw [tb.cell un]
            match un, u2 with
            | 0, _ => rfl
            | 1, _ => rfl
            | (m + 2), h => omega
          obtain ⟨g2, cap2, hv2, hcap2, hg2, hI2, hfz2⟩ := j4.ints (by rw [HX.out]; omega)
          rw [HX.out] at hv2 hcap2 hI2
          simp only [Value.slice.injEq, Option.some.injEq, Addr.mk.injEq, and_true, true_and] at hv2
          obtain ⟨rfl, rfl⟩ := hv2
          have cg : w4.cell? ⟨g, sn, none⟩ = some (.int .i64 (xs[sn]?.getD 0)) := by
            obtain ⟨b, o, e1, hh⟩ := hI2.2 sn (by omega)
            simp only [Option.some.injEq, Addr.mk.injEq, and_true] at e1
            obtain ⟨rfl, rfl⟩ := e1
            simpa using hh
          have fg := hfz2 sn
          have IS := ints_set hI2 (s := sn) (by omega) ([10001, -10001][un]?.getD 0)
          have TS := j4.t.setNewD hg2 sn (.int .i64 ([10001, -10001][un]?.getD 0))
          have RS := j4.setR hg2 sn (.int .i64 ([10001, -10001][un]?.getD 0))
          clear t4 R4 j3 j4 tb hI2 hfz2
          go_wp2
          go_ret
          exact ⟨_, 3, cap', _, _, rfl, TS, RS, IS, by omega, by first | omega | simp, fun b o e => by simp only [Option.some.injEq, Addr.mk.injEq] at e; omega, by omega, by omega⟩
      · obtain ⟨g, cap', hv, hcap, hg, hI, hfz⟩ := j1.ints (by rw [HX.out]; omega)
        rw [HX.out] at hv hcap hI
        subst hv
        have hr' : (r == 0) = false := by simpa using hr
        go_wp2
        go_ret
        exact ⟨_, 3, cap', xs, _, rfl, j1.t, j1.r, hI, by omega, by first | omega | simp, fun b o e => by simp only [Option.some.injEq, Addr.mk.injEq] at e; omega, by omega, by omega⟩

theorem J.start {w : World} {R : Nat} {a : Option Addr} {n cap : Nat} {bs : List Int} {p : Int} (hR : Rd w R a n cap bs p) (hlb : 0 < n → ∀ b o, a = some ⟨b, o, none⟩ → b < w.heap.size) : J w R a n cap bs p (.slice none 0 0) [] w :=
  ⟨Touch.refl _ _, hR, World.ownsRow_nil _ _ _ _, hR.c.lt, hlb⟩
theorem J.lit {w W : World} {R : Nat} {a : Option Addr} {n cap : Nat} {bs : List Int} {p : Int} {v : Value} {xs : List Int} (j : J w R a n cap bs p v xs W) (x y : Int) : J w R a n cap bs p (.slice (some ⟨W.heap.size, 0, none⟩) 2 2) [x, y] (W.alloc (.cells #[.int .i64 x, .int .i64 y] 3)) :=
  ⟨(j.alloc _).t, (j.alloc _).r, World.ownsRow_lit W #[.int .i64 x, .int .i64 y] 2 j.t.size (by unfold maxLen; omega) rfl, j.lR, j.lb⟩

set_option maxHeartbeats 1600000 in
theorem args_gen (R : Nat) (a : Option Addr) (n cap : Nat) (bs : List Int) (p N : Int) (w : World) (hR : Rd w R a n cap bs p) (hp : 0 ≤ p) (hp1 : p ≤ 9000000) (hN : 1 ≤ N) (hN1 : N ≤ 1000) (hlb : 0 < n → ∀ b o, a = some ⟨b, o, none⟩ → b < w.heap.size) :
    Calls Try.prog 31 #[.pointer (some ⟨R, 0, none⟩), .int .i64 N] w fun e w' => ∃ a' n' cap' zs q, e = .returned (.slice a' n' cap') ∧ Dn w w' R a n cap bs p q a' n' zs := by
  have j := J.start hR hlb
  obtain ⟨i0, hi, hz0, hz1, hz2⟩ := info_parts Try.infoInt
  clear hR hlb
  go_enter Try.func31, Try.ntmps31
  go_wp2_with fail
  refine (pick_any R a n cap bs p 19 _ j.r (by omega) (by omega) (by omega) (by omega)).mono ?_
  rintro e w1 ⟨x, x0, x1, rfl, t1, R1⟩
  have j1 := j.pick t1 R1
  clear t1 R1 j
  go_wp2_with fail
  refine (pick_any R a n cap bs (p + 1) 19 _ j1.r (by omega) (by omega) (by omega) (by omega)).mono ?_
  rintro e w2 ⟨y, y0, y1, rfl, t2, R2⟩
  have j2 := (j1.pick t2 R2).lit (x - 9) (y - 9)
  have lw2 := (j1.pick t2 R2).t.size
  clear t2 R2 j1
  go_wp2_with fail
  refine (pick_any R a n cap bs (p + 1 + 1) N _ j2.r (by omega) (by omega) (by omega) (by omega)).mono ?_
  rintro e w3 ⟨r, r0, r2, rfl, t3, R3⟩
  have j3 := j2.pick t3 R3
  clear t3 R3 j2
  by_cases hr : r = 0
  · subst hr
    go_wp2_with fail
    refine (pick_any R a n cap bs (p + 1 + 1 + 1) 3 _ j3.r (by omega) (by omega) (by omega) (by omega)).mono ?_
    rintro e w4 ⟨s, s0, s3, rfl, t4, R4⟩
    have j4 := j3.pick t4 R4
    clear t4 R4 j3
    obtain ⟨g, cap', hv, hcap, hg, hI, hfz⟩ := j4.ints (by simp)
    simp only [Value.slice.injEq, Option.some.injEq, Addr.mk.injEq, and_true, true_and, List.length_cons, List.length_nil] at hv
    obtain ⟨rfl, _, rfl⟩ := hv
    rcases (show s = 0 ∨ s = 1 ∨ s = 2 from by omega) with rfl | rfl | rfl
    · go_wp2
      go_ret
      refine ⟨_, 1, 2, [x - 9], _, rfl, j4.t, j4.r, ⟨rfl, fun i hi => ?_⟩, by omega, by first | omega | simp, fun b o e => by simp only [Option.some.injEq, Addr.mk.injEq] at e; omega, by omega, by omega⟩
      obtain rfl : i = 0 := by omega
      obtain ⟨b, o, h1, h2⟩ := hI.2 0 (by simp)
      exact ⟨b, o, h1, h2⟩
    · go_wp2_with (at_builtin; refine wpList_append_own _ rfl (.tmp 34) (.tmp 35) 26 rfl w.heap.size 3 i0 (.int .i64 0) 1 8 Try.underlying26 hi hz0 hz1 hz2 rfl (by decide) _ _ _ rfl (j4.alloc _).o ⟨w4.heap.size, 0, none⟩ 1 1 [.int .i64 0] rfl rfl ?d1 ?d2 ?d3 ?d4 ?d5 ?_)
      case d1 =>
        intro i u hu
        match i, hu with
        | 0, hu => simp at hu; subst hu; simp [Addr.add]
      case d2 => intro u hu; simp at hu; subst hu; rfl
      case d3 => unfold maxLen; simp
      case d4 => simp
      case d5 => have := j4.t.size; simp; omega
      intro v' w5 hown' hgrow _
      have j5 : J w R a n cap bs (p + 1 + 1 + 1 + 1) v' ([x - 9, y - 9] ++ [0]) w5 := (j4.alloc _).own (by simpa using hown') hgrow
      obtain ⟨g', cap2, hv', hcap2, hg', hI', hfz'⟩ := j5.ints (by simp)
      subst hv'
      clear hown' hgrow j4 hI hfz
      go_wp2
      go_ret
      exact ⟨_, _, cap2, _, _, rfl, j5.t, j5.r, hI', by simp, by first | omega | simp, fun b o e => by simp only [Option.some.injEq, Addr.mk.injEq] at e; omega, by omega, by omega⟩
    · go_wp2_with fail
      refine (pick_any R a n cap bs (p + 1 + 1 + 1 + 1) 2 _ j4.r (by omega) (by omega) (by omega) (by omega)).mono ?_
      rintro e w5 ⟨s, s0, s3, rfl, t5, R5⟩
      have j5 := j4.pick t5 R5
      obtain ⟨sn, rfl⟩ := Int.eq_ofNat_of_zero_le s0
      clear t5 R5 j4 hI hfz
      go_wp2_with fail
      refine (pick_any R a n cap bs (p + 1 + 1 + 1 + 1 + 1) 2 _ (j5.alloc _).r (by omega) (by omega) (by omega) (by omega)).mono ?_
      rintro e w6 ⟨u, u0, u2, rfl, t6, R6⟩
      have j6 := (j5.alloc _).pick t6 R6
      have tb := (Cel.new w5 _ _).touch t6 (by have := j5.t.size; have := j5.lR; omega)
      obtain ⟨un, rfl⟩ := Int.eq_ofNat_of_zero_le u0
      have ct : w6.cell? ⟨w5.heap.size, un, none⟩ = some (.int .i64 ([10, -10][un]?.getD 0)) := by
        rw [tb.cell un]
        match un, u2 with
        | 0, _ => rfl
        | 1, _ => rfl
        | (m + 2), h => omega
      obtain ⟨g2, cap2, hv2, hcap2, hg2, hI2, hfz2⟩ := j6.ints (by simp)
      simp only [Value.slice.injEq, Option.some.injEq, Addr.mk.injEq, and_true, true_and, List.length_cons, List.length_nil] at hv2
      obtain ⟨rfl, _, rfl⟩ := hv2
      simp only [List.length_cons, List.length_nil] at hI2
      have cg : w6.cell? ⟨w2.heap.size, sn, none⟩ = some (.int .i64 ([x - 9, y - 9][sn]?.getD 0)) := by
        obtain ⟨b, o, e1, hh⟩ := hI2.2 sn (by omega)
        simp only [Option.some.injEq, Addr.mk.injEq, and_true] at e1
        obtain ⟨rfl, rfl⟩ := e1
        simpa using hh
      have fg := hfz2 sn
      have IS := ints_set hI2 (s := sn) (by omega) ([10, -10][un]?.getD 0)
      have TS := j6.t.setNewD hg2 sn (.int .i64 ([10, -10][un]?.getD 0))
      have RS := j6.setR hg2 sn (.int .i64 ([10, -10][un]?.getD 0))
      clear t6 R6 j5 j6 tb hI2 hfz2
      go_wp2
      go_ret
      exact ⟨_, _, 2, _, _, rfl, TS, RS, IS, by omega, by first | omega | simp, fun b o e => by simp only [Option.some.injEq, Addr.mk.injEq] at e; omega, by omega, by omega⟩
  · obtain ⟨g, cap', hv, hcap, hg, hI, hfz⟩ := j3.ints (by simp)
    simp only [Value.slice.injEq, Option.some.injEq, Addr.mk.injEq, and_true, true_and, List.length_cons, List.length_nil] at hv
    obtain ⟨rfl, _, rfl⟩ := hv
    have hr' : (r == 0) = false := by simpa using hr
    go_wp2
    go_ret
    exact ⟨_, _, 2, _, _, rfl, j3.t, j3.r, hI, by simp, by first | omega | simp, fun b o e => by simp only [Option.some.injEq, Addr.mk.injEq] at e; omega, by omega, by omega⟩

end Go.Proofs.Ytemcinobgdphnaa
namespace Go.Proofs.Ytemcinobgdphnaa
open Go.RowKit
set_option linter.unusedVariables false
set_option maxRecDepth 100000

/-- A form was drawn: its lists lie in new memory, the reader has gone on. -/
structure FmN (w w' : World) (R : Nat) (a : Option Addr) (n cap : Nat) (bs : List Int) (p q : Int) (B1 nC B2 nD : Nat) (C D : List Int) : Prop where
  t : Touch (fun x => x = R) w w'
  r : Rd w' R a n cap bs q
  c : Ints w' (some ⟨B1, 0, none⟩) nC C
  d : Ints w' (some ⟨B2, 0, none⟩) nD D
  c4 : nC ≤ 4
  d4 : nD ≤ 4
  c1 : 1 ≤ nC
  d1 : 1 ≤ nD
  b1 : w.heap.size ≤ B1
  b2 : w.heap.size ≤ B2
  q0 : p ≤ q
  q1 : q ≤ p + 20
theorem Blk.own {W : World} {B base n : Nat} {zs : List Int} (h : Blk W B zs) (hl : zs.length = n) (hb : base ≤ B) (hn : n ≤ 1000) : W.ownsRow base 3 1 (.slice (some ⟨B, 0, none⟩) n n) n (zs.map (Value.int .i64)) := by
  subst hl
  exact ⟨by simp, .inr ⟨B, zs.length, _, rfl, hb, h, Nat.le_refl _, by unfold maxLen; omega, by simp, by rw [List.take_of_length_le (by simp)]⟩⟩
theorem Ints.setFar {W : World} {a : Option Addr} {n B : Nat} {zs : List Int} (h : Ints W a n zs) (hB : ∀ b o, a = some ⟨b, o, none⟩ → b ≠ B) (i : Nat) (v : Value) : Ints (W.setCell ⟨B, i, none⟩ v) a n zs := by
  refine ⟨h.1, fun k hk => ?_⟩
  obtain ⟨b, off, e, hc⟩ := h.2 k hk
  exact ⟨b, off, e, (World.cell?_of_block (Below.heap_setCell W ⟨B, i, none⟩ v b (hB b off e))).trans hc⟩
theorem Ints.cut {W : World} {a : Option Addr} {n k : Nat} {zs : List Int} (h : Ints W a n zs) (hk : k ≤ n) : Ints W a k (zs.take k) := by
  refine ⟨by rw [List.length_take, h.1]; omega, fun i hi => ?_⟩
  obtain ⟨b, off, e, hc⟩ := h.2 i (by omega)
  exact ⟨b, off, e, by rw [hc]; simp [hi]⟩
theorem FmN.set {w W : World} {R : Nat} {a : Option Addr} {n cap : Nat} {bs : List Int} {p q : Int} {B1 nC B2 nD : Nat} {C D : List Int} (h : FmN w W R a n cap bs p q B1 nC B2 nD C D) {B : Nat} (hB : w.heap.size ≤ B) (h1 : B1 ≠ B) (h2 : B2 ≠ B) (hR : R < w.heap.size) (ha : 0 < n → ∀ b o, a = some ⟨b, o, none⟩ → b < w.heap.size) (i : Nat) (v : Value) : FmN w (W.setCell ⟨B, i, none⟩ v) R a n cap bs p q B1 nC B2 nD C D :=
  ⟨h.t.setNewF hB i v, h.r.setNew (by omega) (fun h0 b o e => by have := ha h0 b o e; omega) i v, h.c.setFar (fun b o e => by simp only [Option.some.injEq, Addr.mk.injEq] at e; omega) i v, h.d.setFar (fun b o e => by simp only [Option.some.injEq, Addr.mk.injEq] at e; omega) i v, h.c4, h.d4, h.c1, h.d1, h.b1, h.b2, h.q0, h.q1⟩
theorem bnd.up {M N : Int} {zs : List Int} (h : bnd M zs) (hM : M ≤ N) : bnd N zs := fun i => by have := h i; omega
theorem litF_4 (j : Nat) (hj : j < 4) : -10000001 ≤ ([10000000, -10000000, 1000, 77] : List Int)[j]?.getD 0 ∧ ([10000000, -10000000, 1000, 77] : List Int)[j]?.getD 0 ≤ 10000001 := by
  rcases j with _ | _ | _ | _ | j <;> first | omega | simp
theorem litF_2 (j : Nat) (hj : j < 2) : -10000001 ≤ ([10000001, -10000001] : List Int)[j]?.getD 0 ∧ ([10000001, -10000001] : List Int)[j]?.getD 0 ≤ 10000001 := by
  rcases j with _ | _ | _ | _ | j <;> first | omega | simp
theorem litF_3 (j : Nat) (hj : j < 3) : -10000001 ≤ ([10000001, -10000001, 10000000] : List Int)[j]?.getD 0 ∧ ([10000001, -10000001, 10000000] : List Int)[j]?.getD 0 ≤ 10000001 := by
  rcases j with _ | _ | _ | _ | j <;> first | omega | simp

set_option maxHeartbeats 12800000 in
theorem form_f (R : Nat) (a : Option Addr) (n cap : Nat) (bs : List Int) (p N : Int) (w : World) (hR : Rd w R a n cap bs p) (hp : 0 ≤ p) (hp1 : p ≤ 8000000) (hN : 1 ≤ N) (hN1 : N ≤ 1000) (ha : 0 < n → ∀ b o, a = some ⟨b, o, none⟩ → b < w.heap.size) :
    Calls Try.prog 60 #[.pointer (some ⟨R, 0, none⟩), .int .i64 N] w fun e w' => ∃ B1 nC cC B2 nD cD K C D q, e = .returned (formV (some ⟨B1, 0, none⟩) nC cC (some ⟨B2, 0, none⟩) nD cD K) ∧ FmN w w' R a n cap bs p q B1 nC B2 nD C D := by
  have hRl := hR.c.lt
  have bx := Cel.new w [.slice none 0 0, .slice none 0 0, .int .i64 0] 34
  have B0 := (Below.refl w.heap.size w).alloc (Nat.le_refl _) (.cells #[.slice none 0 0, .slice none 0 0, .int .i64 0] 34)
  obtain ⟨i0, hi, hz0, hz1, hz2⟩ := info_parts Try.infoInt
  go_enter Try.func60, Try.ntmps60
  go_wp2_with fail
  refine (small_f R a n cap bs p _ (hR.below B0) hp (by omega) (fun h0 b o e => by have := ha h0 b o e; have := B0.size; omega)).mono ?_
  rintro e w1 ⟨B1, B2, C, D, K, rfl, t1, R1, f1, s1, s2, s3, s4⟩
  have al := (Below.refl w1.heap.size w1).alloc (Nat.le_refl _) (.cells #[.slice (some ⟨B1, 0, none⟩) 3 3, .slice (some ⟨B2, 0, none⟩) 2 2, .int .i64 K] 34)
  have z1 := f1.b1
  have z2 := f1.b2
  have z3 := t1.size
  rw [World.size_alloc] at z1 z2 z3
  have lt1 := f1.k1.lt
  have lt2 := f1.k2.lt
  have s0 : SmI w (w1.alloc (.cells #[.slice (some ⟨B1, 0, none⟩) 3 3, .slice (some ⟨B2, 0, none⟩) 2 2, .int .i64 K] 34)) R a n cap bs (p + 6) w1.heap.size B1 B2 C D K 10000001 :=
    ⟨((Touch.of B0).trans t1).trans (Touch.of al), R1.below al, (f1.below al).mono (by rw [World.size_alloc]; omega), Cel.new w1 _ _, (bx.touch t1 (by omega)).below al, by omega, by omega, by omega, hRl, ha, s1.up (by omega), s2.up (by omega)⟩
  obtain ⟨fb, hfb⟩ : ∃ x, x = w1.heap.size := ⟨_, rfl⟩
  obtain ⟨W2, hW2⟩ : ∃ W, W = w1.alloc (.cells #[.slice (some ⟨B1, 0, none⟩) 3 3, .slice (some ⟨B2, 0, none⟩) 2 2, .int .i64 K] 34) := ⟨_, rfl⟩
  rw [← hfb, ← hW2] at s0
  go_wp2_with fail
  rw [← hfb, ← hW2]
  clear hfb hW2 hR bx B0 t1 R1 f1 al z1 z2 z3 lt1 lt2 s1 s2
  refine (pick_any R a n cap bs (p + 6) 4 _ s0.r (by omega) (by omega) (by omega) (by omega)).mono ?_
  rintro e w3 ⟨r, r0, r1, rfl, t3, R3⟩
  have s := s0.pick t3 R3
  clear s0 t3 R3
  go_upto_if 10 with fail
  go_cut [] (fun wx => ∃ C q, SmI w wx R a n cap bs q fb B1 B2 C D K 10000001 ∧ p ≤ q ∧ q ≤ p + 9)
  case first =>
    by_cases hr : r = 0
    · have hr' : (r == 0) = true := by simpa using hr
      go_upto_region 3 with fail
      clear hr hr' r0 r1
      refine wp_region_ends (fun X => X.cell? ⟨fb, 0, none⟩ = some (.slice (some ⟨B1, 0, none⟩) 3 3)) (fun _ => True) 10 (by kernel_rfl) ?_
      have sd := s.below ((Below.refl _ _).drew)
      obtain ⟨V0, hV0⟩ : ∃ V, V = w3.drew := ⟨_, rfl⟩
      rw [← hV0] at sd ⊢
      clear hV0 s
      have hS0 : (fun X : World => X.cell? ⟨fb, 0, none⟩ = some (.slice (some ⟨B1, 0, none⟩) 3 3)) V0 ∧ True := ⟨sd.cb.cell 0, trivial⟩
      refine tkL (i := 0) rfl hS0 ?_
      refine tkL (i := 1) rfl hS0 ?_
      refine tkL (i := 2) rfl hS0 ?_
      refine tkL (i := 5) rfl hS0 ?_
      clear hS0
      refine wpAnyE_two (i := 3) (j := 4) (by kernel_rfl) rfl rfl (fun Kn hK => ?_) (fun Kn hK => ?_)
      · go_simp
        refine (pick_any R a n cap bs _ 3 _ sd.r (by omega) (by omega) (by omega) (by omega)).mono ?_
        rintro e wA ⟨ri, r0, r1, rfl, t5, R5⟩
        obtain ⟨i, rfl⟩ := Int.eq_ofNat_of_zero_le r0
        have hi : i < 3 := by omega
        have hi' : (i : Int) < 3 := by omega
        clear r0 r1
        have sa := sd.pick t5 R5
        clear t5 R5
        dsimp only
        refine hK.out _ _ ⟨sa.cb.cell 0, fun _ => trivial⟩ ?_
        clear hK
        refine wpAnyE_two (i := 4) (j := 6) (by kernel_rfl) rfl rfl (fun Kn hK => ?_) (fun Kn hK => ?_)
        · go_simp
          have al := (Below.refl wA.heap.size wA).alloc (Nat.le_refl _) (.cells #[.int .i64 10000000, .int .i64 (-10000000), .int .i64 1000, .int .i64 77] 3)
          have lb := Cel.new wA [.int .i64 10000000, .int .i64 (-10000000), .int .i64 1000, .int .i64 77] 3
          have sb := sa.below al
          clear al
          refine hK.out _ _ ⟨sb.cb.cell 0, fun _ => trivial⟩ ?_
          clear hK
          refine wpAnyE_one (i := 6) (by kernel_rfl) rfl (fun Kn hK => ?_)
          go_simp
          refine (pick_any R a n cap bs _ 4 _ sb.r (by omega) (by omega) (by omega) (by omega)).mono ?_
          rintro e wB ⟨rj, r0, r1, rfl, t5, R5⟩
          obtain ⟨j, rfl⟩ := Int.eq_ofNat_of_zero_le r0
          have hj : j < 4 := by omega
          have hj' : (j : Int) < 4 := by omega
          clear r0 r1
          have sc := sb.pick t5 R5
          replace lb := lb.touch t5 (by have h1 := sa.hR; have h2 := sa.t.size; omega)
          clear t5 R5
          dsimp only
          refine hK.out _ _ ⟨sc.cb.cell 0, fun _ => trivial⟩ ?_
          clear hK
          have hS5 : (fun X : World => X.cell? ⟨fb, 0, none⟩ = some (.slice (some ⟨B1, 0, none⟩) 3 3)) wB ∧ True := ⟨sc.cb.cell 0, trivial⟩
          refine tkL (i := 7) rfl hS5 ?_
          have hc := lit_cell (xs := [10000000, -10000000, 1000, 77]) lb hj
          have hy := litF_4 j hj
          generalize ([10000000, -10000000, 1000, 77] : List Int)[j]?.getD 0 = y at hc hy
          refine wpAnyE_one (i := 8) (by kernel_rfl) rfl (fun Kn hK => ?_)
          go_simp
          refine hK.out _ _ ⟨sc.cb.cell 0, fun _ => trivial⟩ ?_
          clear hK
          refine tkL (i := 9) rfl hS5 ?_
          have s6 := sc.setC i hy.1 hy.2
          have kc := sc.f.k1.cell i (by rw [sc.f.l1]; omega)
          have kf := sc.f.k1.free i
          have kl := sc.f.k1.lt
          refine wpAnyE_one (i := 10) (by kernel_rfl) rfl (fun Kn hK => ?_)
          go_simp
          refine hK.out _ _ ⟨s6.cb.cell 0, fun _ => trivial⟩ ?_
          clear hK
          refine wpAnyE_done (by kernel_rfl) ?_ _
          clear hS5 hc kc kf lb
          go_wp2
          go_meet
          case rel => exact ⟨_, _, s6, by omega, by omega⟩
        · go_simp
          refine (pick_any R a n cap bs _ 4 _ sa.r (by omega) (by omega) (by omega) (by omega)).mono ?_
          rintro e wB ⟨rj, r0, r1, rfl, t5, R5⟩
          obtain ⟨j, rfl⟩ := Int.eq_ofNat_of_zero_le r0
          have hj : j < 4 := by omega
          have hj' : (j : Int) < 4 := by omega
          clear r0 r1
          have sb := sa.pick t5 R5
          clear t5 R5
          dsimp only
          refine hK.out _ _ ⟨sb.cb.cell 0, fun _ => trivial⟩ ?_
          clear hK
          refine wpAnyE_one (i := 4) (by kernel_rfl) rfl (fun Kn hK => ?_)
          go_simp
          have al := (Below.refl wB.heap.size wB).alloc (Nat.le_refl _) (.cells #[.int .i64 10000000, .int .i64 (-10000000), .int .i64 1000, .int .i64 77] 3)
          have lb := Cel.new wB [.int .i64 10000000, .int .i64 (-10000000), .int .i64 1000, .int .i64 77] 3
          have sc := sb.below al
          clear al
          refine hK.out _ _ ⟨sc.cb.cell 0, fun _ => trivial⟩ ?_
          clear hK
          have hS5 : (fun X : World => X.cell? ⟨fb, 0, none⟩ = some (.slice (some ⟨B1, 0, none⟩) 3 3)) (wB.alloc (.cells #[.int .i64 10000000, .int .i64 (-10000000), .int .i64 1000, .int .i64 77] 3)) ∧ True := ⟨sc.cb.cell 0, trivial⟩
          refine tkL (i := 7) rfl hS5 ?_
          have hc := lit_cell (xs := [10000000, -10000000, 1000, 77]) lb hj
          have hy := litF_4 j hj
          generalize ([10000000, -10000000, 1000, 77] : List Int)[j]?.getD 0 = y at hc hy
          refine wpAnyE_one (i := 8) (by kernel_rfl) rfl (fun Kn hK => ?_)
          go_simp
          refine hK.out _ _ ⟨sc.cb.cell 0, fun _ => trivial⟩ ?_
          clear hK
          refine tkL (i := 9) rfl hS5 ?_
          have s6 := sc.setC i hy.1 hy.2
          have kc := sc.f.k1.cell i (by rw [sc.f.l1]; omega)
          have kf := sc.f.k1.free i
          have kl := sc.f.k1.lt
          refine wpAnyE_one (i := 10) (by kernel_rfl) rfl (fun Kn hK => ?_)
          go_simp
          refine hK.out _ _ ⟨s6.cb.cell 0, fun _ => trivial⟩ ?_
          clear hK
          refine wpAnyE_done (by kernel_rfl) ?_ _
          clear hS5 hc kc kf lb
          go_wp2
          go_meet
          case rel => exact ⟨_, _, s6, by omega, by omega⟩
      · go_simp
        have al := (Below.refl V0.heap.size V0).alloc (Nat.le_refl _) (.cells #[.int .i64 10000000, .int .i64 (-10000000), .int .i64 1000, .int .i64 77] 3)
        have lb := Cel.new V0 [.int .i64 10000000, .int .i64 (-10000000), .int .i64 1000, .int .i64 77] 3
        have sa := sd.below al
        clear al
        refine hK.out _ _ ⟨sa.cb.cell 0, fun _ => trivial⟩ ?_
        clear hK
        refine wpAnyE_one (i := 3) (by kernel_rfl) rfl (fun Kn hK => ?_)
        go_simp
        refine (pick_any R a n cap bs _ 3 _ sa.r (by omega) (by omega) (by omega) (by omega)).mono ?_
        rintro e wA ⟨ri, r0, r1, rfl, t5, R5⟩
        obtain ⟨i, rfl⟩ := Int.eq_ofNat_of_zero_le r0
        have hi : i < 3 := by omega
        have hi' : (i : Int) < 3 := by omega
        clear r0 r1
        have sb := sa.pick t5 R5
        replace lb := lb.touch t5 (by have h1 := sd.hR; have h2 := sd.t.size; omega)
        clear t5 R5
        dsimp only
        refine hK.out _ _ ⟨sb.cb.cell 0, fun _ => trivial⟩ ?_
        clear hK
        refine wpAnyE_one (i := 6) (by kernel_rfl) rfl (fun Kn hK => ?_)
        go_simp
        refine (pick_any R a n cap bs _ 4 _ sb.r (by omega) (by omega) (by omega) (by omega)).mono ?_
        rintro e wB ⟨rj, r0, r1, rfl, t5, R5⟩
        obtain ⟨j, rfl⟩ := Int.eq_ofNat_of_zero_le r0
        have hj : j < 4 := by omega
        have hj' : (j : Int) < 4 := by omega
        clear r0 r1
        have sc := sb.pick t5 R5
        replace lb := lb.touch t5 (by have h1 := sd.hR; have h2 := sd.t.size; omega)
        clear t5 R5
        dsimp only
        refine hK.out _ _ ⟨sc.cb.cell 0, fun _ => trivial⟩ ?_
        clear hK
        have hS5 : (fun X : World => X.cell? ⟨fb, 0, none⟩ = some (.slice (some ⟨B1, 0, none⟩) 3 3)) wB ∧ True := ⟨sc.cb.cell 0, trivial⟩
        refine tkL (i := 7) rfl hS5 ?_
        have hc := lit_cell (xs := [10000000, -10000000, 1000, 77]) lb hj
        have hy := litF_4 j hj
        generalize ([10000000, -10000000, 1000, 77] : List Int)[j]?.getD 0 = y at hc hy
        refine wpAnyE_one (i := 8) (by kernel_rfl) rfl (fun Kn hK => ?_)
        go_simp
        refine hK.out _ _ ⟨sc.cb.cell 0, fun _ => trivial⟩ ?_
        clear hK
        refine tkL (i := 9) rfl hS5 ?_
        have s6 := sc.setC i hy.1 hy.2
        have kc := sc.f.k1.cell i (by rw [sc.f.l1]; omega)
        have kf := sc.f.k1.free i
        have kl := sc.f.k1.lt
        refine wpAnyE_one (i := 10) (by kernel_rfl) rfl (fun Kn hK => ?_)
        go_simp
        refine hK.out _ _ ⟨s6.cb.cell 0, fun _ => trivial⟩ ?_
        clear hK
        refine wpAnyE_done (by kernel_rfl) ?_ _
        clear hS5 hc kc kf lb
        go_wp2
        go_meet
        case rel => exact ⟨_, _, s6, by omega, by omega⟩
    · have hr' : (r == 0) = false := by simpa using hr
      go_wp2
      go_meet
      case rel => exact ⟨_, _, s, by omega, by omega⟩
  case rest =>
    clear s r0 r1
    obtain ⟨C, q, s0, q0, q1⟩ := hcut
    go_wp2_with fail
    refine (pick_any R a n cap bs q N _ s0.r (by omega) (by omega) (by omega) (by omega)).mono ?_
    rintro e w4 ⟨u, u0, u1, rfl, t4, R4⟩
    have s := s0.pick t4 R4
    clear s0 t4 R4
    by_cases hu : 0 < u
    · have c0 := s.cb.cell 0
      have c1 := s.cb.cell 1
      have c2 := s.cb.cell 2
      have g0 := s.rb.cell 0
      have g1 := s.rb.cell 1
      have g2 := s.rb.cell 2
      have h0 := s.rb.free 0
      have h1 := s.rb.free 1
      have h2 := s.rb.free 2
      simp only [List.getElem?_cons_zero, List.getElem?_cons_succ] at c0 c1 c2 g0 g1 g2
      have l1 := s.cb.lt
      have l2 := s.rb.lt
      have hf := s.hf
      have b1 := s.f.b1
      have b2 := s.f.b2
      have m1 : ¬ w.heap.size = fb := by omega
      have m2 : ¬ fb = w.heap.size := by omega
      go_wp2
      refine bodyPost_ret (v := formV (some ⟨B1, 0, none⟩) 3 3 (some ⟨B2, 0, none⟩) 2 2 K) (by simp [results, Try.results60, go_sem, g0, g1, g2]) rfl ⟨B1, 3, 3, B2, 2, 2, K, C, D, q + 1, rfl, ?_⟩
      exact (((FmN.mk s.t s.r (s.f.k1.ints' s.f.l1) (s.f.k2.ints' s.f.l2) (by omega) (by omega) (by omega) (by omega) (by omega) (by omega) (by omega) (by omega)).set (B := w.heap.size) (Nat.le_refl _) (by omega) (by omega) hRl ha 0 _).set (B := w.heap.size) (Nat.le_refl _) (by omega) (by omega) hRl ha 1 _).set (B := w.heap.size) (Nat.le_refl _) (by omega) (by omega) hRl ha 2 _
    · obtain rfl : u = 0 := by omega
      go_wp2_with fail
      refine (pick_any R a n cap bs (q + 1) 4 _ s.r (by omega) (by omega) (by omega) (by omega)).mono ?_
      rintro e w5 ⟨v, v0, v1, rfl, t5, R5⟩
      have s' := s.pick t5 R5
      clear s t5 R5
      have s := s'
      clear s' u0 u1 hu
      rcases (show v = 0 ∨ v = 1 ∨ v = 2 ∨ v = 3 from by omega) with rfl | rfl | rfl | rfl
      · have c0 := s.cb.cell 0
        have c1 := s.cb.cell 1
        have c2 := s.cb.cell 2
        have e0 := s.cb.free 0
        have g0 := s.rb.cell 0
        have g1 := s.rb.cell 1
        have g2 := s.rb.cell 2
        have h0 := s.rb.free 0
        have h1 := s.rb.free 1
        have h2 := s.rb.free 2
        simp only [List.getElem?_cons_zero, List.getElem?_cons_succ] at c0 c1 c2 g0 g1 g2
        have l1 := s.cb.lt
        have l2 := s.rb.lt
        have hf := s.hf
        have b1 := s.f.b1
        have b2 := s.f.b2
        have m1 : ¬ w.heap.size = fb := by omega
        have m2 : ¬ fb = w.heap.size := by omega
        go_wp2
        refine bodyPost_ret (v := formV (some ⟨B1, 0, none⟩) 2 3 (some ⟨B2, 0, none⟩) 2 2 K) (by simp [results, Try.results60, go_sem, g0, g1, g2]) rfl ⟨B1, 2, 3, B2, 2, 2, K, C.take 2, D, q + 1 + 1, rfl, ?_⟩
        exact ((((FmN.mk s.t s.r ((s.f.k1.ints' s.f.l1).cut (by omega)) (s.f.k2.ints' s.f.l2) (by omega) (by omega) (by omega) (by omega) (by omega) (by omega) (by omega) (by omega)).set (B := fb) (by omega) s.n1 s.n2 hRl ha 0 _).set (B := w.heap.size) (Nat.le_refl _) (by omega) (by omega) hRl ha 0 _).set (B := w.heap.size) (Nat.le_refl _) (by omega) (by omega) hRl ha 1 _).set (B := w.heap.size) (Nat.le_refl _) (by omega) (by omega) hRl ha 2 _
      · have al := (Below.refl w5.heap.size w5).alloc (Nat.le_refl _) (.cells #[.int .i64 0] 3)
        have sa := s.below al
        have oD := sa.f.k2.own (base := w.heap.size + 1) sa.f.l2 sa.f.b2 (by omega)
        have hsz := s.t.size
        have c1 := s.cb.cell 1
        simp only [List.getElem?_cons_zero, List.getElem?_cons_succ] at c1
        clear al s
        go_wp2_with (at_builtin; refine wpList_append_own _ rfl (.tmp 47) (.tmp 48) 26 rfl (w.heap.size + 1) 3 i0 (.int .i64 0) 1 8 Try.underlying26 hi hz0 hz1 hz2 rfl (by decide) _ _ _ rfl oD ⟨w5.heap.size, 0, none⟩ 1 1 [.int .i64 0] rfl rfl ?d1 ?d2 ?d3 ?d4 ?d5 ?_)
        case d1 =>
          intro i u hu
          match i, hu with
          | 0, hu => simp at hu; subst hu; simp [Addr.add]
        case d2 => intro u hu; simp at hu; subst hu; rfl
        case d3 => unfold maxLen; omega
        case d4 => omega
        case d5 => have := sa.hf; have := sa.cb.lt; omega
        intro v' w6 hown hgrow _
        rcases hown.2 with ⟨_, hh⟩ | ⟨g, cap', cur, rfl, hg, hh, hl, _, _, _⟩
        · omega
        have hI : Ints w6 (some ⟨g, 0, none⟩) 3 (D ++ [0]) := by
          refine ⟨by rw [List.length_append, sa.f.l2]; rfl, fun i hi => ⟨g, 0, rfl, ?_⟩⟩
          have := hown.cellAt i (by omega)
          rw [Nat.zero_add, this]
          have e2 : D.map (Value.int .i64) ++ [Value.int .i64 0] = (D ++ [0]).map (Value.int .i64) := by simp
          rw [e2, List.getElem?_map]
          have hl3 : i < (D ++ [0]).length := by rw [List.length_append, sa.f.l2]; exact hi
          rw [List.getElem?_eq_getElem hl3]
          simp [List.getElem?_eq_getElem hl3]
        have hgr : ∀ k, k < (w5.alloc (.cells #[.int .i64 0] 3)).heap.size → k ≠ B2 → w6.heap[k]? = (w5.alloc (.cells #[.int .i64 0] 3)).heap[k]? := fun k hk hne => hgrow.block k hk (fun e => hne (by simpa [Value.ownBlock] using e))
        have T6 : Touch (fun x => x = B2) (w5.alloc (.cells #[.int .i64 0] 3)) w6 := ⟨hgrow.os, hgrow.tape, hgrow.output, hgrow.size, fun k hk hs => hgr k hk hs⟩
        have b2 := sa.f.b2
        have b1 := sa.f.b1
        have t6 : Touch (fun x => x = R) w w6 := ⟨T6.os.trans sa.t.os, T6.tape.trans sa.t.tape, T6.output.trans sa.t.output, Nat.le_trans sa.t.size T6.size, fun k hk hs => (T6.block k (Nat.lt_of_lt_of_le hk sa.t.size) (by omega)).trans (sa.t.block k hk hs)⟩
        have r6 := sa.r.touch T6 (by omega) (fun h0 b o e => by have := ha h0 b o e; omega)
        have cb6 := sa.cb.touch T6 (fun e => sa.n2 e.symm)
        have rb6 := sa.rb.touch T6 (by omega)
        have C6 := (sa.f.k1.touchF T6 sa.f.ne).ints' sa.f.l1
        have hf := sa.hf
        have n1 := sa.n1
        have gfb : g ≠ fb := fun e => by
          have h1 : w6.heap[fb]? = _ := cb6
          rw [← e, hh] at h1
          simp at h1
        have gr : g ≠ w.heap.size := by omega
        have c0 := cb6.cell 0
        have c1' := cb6.cell 1
        have c2 := cb6.cell 2
        have e1 := cb6.free 1
        have r0 := rb6.cell 0
        have r1 := rb6.cell 1
        have r2 := rb6.cell 2
        have g0 := rb6.free 0
        have g1 := rb6.free 1
        have g2 := rb6.free 2
        simp only [List.getElem?_cons_zero, List.getElem?_cons_succ] at c0 c1' c2 r0 r1 r2
        have l1 := cb6.lt
        have l2 := rb6.lt
        have m1 : ¬ w.heap.size = fb := by omega
        have m2 : ¬ fb = w.heap.size := by omega
        have hq := FmN.mk (p := p) t6 r6 C6 hI (by omega) (by omega) (by omega) (by omega) (by omega) (by omega) (by omega) (by omega)
        clear hown hgrow hgr T6 oD sa c1 C6 hI r6 t6 cb6 rb6
        go_wp2
        refine bodyPost_ret (v := formV (some ⟨B1, 0, none⟩) 3 3 (some ⟨g, 0, none⟩) 3 cap' K) (by simp [results, Try.results60, go_sem, r0, r1, r2]) rfl ⟨B1, 3, 3, g, 3, cap', K, C, D ++ [0], q + 1 + 1, rfl, ?_⟩
        exact (((hq.set (B := fb) (by omega) n1 gfb hRl ha 1 _).set (B := w.heap.size) (Nat.le_refl _) (by omega) gr hRl ha 0 _).set (B := w.heap.size) (Nat.le_refl _) (by omega) gr hRl ha 1 _).set (B := w.heap.size) (Nat.le_refl _) (by omega) gr hRl ha 2 _
      · have al := (Below.refl w5.heap.size w5).alloc (Nat.le_refl _) (.cells #[.int .i64 10000001, .int .i64 (-10000001), .int .i64 10000000] 3)
        have lb0 := Cel.new w5 [.int .i64 10000001, .int .i64 (-10000001), .int .i64 10000000] 3
        have sa := s.below al
        have hRR := s.hR
        have hsz := s.t.size
        clear al s
        go_wp2_with fail
        refine (pick_any R a n cap bs _ 3 _ sa.r (by omega) (by omega) (by omega) (by omega)).mono ?_
        rintro e w6 ⟨r, r0, r1, rfl, t6, R6⟩
        obtain ⟨j, rfl⟩ := Int.eq_ofNat_of_zero_le r0
        have hj : j < 3 := by omega
        have hj' : (j : Int) < 3 := by omega
        have s := sa.pick t6 R6
        have lb := lb0.touch t6 (by omega)
        have hc := lit_cell (xs := [10000001, -10000001, 10000000]) lb hj
        generalize ([10000001, -10000001, 10000000] : List Int)[j]?.getD 0 = y at hc
        clear r0 r1 sa t6 R6 lb lb0
        have c0 := s.cb.cell 0
        have c1 := s.cb.cell 1
        have c2 := s.cb.cell 2
        have e2 := s.cb.free 2
        have g0 := s.rb.cell 0
        have g1 := s.rb.cell 1
        have g2 := s.rb.cell 2
        have h0 := s.rb.free 0
        have h1 := s.rb.free 1
        have h2 := s.rb.free 2
        simp only [List.getElem?_cons_zero, List.getElem?_cons_succ] at c0 c1 c2 g0 g1 g2
        have l1 := s.cb.lt
        have l2 := s.rb.lt
        have hf := s.hf
        have b1 := s.f.b1
        have b2 := s.f.b2
        have m1 : ¬ w.heap.size = fb := by omega
        have m2 : ¬ fb = w.heap.size := by omega
        go_wp2
        refine bodyPost_ret (v := formV (some ⟨B1, 0, none⟩) 3 3 (some ⟨B2, 0, none⟩) 2 2 y) (by simp [results, Try.results60, go_sem, g0, g1, g2]) rfl ⟨B1, 3, 3, B2, 2, 2, y, C, D, q + 1 + 1 + 1, rfl, ?_⟩
        exact ((((FmN.mk s.t s.r (s.f.k1.ints' s.f.l1) (s.f.k2.ints' s.f.l2) (by omega) (by omega) (by omega) (by omega) (by omega) (by omega) (by omega) (by omega)).set (B := fb) (by omega) s.n1 s.n2 hRl ha 2 _).set (B := w.heap.size) (Nat.le_refl _) (by omega) (by omega) hRl ha 0 _).set (B := w.heap.size) (Nat.le_refl _) (by omega) (by omega) hRl ha 1 _).set (B := w.heap.size) (Nat.le_refl _) (by omega) (by omega) hRl ha 2 _
      · go_upto_region 7 with fail
        refine wp_region_ends (fun X => X.cell? ⟨fb, 0, none⟩ = some (.slice (some ⟨B1, 0, none⟩) 3 3)) (fun _ => True) 10 (by kernel_rfl) ?_
        have sd := s.below ((Below.refl _ _).drew)
        obtain ⟨V0, hV0⟩ : ∃ V, V = w5.drew := ⟨_, rfl⟩
        rw [← hV0] at sd ⊢
        clear hV0 s
        have hS0 : (fun X : World => X.cell? ⟨fb, 0, none⟩ = some (.slice (some ⟨B1, 0, none⟩) 3 3)) V0 ∧ True := ⟨sd.cb.cell 0, trivial⟩
        refine tkL (i := 0) rfl hS0 ?_
        refine tkL (i := 1) rfl hS0 ?_
        refine tkL (i := 2) rfl hS0 ?_
        refine tkL (i := 5) rfl hS0 ?_
        clear hS0
        refine wpAnyE_two (i := 3) (j := 4) (by kernel_rfl) rfl rfl (fun Kn hK => ?_) (fun Kn hK => ?_)
        · go_simp
          refine (pick_any R a n cap bs _ 3 _ sd.r (by omega) (by omega) (by omega) (by omega)).mono ?_
          rintro e wA ⟨ri, r0, r1, rfl, t5, R5⟩
          obtain ⟨i, rfl⟩ := Int.eq_ofNat_of_zero_le r0
          have hi : i < 3 := by omega
          have hi' : (i : Int) < 3 := by omega
          clear r0 r1
          have sa := sd.pick t5 R5
          clear t5 R5
          dsimp only
          refine hK.out _ _ ⟨sa.cb.cell 0, fun _ => trivial⟩ ?_
          clear hK
          refine wpAnyE_two (i := 4) (j := 6) (by kernel_rfl) rfl rfl (fun Kn hK => ?_) (fun Kn hK => ?_)
          · go_simp
            have al := (Below.refl wA.heap.size wA).alloc (Nat.le_refl _) (.cells #[.int .i64 10000001, .int .i64 (-10000001)] 3)
            have lb := Cel.new wA [.int .i64 10000001, .int .i64 (-10000001)] 3
            have sb := sa.below al
            clear al
            refine hK.out _ _ ⟨sb.cb.cell 0, fun _ => trivial⟩ ?_
            clear hK
            refine wpAnyE_one (i := 6) (by kernel_rfl) rfl (fun Kn hK => ?_)
            go_simp
            refine (pick_any R a n cap bs _ 2 _ sb.r (by omega) (by omega) (by omega) (by omega)).mono ?_
            rintro e wB ⟨rj, r0, r1, rfl, t5, R5⟩
            obtain ⟨j, rfl⟩ := Int.eq_ofNat_of_zero_le r0
            have hj : j < 2 := by omega
            have hj' : (j : Int) < 2 := by omega
            clear r0 r1
            have sc := sb.pick t5 R5
            replace lb := lb.touch t5 (by have h1 := sa.hR; have h2 := sa.t.size; omega)
            clear t5 R5
            dsimp only
            refine hK.out _ _ ⟨sc.cb.cell 0, fun _ => trivial⟩ ?_
            clear hK
            have hS5 : (fun X : World => X.cell? ⟨fb, 0, none⟩ = some (.slice (some ⟨B1, 0, none⟩) 3 3)) wB ∧ True := ⟨sc.cb.cell 0, trivial⟩
            refine tkL (i := 7) rfl hS5 ?_
            have hc := lit_cell (xs := [10000001, -10000001]) lb hj
            have hy := litF_2 j hj
            generalize ([10000001, -10000001] : List Int)[j]?.getD 0 = y at hc hy
            refine wpAnyE_one (i := 8) (by kernel_rfl) rfl (fun Kn hK => ?_)
            go_simp
            refine hK.out _ _ ⟨sc.cb.cell 0, fun _ => trivial⟩ ?_
            clear hK
            refine tkL (i := 9) rfl hS5 ?_
            have s6 := sc.setC i hy.1 hy.2
            have kc := sc.f.k1.cell i (by rw [sc.f.l1]; omega)
            have kf := sc.f.k1.free i
            have kl := sc.f.k1.lt
            refine wpAnyE_one (i := 10) (by kernel_rfl) rfl (fun Kn hK => ?_)
            go_simp
            refine hK.out _ _ ⟨s6.cb.cell 0, fun _ => trivial⟩ ?_
            clear hK
            refine wpAnyE_done (by kernel_rfl) ?_ _
            clear hS5 hc kc kf lb
            have s := s6
            clear s6
            have c0 := s.cb.cell 0
            have c1 := s.cb.cell 1
            have c2 := s.cb.cell 2
            have g0 := s.rb.cell 0
            have g1 := s.rb.cell 1
            have g2 := s.rb.cell 2
            have h0 := s.rb.free 0
            have h1 := s.rb.free 1
            have h2 := s.rb.free 2
            simp only [List.getElem?_cons_zero, List.getElem?_cons_succ] at c0 c1 c2 g0 g1 g2
            have l1 := s.cb.lt
            have l2 := s.rb.lt
            have hf := s.hf
            have b1 := s.f.b1
            have b2 := s.f.b2
            have m1 : ¬ w.heap.size = fb := by omega
            have m2 : ¬ fb = w.heap.size := by omega
            go_wp2
            refine bodyPost_ret (v := formV (some ⟨B1, 0, none⟩) 3 3 (some ⟨B2, 0, none⟩) 2 2 K) (by simp [results, Try.results60, go_sem, g0, g1, g2]) rfl ⟨B1, 3, 3, B2, 2, 2, K, C.set i y, D, q + 1 + 1 + 1 + 1, rfl, ?_⟩
            exact (((FmN.mk s.t s.r (s.f.k1.ints' s.f.l1) (s.f.k2.ints' s.f.l2) (by omega) (by omega) (by omega) (by omega) (by omega) (by omega) (by omega) (by omega)).set (B := w.heap.size) (Nat.le_refl _) (by omega) (by omega) hRl ha 0 _).set (B := w.heap.size) (Nat.le_refl _) (by omega) (by omega) hRl ha 1 _).set (B := w.heap.size) (Nat.le_refl _) (by omega) (by omega) hRl ha 2 _
          · go_simp
            refine (pick_any R a n cap bs _ 2 _ sa.r (by omega) (by omega) (by omega) (by omega)).mono ?_
            rintro e wB ⟨rj, r0, r1, rfl, t5, R5⟩
            obtain ⟨j, rfl⟩ := Int.eq_ofNat_of_zero_le r0
            have hj : j < 2 := by omega
            have hj' : (j : Int) < 2 := by omega
            clear r0 r1
            have sb := sa.pick t5 R5
            clear t5 R5
            dsimp only
            refine hK.out _ _ ⟨sb.cb.cell 0, fun _ => trivial⟩ ?_
            clear hK
            refine wpAnyE_one (i := 4) (by kernel_rfl) rfl (fun Kn hK => ?_)
            go_simp
            have al := (Below.refl wB.heap.size wB).alloc (Nat.le_refl _) (.cells #[.int .i64 10000001, .int .i64 (-10000001)] 3)
            have lb := Cel.new wB [.int .i64 10000001, .int .i64 (-10000001)] 3
            have sc := sb.below al
            clear al
            refine hK.out _ _ ⟨sc.cb.cell 0, fun _ => trivial⟩ ?_
            clear hK
            have hS5 : (fun X : World => X.cell? ⟨fb, 0, none⟩ = some (.slice (some ⟨B1, 0, none⟩) 3 3)) (wB.alloc (.cells #[.int .i64 10000001, .int .i64 (-10000001)] 3)) ∧ True := ⟨sc.cb.cell 0, trivial⟩
            refine tkL (i := 7) rfl hS5 ?_
            have hc := lit_cell (xs := [10000001, -10000001]) lb hj
            have hy := litF_2 j hj
            generalize ([10000001, -10000001] : List Int)[j]?.getD 0 = y at hc hy
            refine wpAnyE_one (i := 8) (by kernel_rfl) rfl (fun Kn hK => ?_)
            go_simp
            refine hK.out _ _ ⟨sc.cb.cell 0, fun _ => trivial⟩ ?_
            clear hK
            refine tkL (i := 9) rfl hS5 ?_
            have s6 := sc.setC i hy.1 hy.2
            have kc := sc.f.k1.cell i (by rw [sc.f.l1]; omega)
            have kf := sc.f.k1.free i
            have kl := sc.f.k1.lt
            refine wpAnyE_one (i := 10) (by kernel_rfl) rfl (fun Kn hK => ?_)
            go_simp
            refine hK.out _ _ ⟨s6.cb.cell 0, fun _ => trivial⟩ ?_
            clear hK
            refine wpAnyE_done (by kernel_rfl) ?_ _
            clear hS5 hc kc kf lb
            have s := s6
            clear s6
            have c0 := s.cb.cell 0
            have c1 := s.cb.cell 1
            have c2 := s.cb.cell 2
            have g0 := s.rb.cell 0
            have g1 := s.rb.cell 1
            have g2 := s.rb.cell 2
            have h0 := s.rb.free 0
            have h1 := s.rb.free 1
            have h2 := s.rb.free 2
            simp only [List.getElem?_cons_zero, List.getElem?_cons_succ] at c0 c1 c2 g0 g1 g2
            have l1 := s.cb.lt
            have l2 := s.rb.lt
            have hf := s.hf
            have b1 := s.f.b1
            have b2 := s.f.b2
            have m1 : ¬ w.heap.size = fb := by omega
            have m2 : ¬ fb = w.heap.size := by omega
            go_wp2
            refine bodyPost_ret (v := formV (some ⟨B1, 0, none⟩) 3 3 (some ⟨B2, 0, none⟩) 2 2 K) (by simp [results, Try.results60, go_sem, g0, g1, g2]) rfl ⟨B1, 3, 3, B2, 2, 2, K, C.set i y, D, q + 1 + 1 + 1 + 1, rfl, ?_⟩
            exact (((FmN.mk s.t s.r (s.f.k1.ints' s.f.l1) (s.f.k2.ints' s.f.l2) (by omega) (by omega) (by omega) (by omega) (by omega) (by omega) (by omega) (by omega)).set (B := w.heap.size) (Nat.le_refl _) (by omega) (by omega) hRl ha 0 _).set (B := w.heap.size) (Nat.le_refl _) (by omega) (by omega) hRl ha 1 _).set (B := w.heap.size) (Nat.le_refl _) (by omega) (by omega) hRl ha 2 _
        · go_simp
          have al := (Below.refl V0.heap.size V0).alloc (Nat.le_refl _) (.cells #[.int .i64 10000001, .int .i64 (-10000001)] 3)
          have lb := Cel.new V0 [.int .i64 10000001, .int .i64 (-10000001)] 3
          have sa := sd.below al
          clear al
          refine hK.out _ _ ⟨sa.cb.cell 0, fun _ => trivial⟩ ?_
          clear hK
          refine wpAnyE_one (i := 3) (by kernel_rfl) rfl (fun Kn hK => ?_)
          go_simp
          refine (pick_any R a n cap bs _ 3 _ sa.r (by omega) (by omega) (by omega) (by omega)).mono ?_
          rintro e wA ⟨ri, r0, r1, rfl, t5, R5⟩
          obtain ⟨i, rfl⟩ := Int.eq_ofNat_of_zero_le r0
          have hi : i < 3 := by omega
          have hi' : (i : Int) < 3 := by omega
          clear r0 r1
          have sb := sa.pick t5 R5
          replace lb := lb.touch t5 (by have h1 := sd.hR; have h2 := sd.t.size; omega)
          clear t5 R5
          dsimp only
          refine hK.out _ _ ⟨sb.cb.cell 0, fun _ => trivial⟩ ?_
          clear hK
          refine wpAnyE_one (i := 6) (by kernel_rfl) rfl (fun Kn hK => ?_)
          go_simp
          refine (pick_any R a n cap bs _ 2 _ sb.r (by omega) (by omega) (by omega) (by omega)).mono ?_
          rintro e wB ⟨rj, r0, r1, rfl, t5, R5⟩
          obtain ⟨j, rfl⟩ := Int.eq_ofNat_of_zero_le r0
          have hj : j < 2 := by omega
          have hj' : (j : Int) < 2 := by omega
          clear r0 r1
          have sc := sb.pick t5 R5
          replace lb := lb.touch t5 (by have h1 := sd.hR; have h2 := sd.t.size; omega)
          clear t5 R5
          dsimp only
          refine hK.out _ _ ⟨sc.cb.cell 0, fun _ => trivial⟩ ?_
          clear hK
          have hS5 : (fun X : World => X.cell? ⟨fb, 0, none⟩ = some (.slice (some ⟨B1, 0, none⟩) 3 3)) wB ∧ True := ⟨sc.cb.cell 0, trivial⟩
          refine tkL (i := 7) rfl hS5 ?_
          have hc := lit_cell (xs := [10000001, -10000001]) lb hj
          have hy := litF_2 j hj
          generalize ([10000001, -10000001] : List Int)[j]?.getD 0 = y at hc hy
          refine wpAnyE_one (i := 8) (by kernel_rfl) rfl (fun Kn hK => ?_)
          go_simp
          refine hK.out _ _ ⟨sc.cb.cell 0, fun _ => trivial⟩ ?_
          clear hK
          refine tkL (i := 9) rfl hS5 ?_
          have s6 := sc.setC i hy.1 hy.2
          have kc := sc.f.k1.cell i (by rw [sc.f.l1]; omega)
          have kf := sc.f.k1.free i
          have kl := sc.f.k1.lt
          refine wpAnyE_one (i := 10) (by kernel_rfl) rfl (fun Kn hK => ?_)
          go_simp
          refine hK.out _ _ ⟨s6.cb.cell 0, fun _ => trivial⟩ ?_
          clear hK
          refine wpAnyE_done (by kernel_rfl) ?_ _
          clear hS5 hc kc kf lb
          have s := s6
          clear s6
          have c0 := s.cb.cell 0
          have c1 := s.cb.cell 1
          have c2 := s.cb.cell 2
          have g0 := s.rb.cell 0
          have g1 := s.rb.cell 1
          have g2 := s.rb.cell 2
          have h0 := s.rb.free 0
          have h1 := s.rb.free 1
          have h2 := s.rb.free 2
          simp only [List.getElem?_cons_zero, List.getElem?_cons_succ] at c0 c1 c2 g0 g1 g2
          have l1 := s.cb.lt
          have l2 := s.rb.lt
          have hf := s.hf
          have b1 := s.f.b1
          have b2 := s.f.b2
          have m1 : ¬ w.heap.size = fb := by omega
          have m2 : ¬ fb = w.heap.size := by omega
          go_wp2
          refine bodyPost_ret (v := formV (some ⟨B1, 0, none⟩) 3 3 (some ⟨B2, 0, none⟩) 2 2 K) (by simp [results, Try.results60, go_sem, g0, g1, g2]) rfl ⟨B1, 3, 3, B2, 2, 2, K, C.set i y, D, q + 1 + 1 + 1 + 1, rfl, ?_⟩
          exact (((FmN.mk s.t s.r (s.f.k1.ints' s.f.l1) (s.f.k2.ints' s.f.l2) (by omega) (by omega) (by omega) (by omega) (by omega) (by omega) (by omega) (by omega)).set (B := w.heap.size) (Nat.le_refl _) (by omega) (by omega) hRl ha 0 _).set (B := w.heap.size) (Nat.le_refl _) (by omega) (by omega) hRl ha 1 _).set (B := w.heap.size) (Nat.le_refl _) (by omega) (by omega) hRl ha 2 _

end Go.Proofs.Ytemcinobgdphnaa
namespace Go.Proofs.Ytemcinobgdphnaa
open Go.RowKit
set_option linter.unusedVariables false

/-- Both lists of a form lie in memory. -/
structure FA (w : World) (a : Option Addr) (n : Nat) (c : Option Addr) (m : Nat) (f : Frm) : Prop where
  C : Ints w a n f.1
  D : Ints w c m f.2.1
  hn : n ≤ 1048576
  hm : m ≤ 1048576
theorem FA.below {w w' : World} {a c : Option Addr} {n m : Nat} {f : Frm} (h : FA w a n c m f) (b : Below w.heap.size w w') : FA w' a n c m f := ⟨h.C.below b, h.D.below b, h.hn, h.hm⟩
/-- A call has made this form. -/
def Mk (w w' : World) (e : Ending) (f : Frm) : Prop := ∃ a n cap c m cap', e = .returned (formV a n cap c m cap' f.2.2) ∧ FA w' a n c m f ∧ Below w.heap.size w w'
theorem Mk.of {w w' : World} {e : Ending} {C D : List Int} {K : Int} (h : Res w w' e C D K) (h1 : C.length ≤ 1048576) (h2 : D.length ≤ 1048576) : Mk w w' e (C, D, K) := by
  obtain ⟨a, n, cap, c, m, cap', B1, B2, he, rfl, rfl, hb, o1, o2, _, _, _⟩ := h
  exact ⟨a, _, cap, c, _, cap', he, ⟨o1.ints, o2.ints, h1, h2⟩, hb⟩

def okP (f : Frm) : Bool := formB f.1.length f.2.1.length f.1 f.2.1 f.2.2
def vOk (V : List Int) : Bool := okN 3 10000 V.length V
def aOk (A : List Int) : Bool := okN 2 9 A.length A
def addB (f g : Frm) : Bool := addOk f.1.length f.2.1.length f.1 f.2.1 f.2.2 g.1.length g.2.1.length g.1 g.2.1 g.2.2
def addP (f g : Frm) : Frm := (keepL (addB f g) (lin f.1 g.1 1), keepL (addB f g) (lin f.2.1 g.2.1 1), keepK (addB f g) (f.2.2 + 1 * g.2.2))
def timB (f : Frm) (k : Int) : Bool := timOk f.1.length f.2.1.length f.1 f.2.1 f.2.2 k
def timP (f : Frm) (k : Int) : Frm := (keepL (timB f k) (mulL k f.1), keepL (timB f k) (mulL k f.2.1), keepK (timB f k) (k * f.2.2))
def atB (f : Frm) (V A : List Int) : Bool := atOk f.1.length f.2.1.length V.length A.length f.1 f.2.1 f.2.2 V A
def atP (f : Frm) (V A : List Int) : Int := atN f.1.length f.2.1.length V.length A.length f.1 f.2.1 f.2.2 V A
def potP (v : Int) : Frm := (potC v, potD v, 0)
def zeroP : Frm := ([0, 0, 0], [0, 0], 0)
def coP (f g : Frm) : Bool := eqF f.1 f.2.1 f.2.2 g.1 g.2.1 g.2.2
theorem coP_same (f : Frm) : coP f f = true := eqF_refl _ _ _
theorem coP_of {f g : Frm} (h : f = g) : coP f g = true := h ▸ coP_same f
theorem lin_le {xs ys : List Int} {n : Int} {N : Nat} (h : xs.length ≤ N) : (lin xs ys n).length ≤ N := by simp only [lin, List.length_zipWith]; omega

theorem pAdd (f g : Frm) (a : Option Addr) (n cap : Nat) (c : Option Addr) (m cap' : Nat) (a2 : Option Addr) (n2 cap2 : Nat) (c2 : Option Addr) (m2 cap2' : Nat) (w : World) (hf : FA w a n c m f) (hg : FA w a2 n2 c2 m2 g) :
    Calls Try.prog 108 #[formV a n cap c m cap' f.2.2, formV a2 n2 cap2 c2 m2 cap2' g.2.2] w fun e w' => Mk w w' e (addP f g) := by
  obtain rfl := hf.C.1
  obtain rfl := hf.D.1
  obtain rfl := hg.C.1
  obtain rfl := hg.D.1
  exact (iadd_any a _ cap c _ cap' f.2.2 f.1 f.2.1 a2 _ cap2 c2 _ cap2' g.2.2 g.1 g.2.1 w hf.C hf.D hg.C hg.D hf.hn hf.hm hg.hn hg.hm).mono fun e w' h => Mk.of h (keepL_len (lin_le hf.hn)) (keepL_len (lin_le hf.hm))

theorem pTim (f : Frm) (k : Int) (a : Option Addr) (n cap : Nat) (c : Option Addr) (m cap' : Nat) (w : World) (hf : FA w a n c m f) :
    Calls Try.prog 109 #[formV a n cap c m cap' f.2.2, .int .i64 k] w fun e w' => Mk w w' e (timP f k) := by
  obtain rfl := hf.C.1
  obtain rfl := hf.D.1
  exact (itim_any a _ cap c _ cap' f.2.2 f.1 f.2.1 k w hf.C hf.D hf.hn hf.hm).mono fun e w' h => Mk.of h (keepL_len (by rw [mulL_len]; exact hf.hn)) (keepL_len (by rw [mulL_len]; exact hf.hm))

theorem pAt (f : Frm) (V A : List Int) (a : Option Addr) (n cap : Nat) (c : Option Addr) (m cap' : Nat) (v : Option Addr) (p cv : Nat) (u : Option Addr) (q cu : Nat) (w : World) (hf : FA w a n c m f) (hV : Ints w v p V) (hA : Ints w u q A) (hp : p ≤ 1048576) (hq : q ≤ 1048576) :
    Calls Try.prog 10 #[formV a n cap c m cap' f.2.2, .slice v p cv, .slice u q cu] w fun e w' => e = .returned (.tuple #[.int .i64 (atP f V A), .bool (atB f V A)]) ∧ Below w.heap.size w w' := by
  obtain rfl := hf.C.1
  obtain rfl := hf.D.1
  obtain rfl := hV.1
  obtain rfl := hA.1
  exact ifat_any a _ cap c _ cap' f.2.2 f.1 f.2.1 v _ cv u _ cu V A w hf.C hf.D hV hA hf.hn hf.hm hp hq

theorem pZero (w : World) : Calls Try.prog 46 #[] w fun e w' => Mk w w' e zeroP := (izero_res w).mono fun e w' h => Mk.of h (by simp) (by simp)

theorem pPot (v : Int) (w : World) : Calls Try.prog 70 #[.int .i64 v] w fun e w' => Mk w w' e (potP v) := (ipot_any v w).mono fun e w' h => Mk.of h (potC_len v) (potD_len v)

theorem qPot (v : Int) (w : World) : Calls Try.prog 74 #[.int .i64 v] w fun e w' => Mk w w' e (potP v) := (spot_any v w).mono fun e w' h => Mk.of h (potC_len v) (potD_len v)

theorem qOk (f : Frm) (a : Option Addr) (n cap : Nat) (c : Option Addr) (m cap' : Nat) (w : World) (hf : FA w a n c m f) :
    Calls Try.prog 64 #[formV a n cap c m cap' f.2.2] w fun e w' => e = .returned (.bool (okP f)) ∧ Below w.heap.size w w' := by
  obtain rfl := hf.C.1
  obtain rfl := hf.D.1
  exact sok_any a _ cap c _ cap' f.2.2 f.1 f.2.1 w hf.C hf.D hf.hn hf.hm

theorem pOk (f : Frm) (a : Option Addr) (n cap : Nat) (c : Option Addr) (m cap' : Nat) (w : World) (hf : FA w a n c m f) :
    Calls Try.prog 45 #[formV a n cap c m cap' f.2.2] w fun e w' => e = .returned (.bool (okP f)) ∧ Below w.heap.size w w' := by
  obtain rfl := hf.C.1
  obtain rfl := hf.D.1
  go_enter Try.func45, Try.ntmps45
  go_wp2_with fail
  refine (iok_any a _ cap c _ cap' f.2.2 f.1 f.2.1 _ (hf.C.alloc _) (hf.D.alloc _) hf.hn hf.hm).mono ?_
  rintro e w1 ⟨rfl, b1⟩
  go_wp2
  go_ret
  exact ⟨rfl, ((Below.refl _ _).alloc (Nat.le_refl _) _).trans (b1.mono (by simp))⟩

set_option maxHeartbeats 400000 in
theorem coI_any (a c : Option Addr) (n m cap cap' : Nat) (xs ys : List Int) (w : World) (h : Ints w a n xs) (h' : Ints w c m ys) (hn : n ≤ 1048576) (hm : m ≤ 1048576) :
    Calls Try.prog 18 #[.slice a n cap, .slice c m cap'] w fun e w' => e = .returned (.bool (eqB xs ys)) ∧ Below w.heap.size w w' := by
  have hx := h.1
  have HX : Hid (xs.length = n) := hx
  have hy := h'.1
  have HY : Hid (ys.length = m) := hy
  clear hx hy
  by_cases hc : n = m
  · subst hc
    go_enter Try.func18, Try.ntmps18
    go_wp2_with fail
    go_loopw [5] (fun i wr => ∃ k : Nat, k ≤ n ∧ i = .int .i64 k ∧ Below w.heap.size w wr ∧ xs.take k = ys.take k) (fun i _ => n - (intOf i).toNat)
    case atStart => exact ⟨0, Nat.zero_le _, rfl, Below.refl _ _, rfl⟩
    case round =>
      obtain ⟨k, hk, rfl, hnx, hall⟩ := hrel
      have HA : Hid (xs.take k = ys.take k) := hall
      clear hall
      by_cases hlt : k < n
      · obtain ⟨b, off, rfl, hcell⟩ := (h.below hnx).pos (by omega)
        obtain ⟨b', off', rfl, hcell'⟩ := (h'.below hnx).pos (by omega)
        have hck := hcell k hlt
        have hck' := hcell' k hlt
        have hlt' : (k : Int) < (n : Int) := by omega
        clear hcell hcell' h h'
        go_wp2_with fail
        go_quiet (fail)
        cases he : (xs[k]?.getD 0 != ys[k]?.getD 0)
        · go_wp2
          go_roundw
          case rel => exact ⟨k + 1, by omega, by go_num, below_drewN hnx _, take_same_succ (by rw [HX.out]; exact hlt) (by rw [HY.out]; exact hlt) HA.out (by simpa using he)⟩
          case measure => simp [intOf]; omega
        · go_wp2
          go_ret
          exact ⟨ret_bool (by rw [eqB_false (k := k) (by simpa using he)]), below_drewN hnx _⟩
      · go_wp2
        go_ret
        exact ⟨ret_bool (by rw [eqB_true HX.out HY.out (by omega) HA.out]), hnx⟩
  · have hne : ((n : Int) != (m : Int)) = true := by simp; omega
    go_enter Try.func18, Try.ntmps18
    go_wp2
    go_ret
    exact ⟨ret_bool (by rw [eqB_len (by rw [HX.out, HY.out]; exact hc)]), Below.refl _ _⟩

/-- Zero is ok: what every program of this kind says. -/
theorem coHolds_any (w : World) : Calls Try.prog 19 #[] w fun e w' => e = .returned (.bool true) ∧ Below w.heap.size w w' := by
  go_enter Try.func19, Try.ntmps19
  go_wp2_with fail
  refine (pZero _).mono ?_
  rintro e w1 ⟨a, n, cap, c, m, cap', rfl, h1, b1⟩
  go_wp2_with fail
  refine (pOk zeroP _ _ _ _ _ _ _ h1).mono ?_
  rintro e w2 ⟨rfl, b2⟩
  have hz : okP zeroP = true := by decide
  rw [hz]
  go_wp2
  go_ret
  exact ⟨rfl, b1.trans (b2.mono b1.size)⟩

end Go.Proofs.Ytemcinobgdphnaa
namespace Go.Proofs.Ytemcinobgdphnaa
open Go.RowKit
set_option linter.unusedVariables false
set_option maxRecDepth 100000

theorem Rd.ha {w : World} {R : Nat} {a : Option Addr} {n cap : Nat} {bs : List Int} {p : Int} (h : Rd w R a n cap bs p) : 0 < n → ∀ b o, a = some ⟨b, o, none⟩ → b < w.heap.size := fun h0 b o hab => by
  obtain ⟨b', o', hab', hcc⟩ := h.b.2.1 0 h0
  rw [hab] at hab'
  simp only [Option.some.injEq, Addr.mk.injEq, and_true] at hab'
  have := block_lt hcc
  omega
theorem Ints.off {S : Nat → Prop} {w w' : World} {a : Option Addr} {n : Nat} {zs : List Int} (h : Ints w a n zs) (t : Touch S w w') (hS : ∀ b o, a = some ⟨b, o, none⟩ → ¬ S b) : Ints w' a n zs := by
  refine ⟨h.1, fun i hi => ?_⟩
  obtain ⟨b, off, hab, hc⟩ := h.2 i hi
  exact ⟨b, off, hab, (World.cell?_of_block (t.block b (block_lt hc) (hS b off hab))).trans hc⟩
theorem FA.off {S : Nat → Prop} {w w' : World} {a c : Option Addr} {n m : Nat} {f : Frm} (h : FA w a n c m f) (t : Touch S w w') (h1 : ∀ b o, a = some ⟨b, o, none⟩ → ¬ S b) (h2 : ∀ b o, c = some ⟨b, o, none⟩ → ¬ S b) : FA w' a n c m f := ⟨h.C.off t h1, h.D.off t h2, h.hn, h.hm⟩
theorem FmN.fa {w W : World} {R : Nat} {a : Option Addr} {n cap : Nat} {bs : List Int} {p q : Int} {B1 nC B2 nD : Nat} {C D : List Int} (h : FmN w W R a n cap bs p q B1 nC B2 nD C D) (K : Int) : FA W (some ⟨B1, 0, none⟩) nC (some ⟨B2, 0, none⟩) nD (C, D, K) := ⟨h.c, h.d, by have := h.c4; omega, by have := h.d4; omega⟩
/-- A form that lies past a place. -/
theorem FA.far {S : Nat → Prop} {w w' : World} {B1 B2 n m lo : Nat} {f : Frm} (h : FA w (some ⟨B1, 0, none⟩) n (some ⟨B2, 0, none⟩) m f) (t : Touch S w w') (hS : ∀ k, S k → k < lo) (h1 : lo ≤ B1) (h2 : lo ≤ B2) : FA w' (some ⟨B1, 0, none⟩) n (some ⟨B2, 0, none⟩) m f :=
  h.off t (fun b o e hs => by simp only [Option.some.injEq, Addr.mk.injEq] at e; have := hS b hs; omega) (fun b o e hs => by simp only [Option.some.injEq, Addr.mk.injEq] at e; have := hS b hs; omega)
theorem FA.setFar {w : World} {B1 B2 n m X : Nat} {f : Frm} (h : FA w (some ⟨B1, 0, none⟩) n (some ⟨B2, 0, none⟩) m f) (h1 : B1 ≠ X) (h2 : B2 ≠ X) (i : Nat) (v : Value) : FA (w.setCell ⟨X, i, none⟩ v) (some ⟨B1, 0, none⟩) n (some ⟨B2, 0, none⟩) m f :=
  ⟨h.C.setFar (fun b o e => by simp only [Option.some.injEq, Addr.mk.injEq] at e; omega) i v, h.D.setFar (fun b o e => by simp only [Option.some.injEq, Addr.mk.injEq] at e; omega) i v, h.hn, h.hm⟩

end Go.Proofs.Ytemcinobgdphnaa
