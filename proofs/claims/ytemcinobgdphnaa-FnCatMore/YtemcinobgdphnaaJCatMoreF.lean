/-
  Lemmas that the claim's last text rests on: Row, Fits, Do, Sum5, RowDoI, RowDoS, MarkS2, ResL, RunL, RunS, Leave, Leave2, Stops, RunI, FvL, RunC, RunW, CatLe, Zero, CatWS, KeyR, CatWI, CatVw, RowsP.
-/
import Derived.Test.YtemcinobgdphnaaMade
import Derived.Test.YtemcinobgdphnaaJCatMoreE
import Derived.Test.YtemcinobgdphnaaOwn
import Derived.Test.YtemcinobgdphnaaKeyed
import Derived.Deep.AppendLies
import Derived.Test.YtemcinobgdphnaaAct
import Derived.Deep.DeepCutAuto
import Derived.Deep.RegionHeld3
import Derived.Laws.Pointers
import Derived.Defers
import Derived.Recover
import Derived.Test.YtemcinobgdphnaaJCatMoreA
import Derived.Test.YtemcinobgdphnaaWays
import Derived.Test.YtemcinobgdphnaaWalkL
import Derived.Test.YtemcinobgdphnaaCatRS
import Derived.Test.YtemcinobgdphnaaHas
import Derived.Test.YtemcinobgdphnaaJCatMoreD
import Derived.RangeFuncCalls
import Derived.Test.YtemcinobgdphnaaRowsS
namespace Go.Proofs.Ytemcinobgdphnaa
open Go.RowKit
set_option linter.unusedVariables false
set_option maxRecDepth 100000

set_option maxHeartbeats 800000 in
theorem l3Forms_any (ad : Option Addr) (N cap : Nat) (fs : List FV) (w : World) (hN : fs.length = N) (hF : FormsG w ad fs) (hN1 : N ≤ 1048576) :
    Calls Try.prog 39 #[.slice ad N cap] w fun e w' => e = .returned (.bool (fs.all FV.ok)) ∧ Below w.heap.size w w' := by
  have HN : Hid (fs.length = N) := hN
  clear hN
  go_enter Try.func39, Try.ntmps39
  go_wp2_with fail
  go_loopw [3] (fun i wr => ∃ k : Nat, k ≤ N ∧ i = .int .i64 k ∧ Below w.heap.size w wr ∧ (fs.take k).all FV.ok = true) (fun i _ => N - (intOf i).toNat)
  case atStart => exact ⟨0, Nat.zero_le _, rfl, Below.refl _ _, by simp⟩
  case round =>
    obtain ⟨k, hk, rfl, hb, hall⟩ := hrel
    have HA : Hid ((fs.take k).all FV.ok = true) := hall
    clear hall
    by_cases hlt : k < N
    · obtain ⟨b, off, rfl, e0, e1, e2, e3⟩ := (hF.below hb) k (by rw [HN.out]; exact hlt)
      generalize HG : fs[k]?.getD noFV = g at *
      have HG' : Hid (fs[k]?.getD noFV = g) := HG
      clear HG hF
      obtain ⟨ga, gn, gcap, gc, gm, gcap', gK, gC, gD⟩ := g
      obtain ⟨iC, iD, hn, hm⟩ := e3
      simp only at e0 e1 e2 iC iD hn hm
      cases hf : formB gn gm gC gD gK
      · go_wp2_with fail
        refine (sok_any _ _ _ _ _ _ _ gC gD _ iC iD hn hm).mono ?_
        rintro e w1 ⟨rfl, b1⟩
        have B1 := hb.trans (b1.mono hb.size)
        rw [hf]
        go_wp2
        go_ret
        exact ⟨ret_bool (all_no (k := k) (by rw [HN.out]; exact hlt) (by rw [HG'.out]; exact hf)).symm, B1⟩
      · go_wp2_with fail
        refine (sok_any _ _ _ _ _ _ _ gC gD _ iC iD hn hm).mono ?_
        rintro e w1 ⟨rfl, b1⟩
        have B1 := hb.trans (b1.mono hb.size)
        clear b1 hb iC iD e0 e1 e2
        rw [hf]
        go_wp2
        go_roundw
        case rel => exact ⟨k + 1, by omega, by go_num, B1, all_take_succ (by rw [HN.out]; exact hlt) HA.out (by rw [HG'.out]; exact hf)⟩
        case measure => simp [intOf]; omega
    · go_wp2
      go_ret
      exact ⟨ret_bool (by have := HA.out; rw [List.take_of_length_le (by rw [HN.out]; omega)] at this; exact this.symm), hb⟩

/-- Whether a row is ok. -/
def rowB (gs ls ts : List FV) (A T : Nat) (st : Bool) : Bool := gs.all FV.ok && ls.all FV.ok && ts.all FV.ok && (if st then ((A : Int) + T == 0) else ((A : Int) == 3))

/-- A row that lies in memory. -/
structure RowAt (w : World) (g : Option Addr) (G : Nat) (gs : List FV) (a : Option Addr) (A : Nat) (ls : List FV) (t : Option Addr) (T : Nat) (ts : List FV) : Prop where
  g : FormsG w g gs
  a : FormsG w a ls
  t : FormsG w t ts
  hg : gs.length = G
  ha : ls.length = A
  ht : ts.length = T
  zg : G ≤ 1048576
  za : A ≤ 1048576
  zt : T ≤ 1048576
theorem RowAt.below {w w' : World} {g : Option Addr} {G : Nat} {gs : List FV} {a : Option Addr} {A : Nat} {ls : List FV} {t : Option Addr} {T : Nat} {ts : List FV} (h : RowAt w g G gs a A ls t T ts) (b : Below w.heap.size w w') : RowAt w' g G gs a A ls t T ts :=
  ⟨h.g.below b, h.a.below b, h.t.below b, h.hg, h.ha, h.ht, h.zg, h.za, h.zt⟩
theorem RowAt.alloc {w : World} {g : Option Addr} {G : Nat} {gs : List FV} {a : Option Addr} {A : Nat} {ls : List FV} {t : Option Addr} {T : Nat} {ts : List FV} (h : RowAt w g G gs a A ls t T ts) (o : Obj) : RowAt (w.alloc o) g G gs a A ls t T ts := h.below ((Below.refl _ _).alloc (Nat.le_refl _) _)
theorem Cel.quad {w : World} {B : Nat} {x y z u : Value} {t : TypeId} (h : Cel w B [x, y, z, u] t) : w.cell? ⟨B, 0, none⟩ = some x ∧ w.cell? ⟨B, 1, none⟩ = some y ∧ w.cell? ⟨B, 2, none⟩ = some z ∧ w.cell? ⟨B, 3, none⟩ = some u := ⟨h.cell 0, h.cell 1, h.cell 2, h.cell 3⟩

/-- A box that a call lays first, and old memory. -/
structure BX (w : World) (B : Nat) (la : List Value) (ty : TypeId) (W : World) : Prop where
  p : Cel W B la ty
  b : Below w.heap.size w W
theorem BX.new (w : World) (la : List Value) (ty : TypeId) : BX w w.heap.size la ty (w.alloc (.cells la.toArray ty)) := ⟨Cel.new w la ty, (Below.refl _ _).alloc (Nat.le_refl _) _⟩
theorem BX.below {w W W' : World} {B : Nat} {la : List Value} {ty : TypeId} (h : BX w B la ty W) (b : Below W.heap.size W W') : BX w B la ty W' := ⟨h.p.below b, h.b.trans (b.mono h.b.size)⟩
theorem BX.alloc {w W : World} {B : Nat} {la : List Value} {ty : TypeId} (h : BX w B la ty W) (o : Obj) : BX w B la ty (W.alloc o) := h.below ((Below.refl _ _).alloc (Nat.le_refl _) _)

set_option maxHeartbeats 1600000 in
theorem srow_any (g : Option Addr) (G cg : Nat) (gs : List FV) (a : Option Addr) (A ca : Nat) (ls : List FV) (t : Option Addr) (T ct : Nat) (ts : List FV) (st : Bool) (w : World) (h : RowAt w g G gs a A ls t T ts) :
    Calls Try.prog 13 #[rowV g G cg a A ca t T ct st] w fun e w' => e = .returned (.bool (rowB gs ls ts A T st)) ∧ Below w.heap.size w w' := by
  have n0 := BX.new w [.slice g G cg, .slice a A ca, .slice t T ct, .bool st] 25
  have z1 := h.za
  have z2 := h.zt
  cases h1 : gs.all FV.ok
  · go_enter Try.func13, Try.ntmps13
    go_wp2_with fail
    refine (l3Forms_any _ _ _ gs _ h.hg (h.alloc _).g h.zg).mono ?_
    rintro e w1 ⟨rfl, b1⟩
    have n1 := n0.below b1
    go_wp2
    go_ret
    exact ⟨ret_bool (by simp [rowB, h1]), n1.b⟩
  · cases h2 : ls.all FV.ok
    · go_enter Try.func13, Try.ntmps13
      go_wp2_with fail
      refine (l3Forms_any _ _ _ gs _ h.hg (h.alloc _).g h.zg).mono ?_
      rintro e w1 ⟨rfl, b1⟩
      have n1 := n0.below b1
      obtain ⟨c0, c1, c2, c3⟩ := n1.p.quad
      go_wp2_with fail
      refine (l3Forms_any _ _ _ ls _ h.ha (h.below n1.b).a h.za).mono ?_
      rintro e w2 ⟨rfl, b2⟩
      have n2 := n1.below b2
      clear c0 c1 c2 c3
      go_wp2
      go_ret
      exact ⟨ret_bool (by simp [rowB, h2]), n2.b⟩
    · cases h3 : ts.all FV.ok
      · go_enter Try.func13, Try.ntmps13
        go_wp2_with fail
        refine (l3Forms_any _ _ _ gs _ h.hg (h.alloc _).g h.zg).mono ?_
        rintro e w1 ⟨rfl, b1⟩
        have n1 := n0.below b1
        obtain ⟨c0, c1, c2, c3⟩ := n1.p.quad
        go_wp2_with fail
        refine (l3Forms_any _ _ _ ls _ h.ha (h.below n1.b).a h.za).mono ?_
        rintro e w2 ⟨rfl, b2⟩
        have n2 := n1.below b2
        clear c0 c1 c2 c3
        obtain ⟨c0, c1, c2, c3⟩ := n2.p.quad
        go_wp2_with fail
        refine (l3Forms_any _ _ _ ts _ h.ht (h.below n2.b).t h.zt).mono ?_
        rintro e w3 ⟨rfl, b3⟩
        have n3 := n2.below b3
        clear c0 c1 c2 c3
        go_wp2
        go_ret
        exact ⟨ret_bool (by simp [rowB, h3]), n3.b⟩
      · cases st
        · go_enter Try.func13, Try.ntmps13
          go_wp2_with fail
          refine (l3Forms_any _ _ _ gs _ h.hg (h.alloc _).g h.zg).mono ?_
          rintro e w1 ⟨rfl, b1⟩
          have n1 := n0.below b1
          obtain ⟨c0, c1, c2, c3⟩ := n1.p.quad
          go_wp2_with fail
          refine (l3Forms_any _ _ _ ls _ h.ha (h.below n1.b).a h.za).mono ?_
          rintro e w2 ⟨rfl, b2⟩
          have n2 := n1.below b2
          clear c0 c1 c2 c3
          obtain ⟨c0, c1, c2, c3⟩ := n2.p.quad
          go_wp2_with fail
          refine (l3Forms_any _ _ _ ts _ h.ht (h.below n2.b).t h.zt).mono ?_
          rintro e w3 ⟨rfl, b3⟩
          have n3 := n2.below b3
          clear c0 c1 c2 c3
          obtain ⟨c0, c1, c2, c3⟩ := n3.p.quad
          go_wp2
          go_ret
          exact ⟨ret_bool (by simp [rowB, h1, h2, h3]), n3.b⟩
        · go_enter Try.func13, Try.ntmps13
          go_wp2_with fail
          refine (l3Forms_any _ _ _ gs _ h.hg (h.alloc _).g h.zg).mono ?_
          rintro e w1 ⟨rfl, b1⟩
          have n1 := n0.below b1
          obtain ⟨c0, c1, c2, c3⟩ := n1.p.quad
          go_wp2_with fail
          refine (l3Forms_any _ _ _ ls _ h.ha (h.below n1.b).a h.za).mono ?_
          rintro e w2 ⟨rfl, b2⟩
          have n2 := n1.below b2
          clear c0 c1 c2 c3
          obtain ⟨c0, c1, c2, c3⟩ := n2.p.quad
          go_wp2_with fail
          refine (l3Forms_any _ _ _ ts _ h.ht (h.below n2.b).t h.zt).mono ?_
          rintro e w3 ⟨rfl, b3⟩
          have n3 := n2.below b3
          clear c0 c1 c2 c3
          obtain ⟨c0, c1, c2, c3⟩ := n3.p.quad
          go_wp2
          go_ret
          exact ⟨ret_bool (by simp [rowB, h1, h2, h3]), n3.b⟩

set_option maxHeartbeats 1600000 in
theorem irow_any (g : Option Addr) (G cg : Nat) (gs : List FV) (a : Option Addr) (A ca : Nat) (ls : List FV) (t : Option Addr) (T ct : Nat) (ts : List FV) (st : Bool) (w : World) (h : RowAt w g G gs a A ls t T ts) :
    Calls Try.prog 7 #[rowV g G cg a A ca t T ct st] w fun e w' => e = .returned (.bool (rowB gs ls ts A T st)) ∧ Below w.heap.size w w' := by
  have n0 := BX.new w [.slice g G cg, .slice a A ca, .slice t T ct, .bool st] 25
  have z1 := h.za
  have z2 := h.zt
  cases h1 : gs.all FV.ok
  · go_enter Try.func7, Try.ntmps7
    go_wp2_with fail
    refine (allForms_any _ _ _ gs _ h.hg (h.alloc _).g h.zg).mono ?_
    rintro e w1 ⟨rfl, b1⟩
    have n1 := n0.below b1
    go_wp2
    go_ret
    exact ⟨ret_bool (by simp [rowB, h1]), n1.b⟩
  · cases h2 : ls.all FV.ok
    · go_enter Try.func7, Try.ntmps7
      go_wp2_with fail
      refine (allForms_any _ _ _ gs _ h.hg (h.alloc _).g h.zg).mono ?_
      rintro e w1 ⟨rfl, b1⟩
      have n1 := n0.below b1
      obtain ⟨c0, c1, c2, c3⟩ := n1.p.quad
      go_wp2_with fail
      refine (allForms_any _ _ _ ls _ h.ha (h.below n1.b).a h.za).mono ?_
      rintro e w2 ⟨rfl, b2⟩
      have n2 := n1.below b2
      clear c0 c1 c2 c3
      go_wp2
      go_ret
      exact ⟨ret_bool (by simp [rowB, h2]), n2.b⟩
    · cases h3 : ts.all FV.ok
      · go_enter Try.func7, Try.ntmps7
        go_wp2_with fail
        refine (allForms_any _ _ _ gs _ h.hg (h.alloc _).g h.zg).mono ?_
        rintro e w1 ⟨rfl, b1⟩
        have n1 := n0.below b1
        obtain ⟨c0, c1, c2, c3⟩ := n1.p.quad
        go_wp2_with fail
        refine (allForms_any _ _ _ ls _ h.ha (h.below n1.b).a h.za).mono ?_
        rintro e w2 ⟨rfl, b2⟩
        have n2 := n1.below b2
        clear c0 c1 c2 c3
        obtain ⟨c0, c1, c2, c3⟩ := n2.p.quad
        go_wp2_with fail
        refine (allForms_any _ _ _ ts _ h.ht (h.below n2.b).t h.zt).mono ?_
        rintro e w3 ⟨rfl, b3⟩
        have n3 := n2.below b3
        clear c0 c1 c2 c3
        go_wp2
        go_ret
        exact ⟨ret_bool (by simp [rowB, h3]), n3.b⟩
      · cases st
        · go_enter Try.func7, Try.ntmps7
          go_wp2_with fail
          refine (allForms_any _ _ _ gs _ h.hg (h.alloc _).g h.zg).mono ?_
          rintro e w1 ⟨rfl, b1⟩
          have n1 := n0.below b1
          obtain ⟨c0, c1, c2, c3⟩ := n1.p.quad
          go_wp2_with fail
          refine (allForms_any _ _ _ ls _ h.ha (h.below n1.b).a h.za).mono ?_
          rintro e w2 ⟨rfl, b2⟩
          have n2 := n1.below b2
          clear c0 c1 c2 c3
          obtain ⟨c0, c1, c2, c3⟩ := n2.p.quad
          go_wp2_with fail
          refine (allForms_any _ _ _ ts _ h.ht (h.below n2.b).t h.zt).mono ?_
          rintro e w3 ⟨rfl, b3⟩
          have n3 := n2.below b3
          clear c0 c1 c2 c3
          obtain ⟨c0, c1, c2, c3⟩ := n3.p.quad
          go_wp2
          go_ret
          exact ⟨ret_bool (by simp [rowB, h1, h2, h3]), n3.b⟩
        · by_cases hA : (A : Int) = 0
          · have hA' : ((A : Int) == 0) = true := by simp [hA]
            go_enter Try.func7, Try.ntmps7
            go_wp2_with fail
            refine (allForms_any _ _ _ gs _ h.hg (h.alloc _).g h.zg).mono ?_
            rintro e w1 ⟨rfl, b1⟩
            have n1 := n0.below b1
            obtain ⟨c0, c1, c2, c3⟩ := n1.p.quad
            go_wp2_with fail
            refine (allForms_any _ _ _ ls _ h.ha (h.below n1.b).a h.za).mono ?_
            rintro e w2 ⟨rfl, b2⟩
            have n2 := n1.below b2
            clear c0 c1 c2 c3
            obtain ⟨c0, c1, c2, c3⟩ := n2.p.quad
            go_wp2_with fail
            refine (allForms_any _ _ _ ts _ h.ht (h.below n2.b).t h.zt).mono ?_
            rintro e w3 ⟨rfl, b3⟩
            have n3 := n2.below b3
            clear c0 c1 c2 c3
            obtain ⟨c0, c1, c2, c3⟩ := n3.p.quad
            go_wp2
            go_ret
            exact ⟨ret_bool (by simp only [rowB, h1, h2, h3, hA, Int.zero_add, Bool.true_and, if_true]), n3.b⟩
          · have hA' : ((A : Int) == 0) = false := by simpa using hA
            go_enter Try.func7, Try.ntmps7
            go_wp2_with fail
            refine (allForms_any _ _ _ gs _ h.hg (h.alloc _).g h.zg).mono ?_
            rintro e w1 ⟨rfl, b1⟩
            have n1 := n0.below b1
            obtain ⟨c0, c1, c2, c3⟩ := n1.p.quad
            go_wp2_with fail
            refine (allForms_any _ _ _ ls _ h.ha (h.below n1.b).a h.za).mono ?_
            rintro e w2 ⟨rfl, b2⟩
            have n2 := n1.below b2
            clear c0 c1 c2 c3
            obtain ⟨c0, c1, c2, c3⟩ := n2.p.quad
            go_wp2_with fail
            refine (allForms_any _ _ _ ts _ h.ht (h.below n2.b).t h.zt).mono ?_
            rintro e w3 ⟨rfl, b3⟩
            have n3 := n2.below b3
            clear c0 c1 c2 c3
            obtain ⟨c0, c1, c2, c3⟩ := n3.p.quad
            go_wp2
            go_ret
            exact ⟨ret_bool (by simp [rowB, h1, h2, h3]; omega), n3.b⟩

theorem MF.touch {S : Nat → Prop} {W W' : World} {B lo : Nat} {cs : List (List Value)} {gs : List FV} {p q : Nat → Nat} (h : MF W B lo cs gs p q) (t : Touch S W W') (hs : ∀ k, S k → k < B ∨ W.heap.size ≤ k ∨ ∀ i, i < gs.length → (k ≠ B ∧ k ≠ p i ∧ k ≠ q i)) (hB : ¬ S B) : MF W' B lo cs gs p q := by
  have hb := h.b
  refine ⟨by rw [t.block B (lt_of_block h.c) hB]; exact h.c, h.t, fun i hi => ?_, h.b, Nat.le_trans h.s t.size⟩
  obtain ⟨a1, a2, a3, a4, a5, a6, a7, a8, a9, a10, a11, a12, a13⟩ := h.l i hi
  have k1 : Blk W' (p i) (gs[i]?.getD noFV).C := by
    unfold Blk at *
    rw [t.block _ (lt_of_block a4) (fun hh => by
      rcases hs _ hh with e | e | e
      · omega
      · omega
      · exact (e i hi).2.1 rfl)]; exact a4
  have k2 : Blk W' (q i) (gs[i]?.getD noFV).D := by
    unfold Blk at *
    rw [t.block _ (lt_of_block a5) (fun hh => by
      rcases hs _ hh with e | e | e
      · omega
      · omega
      · exact (e i hi).2.2 rfl)]; exact a5
  exact ⟨a1, a2, a3, k1, k2, a6, a7, a8, a9, a10, a11, Nat.lt_of_lt_of_le a12 t.size, a13⟩
theorem MF.set {W : World} {B lo X : Nat} {cs : List (List Value)} {gs : List FV} {p q : Nat → Nat} (h : MF W B lo cs gs p q) (hX : X < B) (i : Nat) (v : Value) : MF (W.setCell ⟨X, i, none⟩ v) B lo cs gs p q :=
  h.touch (S := fun k => k = X) (Touch.setCell (S := fun k => k = X) (Touch.refl _ _) rfl v) (fun k hk => .inl (by omega)) (fun hh => by omega)
theorem MF.q_lt {W : World} {B lo : Nat} {cs : List (List Value)} {gs : List FV} {p q : Nat → Nat} (h : MF W B lo cs gs p q) : ∀ i, i < gs.length → q i < W.heap.size := fun i hi => by
  obtain ⟨a1, a2, a3, a4, a5, a6, a7, a8, a9, a10, a11, a12, a13⟩ := h.l i hi
  exact a12
theorem MF.lt {W : World} {B lo : Nat} {cs : List (List Value)} {gs : List FV} {p q : Nat → Nat} (h : MF W B lo cs gs p q) : B < W.heap.size := lt_of_block h.c

/-- Three slices of forms that a copy of a row has, each behind the one ahead of it. -/
structure RM (W : World) (lo : Nat) (B1 B2 B3 : Nat) (G A T : Nat) (gs ls ts : List FV) (X Y Z : List (List Value)) (p1 q1 p2 q2 p3 q3 : Nat → Nat) : Prop where
  g : MF W B1 (B1 + 1) X gs p1 q1
  a : MF W B2 (B2 + 1) Y ls p2 q2
  t : MF W B3 (B3 + 1) Z ts p3 q3
  hg : gs.length = G
  ha : ls.length = A
  ht : ts.length = T
  xg : X.length = G
  xa : Y.length = A
  xt : Z.length = T
  l1 : lo ≤ B1
  l2 : B1 < B2
  l3 : B2 < B3
  u1 : ∀ i, i < G → q1 i < B2
  u2 : ∀ i, i < A → q2 i < B3

/-- A copy's forms, one by one, are the forms it was made of. -/
theorem copies_eq {fs gs : List FV} {N : Nat} (hg : gs.length = N) {hs : List FV} (hh : hs.length = N) (h1 : copies fs gs) (h2 : copies fs hs) : ∀ i, i < N → eqF (gs[i]?.getD noFV).C (gs[i]?.getD noFV).D (gs[i]?.getD noFV).K (hs[i]?.getD noFV).C (hs[i]?.getD noFV).D (hs[i]?.getD noFV).K = true := fun i hi => by
  obtain ⟨e1, e2, e3, _⟩ := h1 i (by omega)
  obtain ⟨d1, d2, d3, _⟩ := h2 i (by omega)
  rw [e1, e2, e3, d1, d2, d3]
  exact eqF_refl _ _ _
theorem copies_ok {fs gs : List FV} (hl : gs.length = fs.length) (h : copies fs gs) : gs.all FV.ok = fs.all FV.ok := by
  rw [Bool.eq_iff_iff, List.all_eq_true, List.all_eq_true]
  have key : ∀ i, i < gs.length → (gs[i]?.getD noFV).ok = (fs[i]?.getD noFV).ok := fun i hi => by
    obtain ⟨e1, e2, e3, e4, e5⟩ := h i hi
    simp only [FV.ok, e1, e2, e3, e4, e5]
  constructor
  · intro hh x hx
    obtain ⟨i, hi, rfl⟩ := List.getElem_of_mem hx
    have k := key i (by omega)
    rw [List.getElem?_eq_getElem hi, List.getElem?_eq_getElem (by omega)] at k
    simp only [Option.getD_some] at k
    rw [← k]; exact hh _ (List.getElem_mem _)
  · intro hh x hx
    obtain ⟨i, hi, rfl⟩ := List.getElem_of_mem hx
    have k := key i (by omega)
    rw [List.getElem?_eq_getElem hi, List.getElem?_eq_getElem (by omega)] at k
    simp only [Option.getD_some] at k
    rw [k]; exact hh _ (List.getElem_mem _)
theorem RM.at {W : World} {lo B1 B2 B3 G A T : Nat} {gs ls ts : List FV} {X Y Z : List (List Value)} {p1 q1 p2 q2 p3 q3 : Nat → Nat} (h : RM W lo B1 B2 B3 G A T gs ls ts X Y Z p1 q1 p2 q2 p3 q3) (zg : G ≤ 1048576) (za : A ≤ 1048576) (zt : T ≤ 1048576) : RowAt W (some ⟨B1, 0, none⟩) G gs (some ⟨B2, 0, none⟩) A ls (some ⟨B3, 0, none⟩) T ts :=
  ⟨h.g.g, h.a.g, h.t.g, h.hg, h.ha, h.ht, zg, za, zt⟩
theorem RM.below {W W' : World} {lo B1 B2 B3 G A T : Nat} {gs ls ts : List FV} {X Y Z : List (List Value)} {p1 q1 p2 q2 p3 q3 : Nat → Nat} (h : RM W lo B1 B2 B3 G A T gs ls ts X Y Z p1 q1 p2 q2 p3 q3) (b : Below W.heap.size W W') : RM W' lo B1 B2 B3 G A T gs ls ts X Y Z p1 q1 p2 q2 p3 q3 :=
  ⟨h.g.below b, h.a.below b, h.t.below b, h.hg, h.ha, h.ht, h.xg, h.xa, h.xt, h.l1, h.l2, h.l3, h.u1, h.u2⟩

end Go.Proofs.Ytemcinobgdphnaa
namespace Go.Proofs.Ytemcinobgdphnaa
open Go.RowKit
set_option linter.unusedVariables false
set_option maxRecDepth 100000

/-- A guard holds. -/
def fitB (V A : List Int) (f : FV) : Bool := decide (0 ≤ atV f.C f.D f.K V A)
def fitsB (gs ls ts : List FV) (a t : Nat) (st : Bool) (p q : Nat) (V A : List Int) : Bool := rowB gs ls ts a t st && okN 3 10000 p V && okN 2 9 q A && gs.all (fitB V A)

theorem allP_take_succ {P : FV → Bool} {fs : List FV} {k : Nat} (h : k < fs.length) (h1 : (fs.take k).all P = true) (h2 : P (fs[k]?.getD noFV) = true) : (fs.take (k + 1)).all P = true := by
  rw [List.take_succ_eq_append_getElem h, List.all_append, h1]
  rw [List.getElem?_eq_getElem h] at h2
  simpa using h2
theorem allP_no {P : FV → Bool} {fs : List FV} {k : Nat} (h : k < fs.length) (h2 : P (fs[k]?.getD noFV) = false) : fs.all P = false := by
  rw [List.all_eq_false]
  rw [List.getElem?_eq_getElem h] at h2
  exact ⟨fs[k], List.getElem_mem h, by simpa using h2⟩
theorem all_at {fs : List FV} {k : Nat} (h : fs.all FV.ok = true) (hk : k < fs.length) : (fs[k]?.getD noFV).ok = true := by
  rw [List.getElem?_eq_getElem hk]
  exact List.all_eq_true.1 h _ (List.getElem_mem hk)
theorem rowB_g {gs ls ts : List FV} {a t : Nat} {st : Bool} (h : rowB gs ls ts a t st = true) : gs.all FV.ok = true ∧ ls.all FV.ok = true ∧ ts.all FV.ok = true := by
  simp only [rowB, Bool.and_eq_true] at h
  exact ⟨h.1.1.1, h.1.1.2, h.1.2⟩
theorem okN_nat {c : Nat} {m : Int} {n : Nat} {zs : List Int} (hm : 0 ≤ m) (h : okN c m n zs = true) : n = c ∧ bnd m zs := by
  obtain ⟨h1, h2⟩ := okN_elim hm h
  exact ⟨by omega, h2⟩

set_option maxHeartbeats 3200000 in
theorem sfits_any (g : Option Addr) (G cg : Nat) (gs : List FV) (a : Option Addr) (A ca : Nat) (ls : List FV) (t : Option Addr) (T ct : Nat) (ts : List FV) (st : Bool) (v : Option Addr) (p cv : Nat) (V : List Int) (u : Option Addr) (q cu : Nat) (U : List Int) (w : World) (h : RowAt w g G gs a A ls t T ts) (hV : Ints w v p V) (hU : Ints w u q U) (hp : p ≤ 1048576) (hq : q ≤ 1048576) :
    Calls Try.prog 12 #[rowV g G cg a A ca t T ct st, .slice v p cv, .slice u q cu] w fun e w' => e = .returned (.bool (fitsB gs ls ts A T st p q V U)) ∧ Below w.heap.size w w' := by
  have n0 := BX.new w [.slice g G cg, .slice a A ca, .slice t T ct, .bool st] 25
  have zg := h.zg
  have HG : Hid (gs.length = G) := h.hg
  obtain ⟨rb, hrb⟩ : ∃ rb, rb = rowB gs ls ts A T st := ⟨_, rfl⟩
  obtain ⟨vb, hvb⟩ : ∃ vb, vb = okN 3 10000 p V := ⟨_, rfl⟩
  obtain ⟨ub, hub⟩ : ∃ ub, ub = okN 2 9 q U := ⟨_, rfl⟩
  have HR : Hid (rb = rowB gs ls ts A T st) := hrb
  have HV : Hid (vb = okN 3 10000 p V) := hvb
  have HU : Hid (ub = okN 2 9 q U) := hub
  clear hrb hvb hub
  go_enter Try.func12, Try.ntmps12
  go_wp2_with fail
  refine (srow_any _ _ _ gs _ _ _ ls _ _ _ ts _ _ (h.alloc _)).mono ?_
  rintro e w1 ⟨rfl, b1⟩
  have n1 := n0.below b1
  rw [← HR.out]
  clear n0 b1
  obtain ⟨c0, c1, c2, c3⟩ := n1.p.quad
  cases rb
  · go_wp2
    go_ret
    exact ⟨ret_bool (by rw [fitsB, ← HR.out]; rfl), n1.b⟩
  go_wp2_with fail
  refine (sval_any _ _ _ V _ (hV.below n1.b) hp).mono ?_
  rintro e w2 ⟨rfl, rfl⟩
  rw [← HV.out]
  cases vb
  · go_wp2
    go_ret
    exact ⟨ret_bool (by rw [fitsB, ← HR.out, ← HV.out]; rfl), n1.b⟩
  go_wp2_with fail
  refine (sarg_any _ _ _ U _ (hU.below n1.b) hq).mono ?_
  rintro e w2 ⟨rfl, rfl⟩
  rw [← HU.out]
  cases ub
  · go_wp2
    go_ret
    exact ⟨ret_bool (by rw [fitsB, ← HR.out, ← HV.out, ← HU.out]; rfl), n1.b⟩
  have HF : Hid (fitsB gs ls ts A T st p q V U = gs.all (fitB V U)) := by show _ = _; rw [fitsB, ← HR.out, ← HV.out, ← HU.out]; rfl
  have HO : Hid (gs.all FV.ok = true) := (rowB_g HR.out.symm).1
  obtain ⟨rfl, bV⟩ := okN_nat (c := 3) (by omega) HV.out.symm
  obtain ⟨rfl, bU⟩ := okN_nat (c := 2) (by omega) HU.out.symm
  have hg1 := (h.below n1.b).g
  have hV1 := hV.below n1.b
  have hU1 := hU.below n1.b
  clear h hV hU HR HV HU
  go_wp2_with fail
  go_loopw [7] (fun  i wr => ∃ k : Nat, k ≤ G ∧ i = .int .i64 k ∧ Below w2.heap.size w2 wr ∧ (gs.take k).all (fitB V U) = true) (fun  i _ => G - (intOf i).toNat)
  case atStart => exact ⟨0, Nat.zero_le _, rfl, Below.refl _ _, by simp⟩
  case round =>
    clear c0 c1 c2 c3
    obtain ⟨k, hk, rfl, hb, hall⟩ := hrel
    have HA : Hid ((gs.take k).all (fitB V U) = true) := hall
    have nr := n1.below hb
    obtain ⟨c0, c1, c2, c3⟩ := nr.p.quad
    clear hall
    by_cases hlt : k < G
    · obtain ⟨b, off, rfl, e0, e1, e2, e3⟩ := (hg1.below hb) k (by rw [HG.out]; exact hlt)
      have hok := all_at (k := k) HO.out (by rw [HG.out]; exact hlt)
      generalize HGk : gs[k]?.getD noFV = f at *
      have HG' : Hid (gs[k]?.getD noFV = f) := HGk
      clear HGk hg1
      obtain ⟨fa, fn, fcap, fc, fm, fcap', fK, fC, fD⟩ := f
      obtain ⟨iC, iD, _, _⟩ := e3
      simp only at e0 e1 e2 iC iD
      obtain ⟨rfl, rfl, bC, bD, bK⟩ := formB_elim (show formB fn fm fC fD fK = true from hok)
      have HX : Hid (fitB V U (gs[k]?.getD noFV) = decide (0 ≤ atV fC fD fK V U)) := by show _ = _; rw [HG'.out]; rfl
      clear HG' hok
      generalize HXv : atV fC fD fK V U = x at *
      have hx : Hid (atV fC fD fK V U = x) := HXv
      clear HXv
      by_cases hneg : x < 0
      · go_wp2_with fail
        refine (sat_any _ _ _ _ _ fC fD _ _ _ _ V U _ iC iD (hV1.below hb) (hU1.below hb) bC bD bK bV bU).mono ?_
        rintro e w3 ⟨rfl, b3⟩
        rw [hx.out]
        have n3 := nr.below b3
        go_wp2
        go_ret
        exact ⟨ret_bool (by rw [HF.out, allP_no (k := k) (by rw [HG.out]; exact hlt) (by rw [HX.out]; simp; omega)]), n3.b⟩
      · have hx0 : 0 ≤ x := by omega
        go_wp2_with fail
        refine (sat_any _ _ _ _ _ fC fD _ _ _ _ V U _ iC iD (hV1.below hb) (hU1.below hb) bC bD bK bV bU).mono ?_
        rintro e w3 ⟨rfl, b3⟩
        rw [hx.out]
        have B3 : Below w2.heap.size w2 w3 := hb.trans (b3.mono hb.size)
        clear b3 hb iC iD e0 e1 e2 c0 c1 c2 c3
        go_wp2
        go_roundw
        case rel => exact ⟨k + 1, by omega, by go_num, B3, allP_take_succ (by rw [HG.out]; exact hlt) HA.out (by rw [HX.out]; simp; omega)⟩
        case measure => simp [intOf]; omega
    · go_wp2
      go_ret
      exact ⟨ret_bool (by rw [HF.out]; have := HA.out; rw [List.take_of_length_le (by rw [HG.out]; omega)] at this; exact this.symm), nr.b⟩

set_option maxHeartbeats 3200000 in
theorem ifits_any (g : Option Addr) (G cg : Nat) (gs : List FV) (a : Option Addr) (A ca : Nat) (ls : List FV) (t : Option Addr) (T ct : Nat) (ts : List FV) (st : Bool) (v : Option Addr) (p cv : Nat) (V : List Int) (u : Option Addr) (q cu : Nat) (U : List Int) (w : World) (h : RowAt w g G gs a A ls t T ts) (hV : Ints w v p V) (hU : Ints w u q U) (hp : p ≤ 1048576) (hq : q ≤ 1048576) :
    Calls Try.prog 11 #[rowV g G cg a A ca t T ct st, .slice v p cv, .slice u q cu] w fun e w' => e = .returned (.bool (fitsB gs ls ts A T st p q V U)) ∧ Below w.heap.size w w' := by
  have n0 := BX.new w [.slice g G cg, .slice a A ca, .slice t T ct, .bool st] 25
  have zg := h.zg
  have HG : Hid (gs.length = G) := h.hg
  obtain ⟨rb, hrb⟩ : ∃ rb, rb = rowB gs ls ts A T st := ⟨_, rfl⟩
  obtain ⟨vb, hvb⟩ : ∃ vb, vb = okN 3 10000 p V := ⟨_, rfl⟩
  obtain ⟨ub, hub⟩ : ∃ ub, ub = okN 2 9 q U := ⟨_, rfl⟩
  have HR : Hid (rb = rowB gs ls ts A T st) := hrb
  have HV : Hid (vb = okN 3 10000 p V) := hvb
  have HU : Hid (ub = okN 2 9 q U) := hub
  clear hrb hvb hub
  go_enter Try.func11, Try.ntmps11
  go_wp2_with fail
  refine (irow_any _ _ _ gs _ _ _ ls _ _ _ ts _ _ (h.alloc _)).mono ?_
  rintro e w1 ⟨rfl, b1⟩
  have n1 := n0.below b1
  rw [← HR.out]
  clear n0 b1
  obtain ⟨c0, c1, c2, c3⟩ := n1.p.quad
  cases rb
  · go_wp2
    go_ret
    exact ⟨ret_bool (by rw [fitsB, ← HR.out]; rfl), n1.b⟩
  go_wp2_with fail
  refine (ival_any _ _ _ V _ (hV.below n1.b) hp).mono ?_
  rintro e w2 ⟨rfl, rfl⟩
  rw [← HV.out]
  cases vb
  · go_wp2
    go_ret
    exact ⟨ret_bool (by rw [fitsB, ← HR.out, ← HV.out]; rfl), n1.b⟩
  go_wp2_with fail
  refine (iarg_any _ _ _ U _ (hU.below n1.b) hq).mono ?_
  rintro e w2 ⟨rfl, rfl⟩
  rw [← HU.out]
  cases ub
  · go_wp2
    go_ret
    exact ⟨ret_bool (by rw [fitsB, ← HR.out, ← HV.out, ← HU.out]; rfl), n1.b⟩
  have HF : Hid (fitsB gs ls ts A T st p q V U = gs.all (fitB V U)) := by show _ = _; rw [fitsB, ← HR.out, ← HV.out, ← HU.out]; rfl
  have HO : Hid (gs.all FV.ok = true) := (rowB_g HR.out.symm).1
  obtain ⟨rfl, bV⟩ := okN_nat (c := 3) (by omega) HV.out.symm
  obtain ⟨rfl, bU⟩ := okN_nat (c := 2) (by omega) HU.out.symm
  have hg1 := (h.below n1.b).g
  have hV1 := hV.below n1.b
  have hU1 := hU.below n1.b
  clear h hV hU HR HV HU
  go_wp2_with fail
  go_loopw [8, 25] (fun _ i wr => ∃ k : Nat, k ≤ G ∧ i = .int .i64 k ∧ Below w2.heap.size w2 wr ∧ (gs.take k).all (fitB V U) = true) (fun _ i _ => G - (intOf i).toNat)
  case atStart => exact ⟨0, Nat.zero_le _, rfl, Below.refl _ _, by simp⟩
  case round =>
    clear c0 c1 c2 c3
    obtain ⟨k, hk, rfl, hb, hall⟩ := hrel
    have HA : Hid ((gs.take k).all (fitB V U) = true) := hall
    have nr := n1.below hb
    obtain ⟨c0, c1, c2, c3⟩ := nr.p.quad
    clear hall
    by_cases hlt : k < G
    · obtain ⟨b, off, rfl, e0, e1, e2, e3⟩ := (hg1.below hb) k (by rw [HG.out]; exact hlt)
      have hok := all_at (k := k) HO.out (by rw [HG.out]; exact hlt)
      generalize HGk : gs[k]?.getD noFV = f at *
      have HG' : Hid (gs[k]?.getD noFV = f) := HGk
      clear HGk hg1
      obtain ⟨fa, fn, fcap, fc, fm, fcap', fK, fC, fD⟩ := f
      obtain ⟨iC, iD, _, _⟩ := e3
      simp only at e0 e1 e2 iC iD
      obtain ⟨rfl, rfl, bC, bD, bK⟩ := formB_elim (show formB fn fm fC fD fK = true from hok)
      have HX : Hid (fitB V U (gs[k]?.getD noFV) = decide (0 ≤ atV fC fD fK V U)) := by show _ = _; rw [HG'.out]; rfl
      clear HG' hok
      generalize HXv : atV fC fD fK V U = x at *
      have hx : Hid (atV fC fD fK V U = x) := HXv
      clear HXv
      by_cases hneg : x < 0
      · go_wp2_with fail
        refine (iat_any _ _ _ _ _ fC fD _ _ _ _ V U _ (iC.alloc _) (iD.alloc _) ((hV1.below hb).alloc _) ((hU1.below hb).alloc _) bC bD bK bV bU).mono ?_
        rintro e w3 ⟨rfl, b3⟩
        rw [hx.out]
        have n3 := (nr.alloc _).below b3
        go_wp2
        go_ret
        exact ⟨ret_bool (by rw [HF.out, allP_no (k := k) (by rw [HG.out]; exact hlt) (by rw [HX.out]; simp; omega)]), n3.b⟩
      · have hx0 : 0 ≤ x := by omega
        go_wp2_with fail
        refine (iat_any _ _ _ _ _ fC fD _ _ _ _ V U _ (iC.alloc _) (iD.alloc _) ((hV1.below hb).alloc _) ((hU1.below hb).alloc _) bC bD bK bV bU).mono ?_
        rintro e w3 ⟨rfl, b3⟩
        rw [hx.out]
        have B3 : Below w2.heap.size w2 w3 := (hb.alloc hb.size _).trans (b3.mono (by have := hb.size; simp; omega))
        clear b3 hb iC iD e0 e1 e2 c0 c1 c2 c3
        go_wp2
        go_roundw
        case rel => exact ⟨k + 1, by omega, by go_num, B3, allP_take_succ (by rw [HG.out]; exact hlt) HA.out (by rw [HX.out]; simp; omega)⟩
        case measure => simp [intOf]; omega
    · go_wp2
      go_ret
      exact ⟨ret_bool (by rw [HF.out]; have := HA.out; rw [List.take_of_length_le (by rw [HG.out]; omega)] at this; exact this.symm), nr.b⟩

end Go.Proofs.Ytemcinobgdphnaa
namespace Go.Proofs.Ytemcinobgdphnaa
open Go.RowKit
set_option linter.unusedVariables false
set_option maxRecDepth 100000

/-- What a form is. -/
def atF (V U : List Int) (f : FV) : Int := atV f.C f.D f.K V U
theorem atF_bnd {V U : List Int} {f : FV} (h : f.ok = true) (bV : bnd 10000 V) (bU : bnd 9 U) : -1000000000000 ≤ atF V U f ∧ atF V U f ≤ 1000000000000 := by
  obtain ⟨_, _, bC, bD, k1, k2⟩ := formB_elim (show formB f.n f.m f.C f.D f.K = true from h)
  have h1 := dot_bnd (bndP_of bC bV (by omega) (by omega)) 3
  have h2 := dot_bnd (bndP_of bD bU (by omega) (by omega)) 2
  unfold atF atV
  omega
theorem ats_bnd {V U : List Int} {fs : List FV} (h : fs.all FV.ok = true) (bV : bnd 10000 V) (bU : bnd 9 U) : bnd 1000000000000 (fs.map (atF V U)) := fun i => by
  by_cases hi : i < fs.length
  · have := atF_bnd (List.all_eq_true.1 h _ (List.getElem_mem hi)) bV bU
    rw [List.getElem?_map, List.getElem?_eq_getElem hi]
    simpa using this
  · rw [List.getElem?_eq_none (by simp; omega)]
    simp

set_option maxHeartbeats 1600000 in
theorem formsAt_any (ad : Option Addr) (N cap : Nat) (fs : List FV) (v : Option Addr) (cv : Nat) (u : Option Addr) (cu : Nat) (V U : List Int) (w : World) (hN : fs.length = N) (hF : FormsG w ad fs) (hN1 : N ≤ 1048576) (hok : fs.all FV.ok = true) (hV : Ints w v 3 V) (hU : Ints w u 2 U) (bV : bnd 10000 V) (bU : bnd 9 U) :
    Calls Try.prog 42 #[.slice ad N cap, .slice v 3 cv, .slice u 2 cu] w fun e w' => ∃ r, e = .returned r ∧ JA w r (fs.map (atF V U)) w' := by
  have HN : Hid (fs.length = N) := hN
  have HO : Hid (fs.all FV.ok = true) := hok
  clear hN hok
  obtain ⟨i0, hi, hz0, hz1, hz2⟩ := info_parts Try.infoInt
  go_enter Try.func42, Try.ntmps42
  go_wp2_with fail
  go_loopw [7, 9, 12] (fun r _ i wr => ∃ k : Nat, k ≤ N ∧ i = .int .i64 k ∧ ∃ xs : List Int, xs.length = k ∧ xs = (fs.take k).map (atF V U) ∧ JA w r xs wr) (fun _ _ i _ => N - (intOf i).toNat)
  case atStart => exact ⟨0, Nat.zero_le _, rfl, [], rfl, rfl, JA.nil w⟩
  case round =>
    obtain ⟨k, hk, rfl, xs, hxl, hxs, j⟩ := hrel
    have HL : Hid (xs.length = k) := hxl
    have HXS : Hid (xs = (fs.take k).map (atF V U)) := hxs
    clear hxl hxs
    by_cases hlt : k < N
    · obtain ⟨b, off, rfl, e0, e1, e2, e3⟩ := (hF.below j.b) k (by rw [HN.out]; exact hlt)
      have hok := all_at (k := k) HO.out (by rw [HN.out]; exact hlt)
      have HP : Hid ((fs.take (k + 1)).map (atF V U) = (fs.take k).map (atF V U) ++ [atF V U (fs[k]?.getD noFV)]) := by
        have hl : k < fs.length := by rw [HN.out]; exact hlt
        show _ = _
        rw [List.take_succ_eq_append_getElem hl, List.map_append, List.getElem?_eq_getElem hl]; rfl
      generalize HG : fs[k]?.getD noFV = f at *
      clear HG hF
      obtain ⟨fa, fn, fcap, fc, fm, fcap', fK, fC, fD⟩ := f
      obtain ⟨iC, iD, _, _⟩ := e3
      simp only at e0 e1 e2 iC iD
      obtain ⟨rfl, rfl, bC, bD, bK⟩ := formB_elim (show formB fn fm fC fD fK = true from hok)
      clear hok
      obtain ⟨x, hx⟩ : ∃ x, atV fC fD fK V U = x := ⟨_, rfl⟩
      have HX : Hid (atV fC fD fK V U = x) := hx
      have HP2 : Hid (xs ++ [x] = (fs.take (k + 1)).map (atF V U)) := by show _ = _; rw [HP.out, HXS.out, ← hx]; rfl
      clear hx
      have hjb := j.b
      go_wp2_with fail
      refine (iat_any _ _ _ _ _ fC fD _ _ _ _ V U _ (iC.alloc _) (iD.alloc _) ((hV.below hjb).alloc _) ((hU.below hjb).alloc _) bC bD bK bV bU).mono ?_
      rintro e w3 ⟨rfl, b3⟩
      rw [HX.out]
      have j3 := (j.alloc _).below b3
      have jo := j3.o
      rw [HL.out] at jo
      have hj3 := j3.b.size
      clear b3 iC iD e0 e1 e2 j hjb
      go_wp2_with (at_builtin; go_must (refine wpList_append_lies _ rfl (.tmp 16) (.tmp 21) 26 rfl w.heap.size 3 i0 (.int .i64 0) 1 8 Try.underlying26 hi hz0 hz1 hz2 rfl (by decide) _ _ _ rfl (jo.alloc _) ⟨w3.heap.size, 0, none⟩ 1 1 [.int .i64 x] rfl rfl (news1 _ _ _) (one1 _ _) (by omega) (by unfold maxLen; omega) (by omega) (by rw [World.size_alloc]; omega) _ rfl ?_); intro g cp w4 hown hgrow hat hlt1)
      have j4 := j3.app HL.out hown hgrow
      clear hown hgrow jo j3 hat
      go_wp2
      go_roundw
      case rel => exact ⟨k + 1, by omega, by go_num, _, by rw [List.length_append, HL.out]; rfl, HP2.out, j4⟩
      case measure => simp [intOf]; omega
    · have HT : Hid (xs = fs.map (atF V U)) := by show xs = _; rw [HXS.out, List.take_of_length_le (by rw [HN.out]; omega)]
      go_wp2
      go_ret
      exact ⟨_, rfl, by rw [← HT.out]; exact j⟩

/-- What an act came to, as a value. -/
abbrev resV (code : Int) (a : Option Addr) (n cap : Nat) : Value := .agg #[.int .i64 code, .slice a n cap]
/-- What a call has made: a code, what is told, what the pots have then; in new memory. -/
def ResD (w w' : World) (e : Ending) (code : Int) (tl pl : List Int) : Prop :=
  ∃ a n cap B1 b m cap' B2, e = .returned (.tuple #[resV code a n cap, .slice b m cap']) ∧ tl.length = n ∧ pl.length = m ∧ Below w.heap.size w w' ∧ OwnX w' a B1 n tl ∧ OwnX w' b B2 m pl ∧ (0 < n → w.heap.size ≤ B1) ∧ (0 < m → w.heap.size ≤ B2) ∧ (0 < n → 0 < m → B1 ≠ B2)
def endCode (P : List Int) : Int := if okN 3 10000 3 P then 1 else 3
def endTells (P T : List Int) : List Int := if okN 3 10000 3 P then T else []
def endPots (V P : List Int) : List Int := if okN 3 10000 3 P then P else V

set_option maxHeartbeats 1600000 in
theorem done_any (v : Option Addr) (cv : Nat) (p : Option Addr) (cp B2 : Nat) (t : Option Addr) (n ct B1 : Nat) (V P T : List Int) (w : World) (hV : Ints w v 3 V) (hP : OwnX w p B2 3 P) (hT : OwnX w t B1 n T) (hne : 0 < n → B1 ≠ B2) (lo : Nat) (h1 : 0 < n → lo ≤ B1) (h2 : lo ≤ B2) (hlo : lo ≤ w.heap.size) :
    Calls Try.prog 43 #[.slice v 3 cv, .slice p 3 cp, .slice t n ct] w fun e w' => ∃ a n' cap B1' b m cap' B2', e = .returned (.tuple #[resV (endCode P) a n' cap, .slice b m cap']) ∧ (endTells P T).length = n' ∧ (endPots V P).length = m ∧ Below w.heap.size w w' ∧ OwnX w' a B1' n' (endTells P T) ∧ OwnX w' b B2' m (endPots V P) ∧ (0 < n' → lo ≤ B1') ∧ (0 < m → lo ≤ B2') ∧ (0 < n' → 0 < m → B1' ≠ B2') := by
  have l1 : 0 < n → B1 < w.heap.size := fun h => hT.lt h
  have l2 : B2 < w.heap.size := hP.lt (by omega)
  obtain ⟨i0, hi, hz0, hz1, hz2⟩ := info_parts Try.infoInt
  have al : Below w.heap.size w (w.alloc (.cells #[.int .i64 0, .slice none 0 0] 38)) := (Below.refl _ _).alloc (Nat.le_refl _) _
  cases hok : okN 3 10000 3 P
  · have e1 : endCode P = 3 := by rw [endCode, hok]; rfl
    have e2 : endTells P T = [] := by rw [endTells, hok]; rfl
    have e3 : endPots V P = V := by rw [endPots, hok]; rfl
    rw [e1, e2, e3]
    clear e1 e2 e3
    go_enter Try.func43, Try.ntmps43
    go_wp2_with fail
    refine (ival_any _ _ _ P _ (hP.alloc _).ints (by omega)).mono ?_
    rintro e w1 ⟨rfl, hw1⟩
    rw [hok, hw1]
    clear hw1
    go_wp2_with fail
    refine (clone_any _ _ _ V _ (hV.alloc _) (by omega) (by omega)).mono ?_
    rintro e w2 ⟨r, rfl, j⟩
    have rc := (Cel.new w [.int .i64 0, .slice none 0 0] 38).below j.b
    obtain ⟨a, cap, B, rfl, hX, hB⟩ := j.ownx hV.1
    rw [World.size_alloc] at hB
    have bb := al.trans (j.b.mono al.size)
    have r0 := rc.cell 0
    have r1 := rc.cell 1
    have f0 := rc.free 0
    have f1 := rc.free 1
    simp only [List.getElem?_cons_zero, List.getElem?_cons_succ] at r0 r1
    have hlt := rc.lt
    clear rc j
    go_wp2
    refine bodyPost_ret (v := .tuple #[resV 3 none 0 0, .slice a 3 cap]) (by simp [results, Try.results43, go_sem, r0, r1]) rfl ⟨none, 0, 0, 0, a, 3, cap, B, rfl, rfl, hV.1, ?_, OwnX.nil _ _ _, ?_, fun h => by omega, fun h => by have := hB h; omega, fun h => by omega⟩
    · exact (bb.setCell (Nat.le_refl _) _).setCell (Nat.le_refl _) _
    · exact (hX.setOther (fun h => by have := hB h; omega) _ _).setOther (fun h => by have := hB h; omega) _ _
  · have e1 : endCode P = 1 := by rw [endCode, hok]; rfl
    have e2 : endTells P T = T := by rw [endTells, hok]; rfl
    have e3 : endPots V P = P := by rw [endPots, hok]; rfl
    rw [e1, e2, e3]
    clear e1 e2 e3
    go_enter Try.func43, Try.ntmps43
    go_wp2_with fail
    refine (ival_any _ _ _ P _ (hP.alloc _).ints (by omega)).mono ?_
    rintro e w1 ⟨rfl, hw1⟩
    rw [hok, hw1]
    clear hw1
    go_wp2
    refine bodyPost_ret (v := .tuple #[resV 1 t n ct, .slice p 3 cp]) (by simp [results, Try.results43, go_sem]) rfl ⟨t, n, ct, B1, p, 3, cp, B2, rfl, hT.1, hP.1, ?_, ?_, ?_, h1, fun _ => h2, fun h _ => hne h⟩
    · first | exact (Below.refl _ _).alloc (Nat.le_refl _) _ | exact (((Below.refl _ _).alloc (Nat.le_refl _) _).setCell (Nat.le_refl _) _).setCell (Nat.le_refl _) _
    · first | exact hT.alloc _ | exact ((hT.alloc _).setOther (fun h => by have := l1 h; omega) _ _).setOther (fun h => by have := l1 h; omega) _ _
    · first | exact hP.alloc _ | exact ((hP.alloc _).setOther (fun h => by omega) _ _).setOther (fun h => by omega) _ _

set_option maxHeartbeats 1600000 in
theorem end_any (v : Option Addr) (cv : Nat) (p : Option Addr) (cp B2 : Nat) (t : Option Addr) (n ct B1 : Nat) (V P T : List Int) (w : World) (hV : Ints w v 3 V) (hP : OwnX w p B2 3 P) (hT : OwnX w t B1 n T) (hne : 0 < n → B1 ≠ B2) (lo : Nat) (h1 : 0 < n → lo ≤ B1) (h2 : lo ≤ B2) (hlo : lo ≤ w.heap.size) :
    Calls Try.prog 44 #[.slice v 3 cv, .slice p 3 cp, .slice t n ct] w fun e w' => ∃ a n' cap B1' b m cap' B2', e = .returned (.tuple #[resV (endCode P) a n' cap, .slice b m cap']) ∧ (endTells P T).length = n' ∧ (endPots V P).length = m ∧ Below w.heap.size w w' ∧ OwnX w' a B1' n' (endTells P T) ∧ OwnX w' b B2' m (endPots V P) ∧ (0 < n' → lo ≤ B1') ∧ (0 < m → lo ≤ B2') ∧ (0 < n' → 0 < m → B1' ≠ B2') := by
  have l1 : 0 < n → B1 < w.heap.size := fun h => hT.lt h
  have l2 : B2 < w.heap.size := hP.lt (by omega)
  obtain ⟨i0, hi, hz0, hz1, hz2⟩ := info_parts Try.infoInt
  have al : Below w.heap.size w (w.alloc (.cells #[.int .i64 0, .slice none 0 0] 38)) := (Below.refl _ _).alloc (Nat.le_refl _) _
  cases hok : okN 3 10000 3 P
  · have e1 : endCode P = 3 := by rw [endCode, hok]; rfl
    have e2 : endTells P T = [] := by rw [endTells, hok]; rfl
    have e3 : endPots V P = V := by rw [endPots, hok]; rfl
    rw [e1, e2, e3]
    clear e1 e2 e3
    go_enter Try.func44, Try.ntmps44
    go_wp2_with fail
    refine (sval_any _ _ _ P _ (hP.alloc _).ints (by omega)).mono ?_
    rintro e w1 ⟨rfl, hw1⟩
    rw [hok]
    have rc0 : Cel w1 w.heap.size [.int .i64 0, .slice none 0 0] 38 := by rw [hw1]; exact Cel.new w _ _
    have b0 : Below w.heap.size w w1 := by rw [hw1]; exact al
    have hV1 := hV.below b0
    have hlt := rc0.lt
    clear hw1 al
    obtain ⟨vb, vo, rfl, hcell⟩ := hV1.pos (by omega)
    have hcl : ∀ i, i < 3 → (w1.alloc (.cells #[] 3)).cell? ⟨vb, vo + i, none⟩ = some (.int .i64 (V.getD i 0)) := fun i hi => by
      rw [((Below.refl w1.heap.size w1).alloc (Nat.le_refl _) _).cell (p := ⟨vb, vo + i, none⟩) (block_lt (hcell i hi))]; exact hcell i hi
    have HC : Hid _ := newsI hcl hV.1
    have HL : Hid ((V.map (Value.int .i64)).length = 3 * 1) := by show _ = _; rw [List.length_map, hV.1]
    have HJ : Hid _ := (JA.lit w1).o
    clear hcl hcell
    go_wp2_with (at_builtin; go_must (refine wpList_append_lies _ rfl (.tmp 12) (.tmp 13) 26 rfl w1.heap.size 3 i0 (.int .i64 0) 1 8 Try.underlying26 hi hz0 hz1 hz2 rfl (by decide) _ 0 [] rfl HJ.out ⟨vb, vo, none⟩ 3 cv (V.map (Value.int .i64)) rfl HL.out HC.out (oneI _) (by omega) (by unfold maxLen; omega) (by omega) (by rw [World.size_alloc]; omega) _ rfl ?_); intro g cp2 w2 hown hgrow hat hlt1; have j := JA.copied hV.1 hown hgrow; have rc := rc0.below j.b; have r0 := rc.cell 0; have r1 := rc.cell 1; have f0 := rc.free 0; have f1 := rc.free 1; simp only [List.getElem?_cons_zero, List.getElem?_cons_succ] at r0 r1; have hlt2 := rc.lt; clear hown hgrow hat)
    obtain ⟨a, cap, B, hv2, hX, hB⟩ := j.ownx hV.1
    simp only [Value.slice.injEq, true_and] at hv2
    obtain ⟨rfl, rfl⟩ := hv2
    have bb := b0.trans (j.b.mono b0.size)
    clear rc j rc0
    refine bodyPost_ret (v := .tuple #[resV 3 none 0 0, .slice (some ⟨g, 0, none⟩) 3 cp2]) (by simp [results, Try.results44, go_sem, r0, r1]) rfl ⟨none, 0, 0, 0, some ⟨g, 0, none⟩, 3, cp2, B, rfl, rfl, hV.1, ?_, OwnX.nil _ _ _, ?_, fun h => by omega, fun h => by have := hB h; omega, fun h => by omega⟩
    · exact (bb.setCell (Nat.le_refl _) _).setCell (Nat.le_refl _) _
    · exact (hX.setOther (fun h => by have := hB h; omega) _ _).setOther (fun h => by have := hB h; omega) _ _
  · have e1 : endCode P = 1 := by rw [endCode, hok]; rfl
    have e2 : endTells P T = T := by rw [endTells, hok]; rfl
    have e3 : endPots V P = P := by rw [endPots, hok]; rfl
    rw [e1, e2, e3]
    clear e1 e2 e3
    go_enter Try.func44, Try.ntmps44
    go_wp2_with fail
    refine (sval_any _ _ _ P _ (hP.alloc _).ints (by omega)).mono ?_
    rintro e w1 ⟨rfl, hw1⟩
    rw [hok, hw1]
    clear hw1
    go_wp2
    refine bodyPost_ret (v := .tuple #[resV 1 t n ct, .slice p 3 cp]) (by simp [results, Try.results44, go_sem]) rfl ⟨t, n, ct, B1, p, 3, cp, B2, rfl, hT.1, hP.1, ?_, ?_, ?_, h1, fun _ => h2, fun h _ => hne h⟩
    · first | exact (Below.refl _ _).alloc (Nat.le_refl _) _ | exact (((Below.refl _ _).alloc (Nat.le_refl _) _).setCell (Nat.le_refl _) _).setCell (Nat.le_refl _) _
    · first | exact hT.alloc _ | exact ((hT.alloc _).setOther (fun h => by have := l1 h; omega) _ _).setOther (fun h => by have := l1 h; omega) _ _
    · first | exact hP.alloc _ | exact ((hP.alloc _).setOther (fun h => by omega) _ _).setOther (fun h => by omega) _ _

end Go.Proofs.Ytemcinobgdphnaa
namespace Go.Proofs.Ytemcinobgdphnaa
open Go.RowKit
set_option linter.unusedVariables false

theorem zip_take {xs ys : List Int} {k : Nat} (hx : k < xs.length) (hy : k < ys.length) : (List.zipWith (· + ·) xs ys).take (k + 1) = (List.zipWith (· + ·) xs ys).take k ++ [xs[k]?.getD 0 + ys[k]?.getD 0] := by
  have hl : k < (List.zipWith (· + ·) xs ys).length := by rw [List.length_zipWith]; omega
  rw [List.take_succ_eq_append_getElem hl, List.getElem_zipWith, List.getElem?_eq_getElem hx, List.getElem?_eq_getElem hy]
  rfl

set_option maxHeartbeats 1600000 in
theorem sums_any (a c : Option Addr) (cap cap' : Nat) (xs ys : List Int) (M M' : Int) (w : World) (h : Ints w a 3 xs) (h' : Ints w c 3 ys) (hM : bnd M xs) (hM' : bnd M' ys) (hb : M ≤ 2000000000000000000) (hb' : M' ≤ 2000000000000000000) :
    Calls Try.prog 41 #[.slice a 3 cap, .slice c 3 cap'] w fun e w' => ∃ a' cap2 B, e = .returned (.slice a' 3 cap2) ∧ Below w.heap.size w w' ∧ OwnX w' a' B 3 (List.zipWith (· + ·) xs ys) ∧ w.heap.size ≤ B := by
  have HX : Hid (xs.length = 3) := h.1
  go_enter Try.func41, Try.ntmps41
  go_wp2_with fail
  refine (clone_any _ _ _ xs _ h (by omega) (by omega)).mono ?_
  rintro e w1 ⟨v, rfl, j⟩
  have hc1 := h'.below j.b
  have B1 := j.b
  obtain ⟨x, cx, B, rfl, hO, hB0⟩ := j.ownx HX.out
  have hB := hB0 (by omega)
  clear j hB0
  go_wp2_with fail
  refine (addX_any _ _ B _ _ _ xs ys M M' _ hO hc1 (fun b o e => by
    obtain ⟨b1, o1, e1, hcell⟩ := h'.pos (by omega)
    rw [e1] at e
    simp only [Option.some.injEq, Addr.mk.injEq, and_true] at e
    have := block_lt (hcell 0 (by omega))
    omega) (by omega) hM hM' hb hb').mono ?_
  rintro e w2 ⟨rfl, t2, hO2⟩
  have B2 : Below w.heap.size w w2 := B1.trans (t2.below B1.size (fun k hk => by rw [hk.1]; exact hB))
  go_wp2
  go_ret
  exact ⟨_, _, B, rfl, B2, hO2, hB⟩

end Go.Proofs.Ytemcinobgdphnaa
namespace Go.Proofs.Ytemcinobgdphnaa
open Go.RowKit
set_option linter.unusedVariables false
set_option maxRecDepth 100000

theorem BX.touch {S : Nat → Prop} {w W W' : World} {B : Nat} {la : List Value} {ty : TypeId} (h : BX w B la ty W) (t : Touch S W W') (hs : ∀ k, S k → w.heap.size ≤ k) (hn : ¬ S B) : BX w B la ty W' :=
  ⟨h.p.touch t hn, h.b.trans (t.below h.b.size hs)⟩

/-- All that is asked for is ok. -/
def doB (gs ls ts : List FV) (A T : Nat) (st : Bool) (p q : Nat) (V U : List Int) : Bool := rowB gs ls ts A T st && okN 3 10000 p V && okN 2 9 q U
/-- What the pots would have. -/
def doX (ls : List FV) (V U : List Int) : List Int := List.zipWith (· + ·) V (ls.map (atF V U))
def doCode (gs ls ts : List FV) (A T : Nat) (st : Bool) (p q : Nat) (V U : List Int) : Int := if doB gs ls ts A T st p q V U then (if st then 2 else endCode (doX ls V U)) else 0
def doTells (gs ls ts : List FV) (A T : Nat) (st : Bool) (p q : Nat) (V U : List Int) : List Int := if doB gs ls ts A T st p q V U then (if st then [] else endTells (doX ls V U) (ts.map (atF V U))) else []
def doPots (gs ls ts : List FV) (A T : Nat) (st : Bool) (p q : Nat) (V U : List Int) : List Int := if doB gs ls ts A T st p q V U then (if st then V else endPots V (doX ls V U)) else []
theorem do_no {gs ls ts : List FV} {A T : Nat} {st : Bool} {p q : Nat} {V U : List Int} (h : doB gs ls ts A T st p q V U = false) : doCode gs ls ts A T st p q V U = 0 ∧ doTells gs ls ts A T st p q V U = [] ∧ doPots gs ls ts A T st p q V U = [] := by
  simp [doCode, doTells, doPots, h]
theorem do_stop {gs ls ts : List FV} {A T : Nat} {p q : Nat} {V U : List Int} (h : doB gs ls ts A T true p q V U = true) : doCode gs ls ts A T true p q V U = 2 ∧ doTells gs ls ts A T true p q V U = [] ∧ doPots gs ls ts A T true p q V U = V := by
  simp [doCode, doTells, doPots, h]
theorem do_go {gs ls ts : List FV} {A T : Nat} {p q : Nat} {V U : List Int} (h : doB gs ls ts A T false p q V U = true) : doCode gs ls ts A T false p q V U = endCode (doX ls V U) ∧ doTells gs ls ts A T false p q V U = endTells (doX ls V U) (ts.map (atF V U)) ∧ doPots gs ls ts A T false p q V U = endPots V (doX ls V U) := by
  simp [doCode, doTells, doPots, h]
theorem rowB_three {gs ls ts : List FV} {A T : Nat} (h : rowB gs ls ts A T false = true) : A = 3 := by
  simp only [rowB, Bool.and_eq_true] at h
  have := h.2
  simp at this
  omega
theorem Cel.pair {w : World} {B : Nat} {x y : Value} {t : TypeId} (h : Cel w B [x, y] t) : w.cell? ⟨B, 0, none⟩ = some x ∧ w.cell? ⟨B, 1, none⟩ = some y ∧ w.frozen? ⟨B, 0, none⟩ = false ∧ w.frozen? ⟨B, 1, none⟩ = false := ⟨h.cell 0, h.cell 1, h.free 0, h.free 1⟩

set_option maxHeartbeats 6400000 in
theorem idoing_any (g : Option Addr) (G cg : Nat) (gs : List FV) (a : Option Addr) (A ca : Nat) (ls : List FV) (t : Option Addr) (T ct : Nat) (ts : List FV) (st : Bool) (v : Option Addr) (p cv : Nat) (V : List Int) (u : Option Addr) (q cu : Nat) (U : List Int) (w : World) (h : RowAt w g G gs a A ls t T ts) (hV : Ints w v p V) (hU : Ints w u q U) (hp : p ≤ 1048576) (hq : q ≤ 1048576) :
    Calls Try.prog 15 #[rowV g G cg a A ca t T ct st, .slice v p cv, .slice u q cu] w fun e w' => ResD w w' e (doCode gs ls ts A T st p q V U) (doTells gs ls ts A T st p q V U) (doPots gs ls ts A T st p q V U) := by
  have n0 := (BX.new w [.slice g G cg, .slice a A ca, .slice t T ct, .bool st] 25).alloc (.cells #[.int .i64 0, .slice none 0 0] 38)
  have rc0 := Cel.new (w.alloc (.cells #[.slice g G cg, .slice a A ca, .slice t T ct, .bool st] 25)) [.int .i64 0, .slice none 0 0] 38
  rw [World.size_alloc] at rc0
  have zt := h.zt
  obtain ⟨i0, hi, hz0, hz1, hz2⟩ := info_parts Try.infoInt
  obtain ⟨rb, hrb⟩ : ∃ rb, rb = rowB gs ls ts A T st := ⟨_, rfl⟩
  obtain ⟨vb, hvb⟩ : ∃ vb, vb = okN 3 10000 p V := ⟨_, rfl⟩
  obtain ⟨ub, hub⟩ : ∃ ub, ub = okN 2 9 q U := ⟨_, rfl⟩
  have HR : Hid (rb = rowB gs ls ts A T st) := hrb
  have HV : Hid (vb = okN 3 10000 p V) := hvb
  have HU : Hid (ub = okN 2 9 q U) := hub
  clear hrb hvb hub
  go_enter Try.func15, Try.ntmps15
  go_wp2_with fail
  refine (irow_any _ _ _ gs _ _ _ ls _ _ _ ts _ _ ((h.alloc _).alloc _)).mono ?_
  rintro e w1 ⟨rfl, b1⟩
  have n1 := n0.below b1
  have rc1 := rc0.below b1
  have hlt1 := rc1.lt
  rw [← HR.out]
  clear n0 b1 rc0
  obtain ⟨c0, c1, c2, c3⟩ := n1.p.quad
  obtain ⟨d0, d1, f0, f1⟩ := rc1.pair
  cases rb
  · have E : Hid _ := do_no (p := p) (q := q) (V := V) (U := U) (show doB gs ls ts A T st p q V U = false by rw [doB, ← HR.out]; rfl)
    go_wp2
    refine bodyPost_ret (v := .tuple #[resV 0 none 0 0, .slice none 0 0]) (by simp [results, Try.results15, go_sem, d0, d1]) rfl ?_
    obtain ⟨e1, e2, e3⟩ := E.out
    rw [e1, e2, e3]
    exact ⟨none, 0, 0, 0, _, 0, 0, 0, rfl, rfl, rfl, (n1.b.setCell (by simp only []; omega) _).setCell (by simp only []; omega) _, OwnX.nil _ _ _, OwnX.nil _ _ _, fun h => by omega, fun h => by omega, fun h => by omega⟩
  go_wp2_with fail
  refine (ival_any _ _ _ V _ (hV.below n1.b) hp).mono ?_
  rintro e w2 ⟨rfl, hw2⟩
  rw [← HV.out, hw2]
  clear hw2
  cases vb
  · have E : Hid _ := do_no (p := p) (q := q) (V := V) (U := U) (show doB gs ls ts A T st p q V U = false by rw [doB, ← HR.out, ← HV.out]; rfl)
    go_wp2
    refine bodyPost_ret (v := .tuple #[resV 0 none 0 0, .slice none 0 0]) (by simp [results, Try.results15, go_sem, d0, d1]) rfl ?_
    obtain ⟨e1, e2, e3⟩ := E.out
    rw [e1, e2, e3]
    exact ⟨none, 0, 0, 0, _, 0, 0, 0, rfl, rfl, rfl, (n1.b.setCell (by simp only []; omega) _).setCell (by simp only []; omega) _, OwnX.nil _ _ _, OwnX.nil _ _ _, fun h => by omega, fun h => by omega, fun h => by omega⟩
  go_wp2_with fail
  refine (iarg_any _ _ _ U _ (hU.below n1.b) hq).mono ?_
  rintro e w2 ⟨rfl, hw2⟩
  rw [← HU.out, hw2]
  clear hw2
  cases ub
  · have E : Hid _ := do_no (p := p) (q := q) (V := V) (U := U) (show doB gs ls ts A T st p q V U = false by rw [doB, ← HR.out, ← HV.out, ← HU.out]; rfl)
    go_wp2
    refine bodyPost_ret (v := .tuple #[resV 0 none 0 0, .slice none 0 0]) (by simp [results, Try.results15, go_sem, d0, d1]) rfl ?_
    obtain ⟨e1, e2, e3⟩ := E.out
    rw [e1, e2, e3]
    exact ⟨none, 0, 0, 0, _, 0, 0, 0, rfl, rfl, rfl, (n1.b.setCell (by simp only []; omega) _).setCell (by simp only []; omega) _, OwnX.nil _ _ _, OwnX.nil _ _ _, fun h => by omega, fun h => by omega, fun h => by omega⟩
  have HB : Hid (doB gs ls ts A T st p q V U = true) := by show _ = _; rw [doB, ← HR.out, ← HV.out, ← HU.out]; rfl
  obtain ⟨og, ol, ot⟩ := rowB_g HR.out.symm
  obtain ⟨rfl, bV⟩ := okN_nat (c := 3) (by omega) HV.out.symm
  obtain ⟨rfl, bU⟩ := okN_nat (c := 2) (by omega) HU.out.symm
  have HVL : Hid (V.length = 3) := hV.1
  cases st
  case true =>
    have E : Hid _ := do_stop HB.out
    go_wp2_with fail
    refine (clone_any _ _ _ V _ (hV.below n1.b) (by omega) (by omega)).mono ?_
    rintro e w2 ⟨r, rfl, j⟩
    have rc2 := rc1.below j.b
    obtain ⟨x, cx, B, rfl, hX, hB⟩ := j.ownx HVL.out
    have bb := n1.b.trans (j.b.mono n1.b.size)
    clear c0 c1 c2 c3 d0 d1 f0 f1
    obtain ⟨d0, d1, f0, f1⟩ := rc2.pair
    have hlt2 := rc2.lt
    clear rc2 j rc1
    go_wp2
    refine bodyPost_ret (v := .tuple #[resV 2 none 0 0, .slice x 3 cx]) (by simp [results, Try.results15, go_sem, d0, d1]) rfl ?_
    obtain ⟨e1, e2, e3⟩ := E.out
    rw [e1, e2, e3]
    refine ⟨none, 0, 0, 0, x, 3, cx, B, rfl, rfl, HVL.out, ?_, OwnX.nil _ _ _, ?_, fun h => by omega, fun h => by have := hB h; have := n1.b.size; omega, fun h => by omega⟩
    · exact (bb.setCell (by simp only []; omega) _).setCell (by simp only []; omega) _
    · exact (hX.setOther (fun h => by have := hB h; omega) _ _).setOther (fun h => by have := hB h; omega) _ _
  case false =>
    have E : Hid _ := do_go HB.out
    obtain rfl := rowB_three HR.out.symm
    have OT : Hid (ts.all FV.ok = true) := ot
    have OL : Hid (ls.all FV.ok = true) := ol
    have bY := ats_bnd ol bV bU
    clear og ol ot
    go_wp2_with fail
    refine (formsAt_any _ _ _ ls _ _ _ _ V U _ h.ha (h.below n1.b).a (by omega) OL.out (hV.below n1.b) (hU.below n1.b) bV bU).mono ?_
    rintro e w3 ⟨r, rfl, j⟩
    have rc3 := rc1.below j.b
    have n3 := n1.below j.b
    obtain ⟨ya, cy, BY, rfl, hY, hBY⟩ := j.ownx (n := 3) (by rw [List.length_map, h.ha])
    clear c0 c1 c2 c3 rc1 n1 j hBY d0 d1 f0 f1
    go_wp2_with fail
    refine (sums_any _ _ _ _ V _ 10000 1000000000000 _ (hV.below n3.b) hY.ints bV bY (by omega) (by omega)).mono ?_
    rintro e w4 ⟨x, cx, B, rfl, b4, hX4, hB⟩
    have rc4 := rc3.below b4
    have n4 := n3.below b4
    have z3 := n3.b.size
    have hr3 := rc3.lt
    have hB' : w.heap.size + 1 + 1 ≤ B := by omega
    have hq3 := n3.p.lt
    clear rc3 n3 hY b4 bY
    obtain ⟨c0, c1, c2, c3⟩ := n4.p.quad
    go_wp2_with fail
    refine (formsAt_any _ _ _ ts _ _ _ _ V U _ h.ht (h.below n4.b).t zt OT.out (hV.below n4.b) (hU.below n4.b) bV bU).mono ?_
    rintro e w5 ⟨r, rfl, j⟩
    have rc5 := rc4.below j.b
    have n5 := n4.below j.b
    have hX5 := hX4.below j.b
    have lB4 := hX4.lt (by omega)
    obtain ⟨ta, ctt, BT, rfl, hT, hBT⟩ := j.ownx (n := T) (by rw [List.length_map, h.ht])
    have z5 := j.b.size
    clear c0 c1 c2 c3 rc4 n4 j hX4
    go_wp2_with fail
    refine (done_any _ _ _ _ B _ _ _ BT V _ _ _ (hV.below n5.b) hX5 hT (fun h => by have := hBT h; omega) (w.heap.size + 1 + 1) (fun h => by have := hBT h; omega) (by omega) (by omega)).mono ?_
    rintro e w6 ⟨ra, rn, rcap, RB1, pb, pm, pcap, RB2, rfl, L1, L2, b6, O1, O2, g1, g2, g3⟩
    have rc6 := rc5.below b6
    have n6 := n5.below b6
    have hlt6 := rc6.lt
    clear rc5 n5 hX5 hT hBT
    obtain ⟨d0, d1, f0, f1⟩ := rc6.pair
    clear rc6
    go_wp2
    refine bodyPost_ret (v := .tuple #[resV (endCode (List.zipWith (· + ·) V (ls.map (atF V U)))) ra rn rcap, .slice pb pm pcap]) (by simp [results, Try.results15, go_sem, d0, d1]) rfl ?_
    obtain ⟨e1, e2, e3⟩ := E.out
    rw [e1, e2, e3]
    refine ⟨ra, rn, rcap, RB1, pb, pm, pcap, RB2, rfl, L1, L2, ?_, ?_, ?_, fun h => by have := g1 h; omega, fun h => by have := g2 h; omega, g3⟩
    · exact (n6.b.setCell (by simp only []; omega) _).setCell (by simp only []; omega) _
    · exact (O1.setOther (fun h => by have := g1 h; omega) _ _).setOther (fun h => by have := g1 h; omega) _ _
    · exact (O2.setOther (fun h => by have := g2 h; omega) _ _).setOther (fun h => by have := g2 h; omega) _ _

end Go.Proofs.Ytemcinobgdphnaa
namespace Go.Proofs.Ytemcinobgdphnaa
open Go.RowKit
set_option linter.unusedVariables false
set_option maxRecDepth 100000

set_option maxHeartbeats 6400000 in
theorem sdoing_any (g : Option Addr) (G cg : Nat) (gs : List FV) (a : Option Addr) (A ca : Nat) (ls : List FV) (t : Option Addr) (T ct : Nat) (ts : List FV) (st : Bool) (v : Option Addr) (p cv : Nat) (V : List Int) (u : Option Addr) (q cu : Nat) (U : List Int) (w : World) (h : RowAt w g G gs a A ls t T ts) (hV : Ints w v p V) (hU : Ints w u q U) (hp : p ≤ 1048576) (hq : q ≤ 1048576) :
    Calls Try.prog 16 #[rowV g G cg a A ca t T ct st, .slice v p cv, .slice u q cu] w fun e w' => ResD w w' e (doCode gs ls ts A T st p q V U) (doTells gs ls ts A T st p q V U) (doPots gs ls ts A T st p q V U) := by
  have n0 := (BX.new w [.slice g G cg, .slice a A ca, .slice t T ct, .bool st] 25).alloc (.cells #[.int .i64 0, .slice none 0 0] 38)
  have rc0 := Cel.new (w.alloc (.cells #[.slice g G cg, .slice a A ca, .slice t T ct, .bool st] 25)) [.int .i64 0, .slice none 0 0] 38
  rw [World.size_alloc] at rc0
  have zt := h.zt
  obtain ⟨i0, hi, hz0, hz1, hz2⟩ := info_parts Try.infoInt
  obtain ⟨rb, hrb⟩ : ∃ rb, rb = rowB gs ls ts A T st := ⟨_, rfl⟩
  obtain ⟨vb, hvb⟩ : ∃ vb, vb = okN 3 10000 p V := ⟨_, rfl⟩
  obtain ⟨ub, hub⟩ : ∃ ub, ub = okN 2 9 q U := ⟨_, rfl⟩
  have HR : Hid (rb = rowB gs ls ts A T st) := hrb
  have HV : Hid (vb = okN 3 10000 p V) := hvb
  have HU : Hid (ub = okN 2 9 q U) := hub
  clear hrb hvb hub
  go_enter Try.func16, Try.ntmps16
  go_wp2_with fail
  refine (srow_any _ _ _ gs _ _ _ ls _ _ _ ts _ _ ((h.alloc _).alloc _)).mono ?_
  rintro e w1 ⟨rfl, b1⟩
  have n1 := n0.below b1
  have rc1 := rc0.below b1
  have hlt1 := rc1.lt
  rw [← HR.out]
  clear n0 b1 rc0
  obtain ⟨c0, c1, c2, c3⟩ := n1.p.quad
  obtain ⟨d0, d1, f0, f1⟩ := rc1.pair
  cases rb
  · have E : Hid _ := do_no (p := p) (q := q) (V := V) (U := U) (show doB gs ls ts A T st p q V U = false by rw [doB, ← HR.out]; rfl)
    go_wp2
    refine bodyPost_ret (v := .tuple #[resV 0 none 0 0, .slice (some ⟨w1.heap.size, 0, none⟩) 0 0]) (by simp [results, Try.results16, go_sem, d0, d1, hlt1]) rfl ?_
    obtain ⟨e1, e2, e3⟩ := E.out
    rw [e1, e2, e3]
    exact ⟨none, 0, 0, 0, _, 0, 0, 0, rfl, rfl, rfl, (((n1.b.setCell (by simp only []; omega) _).setCell (by simp only []; omega) _).alloc (by rw [size_setCell, size_setCell]; exact n1.b.size) _), OwnX.nil _ _ _, OwnX.nil _ _ _, fun h => by omega, fun h => by omega, fun h => by omega⟩
  go_wp2_with fail
  refine (sval_any _ _ _ V _ (hV.below n1.b) hp).mono ?_
  rintro e w2 ⟨rfl, hw2⟩
  rw [← HV.out, hw2]
  clear hw2
  cases vb
  · have E : Hid _ := do_no (p := p) (q := q) (V := V) (U := U) (show doB gs ls ts A T st p q V U = false by rw [doB, ← HR.out, ← HV.out]; rfl)
    go_wp2
    refine bodyPost_ret (v := .tuple #[resV 0 none 0 0, .slice (some ⟨w1.heap.size, 0, none⟩) 0 0]) (by simp [results, Try.results16, go_sem, d0, d1, hlt1]) rfl ?_
    obtain ⟨e1, e2, e3⟩ := E.out
    rw [e1, e2, e3]
    exact ⟨none, 0, 0, 0, _, 0, 0, 0, rfl, rfl, rfl, (((n1.b.setCell (by simp only []; omega) _).setCell (by simp only []; omega) _).alloc (by rw [size_setCell, size_setCell]; exact n1.b.size) _), OwnX.nil _ _ _, OwnX.nil _ _ _, fun h => by omega, fun h => by omega, fun h => by omega⟩
  go_wp2_with fail
  refine (sarg_any _ _ _ U _ (hU.below n1.b) hq).mono ?_
  rintro e w2 ⟨rfl, hw2⟩
  rw [← HU.out, hw2]
  clear hw2
  cases ub
  · have E : Hid _ := do_no (p := p) (q := q) (V := V) (U := U) (show doB gs ls ts A T st p q V U = false by rw [doB, ← HR.out, ← HV.out, ← HU.out]; rfl)
    go_wp2
    refine bodyPost_ret (v := .tuple #[resV 0 none 0 0, .slice (some ⟨w1.heap.size, 0, none⟩) 0 0]) (by simp [results, Try.results16, go_sem, d0, d1, hlt1]) rfl ?_
    obtain ⟨e1, e2, e3⟩ := E.out
    rw [e1, e2, e3]
    exact ⟨none, 0, 0, 0, _, 0, 0, 0, rfl, rfl, rfl, (((n1.b.setCell (by simp only []; omega) _).setCell (by simp only []; omega) _).alloc (by rw [size_setCell, size_setCell]; exact n1.b.size) _), OwnX.nil _ _ _, OwnX.nil _ _ _, fun h => by omega, fun h => by omega, fun h => by omega⟩
  have HB : Hid (doB gs ls ts A T st p q V U = true) := by show _ = _; rw [doB, ← HR.out, ← HV.out, ← HU.out]; rfl
  obtain ⟨og, ol, ot⟩ := rowB_g HR.out.symm
  obtain ⟨rfl, bV⟩ := okN_nat (c := 3) (by omega) HV.out.symm
  obtain ⟨rfl, bU⟩ := okN_nat (c := 2) (by omega) HU.out.symm
  have HVL : Hid (V.length = 3) := hV.1
  have hV1 := hV.below n1.b
  obtain ⟨vb, vo, rfl, hcell⟩ := hV1.pos (by omega)
  have hcl : ∀ i, i < 3 → (w1.alloc (.cells #[] 3)).cell? ⟨vb, vo + i, none⟩ = some (.int .i64 (V.getD i 0)) := fun i hi => by
    rw [((Below.refl w1.heap.size w1).alloc (Nat.le_refl _) _).cell (p := ⟨vb, vo + i, none⟩) (block_lt (hcell i hi))]; exact hcell i hi
  have HC : Hid _ := newsI hcl hV.1
  have HL : Hid ((V.map (Value.int .i64)).length = 3 * 1) := by show _ = _; rw [List.length_map, hV.1]
  have HJ : Hid _ := (JA.lit w1).o
  clear hcl hcell
  cases st
  case true =>
    have E : Hid _ := do_stop HB.out
    go_wp2_with (at_builtin; go_must (refine wpList_append_lies _ rfl (.tmp 30) (.tmp 31) 26 rfl w1.heap.size 3 i0 (.int .i64 0) 1 8 Try.underlying26 hi hz0 hz1 hz2 rfl (by decide) _ 0 [] rfl HJ.out ⟨vb, vo, none⟩ 3 cv (V.map (Value.int .i64)) rfl HL.out HC.out (oneI _) (by omega) (by unfold maxLen; omega) (by omega) (by rw [World.size_alloc]; omega) _ rfl ?_); intro g2 cp2 w2 hown hgrow hat hlt2; have j := JA.copied HVL.out hown hgrow; have rc2 := rc1.below j.b; clear d0 d1 f0 f1; obtain ⟨d0, d1, f0, f1⟩ := rc2.pair; have hlt2 := rc2.lt; clear hown hgrow hat)
    obtain ⟨x, cx, B, hv2, hX, hB⟩ := j.ownx HVL.out
    simp only [Value.slice.injEq, true_and] at hv2
    obtain ⟨rfl, rfl⟩ := hv2
    have bb := n1.b.trans (j.b.mono n1.b.size)
    refine bodyPost_ret (v := .tuple #[resV 2 none 0 0, .slice (some ⟨g2, 0, none⟩) 3 cp2]) (by simp [results, Try.results16, go_sem, d0, d1]) rfl ?_
    obtain ⟨e1, e2, e3⟩ := E.out
    rw [e1, e2, e3]
    refine ⟨none, 0, 0, 0, some ⟨g2, 0, none⟩, 3, cp2, B, rfl, rfl, HVL.out, ?_, OwnX.nil _ _ _, ?_, fun h => by omega, fun h => by have := hB h; have := n1.b.size; omega, fun h => by omega⟩
    · exact (bb.setCell (by simp only []; omega) _).setCell (by simp only []; omega) _
    · exact (hX.setOther (fun h => by have := hB h; omega) _ _).setOther (fun h => by have := hB h; omega) _ _
  case false =>
    have E : Hid _ := do_go HB.out
    obtain rfl := rowB_three HR.out.symm
    have OT : Hid (ts.all FV.ok = true) := ot
    have OL : Hid (ls.all FV.ok = true) := ol
    have HAL : Hid (ls.length = 3) := h.ha
    have HTL : Hid (ts.length = T) := h.ht
    obtain ⟨ys, hys⟩ : ∃ ys, ys = ls.map (atF V U) := ⟨_, rfl⟩
    have HYS : Hid (ys = ls.map (atF V U)) := hys
    have HYL : Hid (ys.length = 3) := by show _ = _; rw [hys, List.length_map, h.ha]
    have bY : bnd 1000000000000 ys := by rw [hys]; exact ats_bnd ol bV bU
    clear og ol ot hys
    go_wp2_with (at_builtin; go_must (refine wpList_append_lies _ rfl (.tmp 33) (.tmp 34) 26 rfl w1.heap.size 3 i0 (.int .i64 0) 1 8 Try.underlying26 hi hz0 hz1 hz2 rfl (by decide) _ 0 [] rfl HJ.out ⟨vb, vo, none⟩ 3 cv (V.map (Value.int .i64)) rfl HL.out HC.out (oneI _) (by omega) (by unfold maxLen; omega) (by omega) (by rw [World.size_alloc]; omega) _ rfl ?_); intro g2 cp2 w2 hown hgrow hat hlt2)
    have j := JA.copied HVL.out hown hgrow
    have rc2 := rc1.below j.b
    have n2 := n1.below j.b
    obtain ⟨x, cx, B, hv2, hX, hB⟩ := j.ownx HVL.out
    simp only [Value.slice.injEq, true_and] at hv2
    obtain ⟨rfl, rfl⟩ := hv2
    obtain ⟨eB, _, _⟩ := hX.pos (by omega)
    simp only [Option.some.injEq, Addr.mk.injEq, and_true] at eB
    subst eB
    have hB' := hB (by omega)
    clear c0 c1 c2 c3 d0 d1 f0 f1 rc1 n1 j hB hown hgrow hat HC HL HJ hV1
    go_wp2_with fail
    go_loopw [9] (fun i wr => ∃ k : Nat, k ≤ 3 ∧ i = .int .i64 k ∧ BX w w.heap.size [.slice g G cg, .slice a 3 ca, .slice t T ct, .bool false] 25 wr ∧ Cel wr (w.heap.size + 1) [.int .i64 0, .slice none 0 0] 38 ∧ OwnX wr (some ⟨g2, 0, none⟩) g2 3 (added V ys k)) (fun i _ => 3 - (intOf i).toNat)
    case atStart => exact ⟨0, by omega, rfl, n2, rc2, by rw [added_zero]; exact hX⟩
    case round =>
      clear n2 rc2 hX
      obtain ⟨k, hk, rfl, nr, rcr, hXr⟩ := hrel
      by_cases hlt : k < 3
      · obtain ⟨b, off, rfl, e0, e1, e2, e3⟩ := ((h.below nr.b).a) k (by rw [HAL.out]; exact hlt)
        have hok := all_at (k := k) OL.out (by rw [HAL.out]; exact hlt)
        have HYK : Hid (ys[k]?.getD 0 = atF V U (ls[k]?.getD noFV)) := by
          have hl : k < ls.length := by rw [HAL.out]; exact hlt
          show _ = _
          rw [HYS.out, List.getElem?_map, List.getElem?_eq_getElem hl]; rfl
        generalize HG : ls[k]?.getD noFV = f at *
        clear HG
        obtain ⟨fa, fn, fcap, fc, fm, fcap', fK, fC, fD⟩ := f
        obtain ⟨iC, iD, _, _⟩ := e3
        simp only at e0 e1 e2 iC iD
        obtain ⟨rfl, rfl, bC, bD, bK⟩ := formB_elim (show formB fn fm fC fD fK = true from hok)
        clear hok
        obtain ⟨m3, m4⟩ := bY k
        obtain ⟨m1, m2⟩ := bV k
        obtain ⟨y, hy⟩ : ∃ y, ys[k]?.getD 0 = y := ⟨_, rfl⟩
        have HX : Hid (atV fC fD fK V U = y) := by show _ = _; rw [← hy, HYK.out]; rfl
        have HY : Hid (ys[k]?.getD 0 = y) := hy
        rw [hy] at m3 m4
        clear hy
        obtain ⟨x0, hx0⟩ : ∃ x0, V[k]?.getD 0 = x0 := ⟨_, rfl⟩
        have HX0 : Hid (V[k]?.getD 0 = x0) := hx0
        rw [hx0] at m1 m2
        clear hx0
        have hAG : Hid ((added V ys k)[k]?.getD 0 = x0) := by show _ = _; rw [added_get V ys k (by rw [HVL.out, HYL.out]) (by rw [HVL.out]; exact hlt)]; exact HX0.out
        have cellk : ∀ W, OwnX W (some ⟨g2, 0, none⟩) g2 3 (added V ys k) → W.cell? ⟨g2, k, none⟩ = some (.int .i64 x0) ∧ W.frozen? ⟨g2, k, none⟩ = false := fun W hW => by
          obtain ⟨_, h1, h2⟩ := hW.pos (by omega)
          refine ⟨?_, h2 k⟩
          rw [h1 k hlt, hAG.out]
        have CK : Hid _ := cellk
        clear cellk
        obtain ⟨ck, fk⟩ := CK.out wr hXr
        obtain ⟨c0, c1, c2, c3⟩ := nr.p.quad
        have hVr := hV.below nr.b
        have hUr := hU.below nr.b
        have hlt' : (k : Int) < 3 := by omega
        go_wp2_with fail
        go_region_with (first | (go_at_call 38; refine (sat_any _ _ _ _ _ fC fD _ _ _ _ V U _ (by exact iC.below (Below.refl _ _).drew) (by exact iD.below (Below.refl _ _).drew) (by exact hVr.below (Below.refl _ _).drew) (by exact hUr.below (Below.refl _ _).drew) bC bD bK bV bU).mono ?_; rintro ee w3 ⟨rfl, b3⟩; rw [HX.out]; have b3' := below_of_drew b3; obtain ⟨ck3, fk3⟩ := CK.out w3 (hXr.below b3')))
        all_goals
          have R : OwnX (w3.setCell ⟨g2, k, none⟩ (.int .i64 (x0 + y))) (some ⟨g2, 0, none⟩) g2 3 (added V ys (k + 1)) := by
            have := (hXr.below b3').set hlt (x0 + y)
            rwa [← HX0.out, ← HY.out, added_succ V ys k (by rw [HVL.out, HYL.out]) (by rw [HVL.out]; exact hlt), HX0.out, HY.out] at this
          have T3 : Touch (fun z => z = g2) w3 (w3.setCell ⟨g2, k, none⟩ (.int .i64 (x0 + y))) := Touch.setCell (S := fun z => z = g2) (Touch.refl _ _) rfl _
          have N3 := (nr.below b3').touch T3 (fun z e => by have := nr.p.lt; omega) (fun e => by omega)
          have RC3 := (rcr.below b3').touch T3 (fun e => by omega)
          clear b3 b3' T3 nr rcr hXr iC iD e0 e1 e2 c0 c1 c2 c3 hVr hUr
          go_wp2
          go_roundw
          case rel => exact ⟨k + 1, by omega, by go_num, N3, RC3, R⟩
          case measure => simp [intOf]; omega
      · obtain rfl : k = 3 := by omega
        rw [added_end V ys 3 (by rw [HVL.out]; exact Nat.le_refl _) (by rw [HYL.out]; exact Nat.le_refl _), HYS.out] at hXr
        clear bY
        have lg := hXr.lt (by omega)
        go_wp2_with fail
        obtain ⟨Wx, hWx⟩ : ∃ Wx, Wx = wr.alloc (.cells #[] 3) := ⟨_, rfl⟩
        rw [← hWx]
        go_loopw [10, 11] (fun r i wq => ∃ k : Nat, k ≤ T ∧ i = .int .i64 k ∧ ∃ xs : List Int, xs.length = k ∧ xs = (ts.take k).map (atF V U) ∧ JA wr r xs wq) (fun _ i _ => T - (intOf i).toNat)
        case atStart => exact ⟨0, Nat.zero_le _, rfl, [], rfl, rfl, by rw [hWx]; exact JA.lit wr⟩
        case round =>
          clear hWx
          obtain ⟨k, hk, rfl, xs, hxl, hxs, j⟩ := hrel
          have HL : Hid (xs.length = k) := hxl
          have HXS : Hid (xs = (ts.take k).map (atF V U)) := hxs
          clear hxl hxs
          have nq := nr.below j.b
          have zt2 := h.zt
          obtain ⟨c0, c1, c2, c3⟩ := nq.p.quad
          have hVq := hV.below nq.b
          have hUq := hU.below nq.b
          by_cases hlt : k < T
          · obtain ⟨b, off, rfl, e0, e1, e2, e3⟩ := ((h.below nq.b).t) k (by rw [HTL.out]; exact hlt)
            have hok := all_at (k := k) OT.out (by rw [HTL.out]; exact hlt)
            have HP : Hid ((ts.take (k + 1)).map (atF V U) = (ts.take k).map (atF V U) ++ [atF V U (ts[k]?.getD noFV)]) := by
              have hl : k < ts.length := by rw [HTL.out]; exact hlt
              show _ = _
              rw [List.take_succ_eq_append_getElem hl, List.map_append, List.getElem?_eq_getElem hl]; rfl
            generalize HG : ts[k]?.getD noFV = f at *
            clear HG
            obtain ⟨fa, fn, fcap, fc, fm, fcap', fK, fC, fD⟩ := f
            obtain ⟨iC, iD, _, _⟩ := e3
            simp only at e0 e1 e2 iC iD
            obtain ⟨rfl, rfl, bC, bD, bK⟩ := formB_elim (show formB fn fm fC fD fK = true from hok)
            clear hok
            obtain ⟨x, hx⟩ : ∃ x, atV fC fD fK V U = x := ⟨_, rfl⟩
            have HX : Hid (atV fC fD fK V U = x) := hx
            have HP2 : Hid (xs ++ [x] = (ts.take (k + 1)).map (atF V U)) := by show _ = _; rw [HP.out, HXS.out, ← hx]; rfl
            clear hx
            go_wp2_with fail
            refine (sat_any _ _ _ _ _ fC fD _ _ _ _ V U _ iC iD hVq hUq bC bD bK bV bU).mono ?_
            rintro e w3 ⟨rfl, b3⟩
            rw [HX.out]
            have j3 := j.below b3
            have jo := j3.o
            rw [HL.out] at jo
            have hj3 := j3.b.size
            clear b3 iC iD e0 e1 e2 j nq hVq hUq c0 c1 c2 c3
            go_wp2_with (at_builtin; go_must (refine wpList_append_lies _ rfl (.tmp 64) (.tmp 73) 26 rfl _ 3 i0 (.int .i64 0) 1 8 Try.underlying26 hi hz0 hz1 hz2 rfl (by decide) _ _ _ rfl (jo.alloc _) ⟨w3.heap.size, 0, none⟩ 1 1 [.int .i64 x] rfl rfl (news1 _ _ _) (one1 _ _) (by omega) (by unfold maxLen; omega) (by omega) (by rw [World.size_alloc]; omega) _ rfl ?_); intro g4 cp4 w4 hown hgrow hat hlt4)
            have j4 := j3.app HL.out hown hgrow
            clear hown hgrow jo j3 hat
            go_wp2
            go_roundw
            case rel =>
              refine ⟨_, _, _, _, _, _, _, _, _, _, _, _, _, _, _, _, _, _, _, _, ?_, rfl⟩
              exact ⟨k + 1, by omega, by go_num, _, by rw [List.length_append, HL.out]; rfl, HP2.out, j4⟩
            case measure => simp [intOf]; omega
          · obtain rfl : k = T := by omega
            have HT2 : Hid (xs = ts.map (atF V U)) := by show xs = _; rw [HXS.out, List.take_of_length_le (by rw [HTL.out]; omega)]
            have rcq := rcr.below j.b
            have hXq := hXr.below j.b
            have zq := j.b.size
            obtain ⟨ta, ctt, BT, rfl, hT, hBT⟩ := j.ownx HL.out
            clear j
            go_wp2_with fail
            refine (end_any _ _ _ _ g2 _ _ _ BT V _ xs _ hVq hXq hT (fun h => by have := hBT h; omega) (w.heap.size + 1 + 1) (fun h => by have := hBT h; omega) (by omega) (by omega)).mono ?_
            rintro e w6 ⟨ra, rn, rcap, RB1, pb, pm, pcap, RB2, rfl, L1, L2, b6, O1, O2, g1, g2', g3⟩
            have rc6 := rcq.below b6
            have n6 := nq.below b6
            have hlt6 := rc6.lt
            obtain ⟨d0, d1, f0, f1⟩ := rc6.pair
            clear rc6 rcq hXq hT hVq hUq nq c0 c1 c2 c3
            go_wp2
            refine bodyPost_ret (v := .tuple #[resV (endCode (List.zipWith (· + ·) V (ls.map (atF V U)))) ra rn rcap, .slice pb pm pcap]) (by simp [results, Try.results16, go_sem, d0, d1]) rfl ?_
            obtain ⟨e1, e2, e3⟩ := E.out
            rw [e1, e2, e3, ← HT2.out]
            refine ⟨ra, rn, rcap, RB1, pb, pm, pcap, RB2, rfl, L1, L2, ?_, ?_, ?_, fun h => by have := g1 h; omega, fun h => by have := g2' h; omega, g3⟩
            · exact (n6.b.setCell (by simp only []; omega) _).setCell (by simp only []; omega) _
            · exact (O1.setOther (fun h => by have := g1 h; omega) _ _).setOther (fun h => by have := g1 h; omega) _ _
            · exact (O2.setOther (fun h => by have := g2' h; omega) _ _).setOther (fun h => by have := g2' h; omega) _ _

end Go.Proofs.Ytemcinobgdphnaa
namespace Go.Proofs.Ytemcinobgdphnaa
open Go.RowKit
set_option linter.unusedVariables false

/-- While they are marked: the block's slices stand; the lists from k on are as they were made. -/
structure MK2 (W : World) (B N s k : Nat) (gs : List FV) (p q : Nat → Nat) (wr : World) : Prop where
  c : ∃ cur : Array Value, wr.heap[B]? = some (.cells cur 34 (0, 0)) ∧ cur.size = N * 3 ∧ ∀ i, i < N → cur[i * 3]? = some (.slice (gs[i]?.getD noFV).a (gs[i]?.getD noFV).n (gs[i]?.getD noFV).cap) ∧ cur[i * 3 + 1]? = some (.slice (gs[i]?.getD noFV).c (gs[i]?.getD noFV).m (gs[i]?.getD noFV).cap')
  o : ∀ i, k ≤ i → i < N → Blk wr (p i) (gs[i]?.getD noFV).C ∧ Blk wr (q i) (gs[i]?.getD noFV).D
  t : Touch (fun x => B ≤ x ∧ x < s) W wr

end Go.Proofs.Ytemcinobgdphnaa
namespace Go.Proofs.Ytemcinobgdphnaa
open Go.RowKit
set_option linter.unusedVariables false
set_option maxRecDepth 100000

end Go.Proofs.Ytemcinobgdphnaa
namespace Go.Proofs.Ytemcinobgdphnaa
open Go.RowKit
set_option linter.unusedVariables false
set_option maxRecDepth 100000

set_option maxHeartbeats 800000 in
theorem iatG_any (a : Option Addr) (cap : Nat) (c : Option Addr) (cap' : Nat) (K : Int) (C D : List Int) (v : Option Addr) (cv : Nat) (u : Option Addr) (cu : Nat) (V A : List Int) (w : World)
    (hC : Ints w a 3 C) (hD : Ints w c 2 D) (hV : Ints w v 3 V) (hA : Ints w u 2 A) (P Q : Int) (p1 : bndP P C V) (p2 : bndP Q D A) (zP : 0 ≤ P) (zQ : 0 ≤ Q) (tP : P ≤ 100000000000) (tQ : Q ≤ 100000000000) (bK : -10000000 ≤ K ∧ K ≤ 10000000) :
    Calls Try.prog 35 #[formV a 3 cap c 2 cap' K, .slice v 3 cv, .slice u 2 cu] w fun e w' => e = .returned (.int .i64 (atV C D K V A)) ∧ Below w.heap.size w w' := by
  have d1 := dot_bnd p1 3
  have d2 := dot_bnd p2 2
  obtain ⟨K1, K2⟩ := bK
  have q1 : ∀ w' : World, Below w.heap.size w w' → Calls Try.prog 62 #[.slice a 3 cap, .slice v 3 cv] w' fun e w'' => e = .returned (.int .i64 (dot C V 3)) ∧ w'' = w' := fun w' hb => psum_any _ _ _ _ _ C V _ _ (hC.below hb) (hV.below hb) (by omega) p1 (by omega) (by omega)
  have q2 : ∀ w' : World, Below w.heap.size w w' → Calls Try.prog 62 #[.slice c 2 cap', .slice u 2 cu] w' fun e w'' => e = .returned (.int .i64 (dot D A 2)) ∧ w'' = w' := fun w' hb => psum_any _ _ _ _ _ D A _ _ (hD.below hb) (hA.below hb) (by omega) p2 (by omega) (by omega)
  have Q1 : Hid _ := q1
  have Q2 : Hid _ := q2
  obtain ⟨X, hX⟩ : ∃ X, X = dot C V 3 := ⟨_, rfl⟩
  obtain ⟨Y, hY⟩ : ∃ Y, Y = dot D A 2 := ⟨_, rfl⟩
  have e1 : -1000000000000 ≤ dot C V 3 := by omega
  have e2 : dot C V 3 ≤ 1000000000000 := by omega
  have e3 : -1000000000000 ≤ dot D A 2 := by omega
  have e4 : dot D A 2 ≤ 1000000000000 := by omega
  clear d1 d2 q1 q2 hX hY X Y p1 p2 zP zQ tP tQ hC hD hV hA
  go_enter Try.func35, Try.ntmps35
  go_wp2_with fail
  go_quiet (first | (go_at_call_of 62 (Value.slice a 3 cap); exact Calls.quiet_of_same (Q1.out _ (by repeat (first | exact (Below.refl _ _).alloc (Nat.le_refl _) _ | refine below_drewN ?_ _ | refine Below.drew ?_)))) | (go_at_call_of 62 (Value.slice c 2 cap'); exact Calls.quiet_of_same (Q2.out _ (by repeat (first | exact (Below.refl _ _).alloc (Nat.le_refl _) _ | refine below_drewN ?_ _ | refine Below.drew ?_)))))
  go_wp2
  go_ret
  exact ⟨rfl, below_drewN ((Below.refl _ _).alloc (Nat.le_refl _) _) _⟩

set_option maxHeartbeats 1600000 in
theorem satG_any (a : Option Addr) (cap : Nat) (c : Option Addr) (cap' : Nat) (K : Int) (C D : List Int) (v : Option Addr) (cv : Nat) (u : Option Addr) (cu : Nat) (V A : List Int) (w : World)
    (hC : Ints w a 3 C) (hD : Ints w c 2 D) (hV : Ints w v 3 V) (hA : Ints w u 2 A) (P Q : Int) (p1 : bndP P C V) (p2 : bndP Q D A) (zP : 0 ≤ P) (zQ : 0 ≤ Q) (tP : P ≤ 100000000000) (tQ : Q ≤ 100000000000) (bK : -10000000 ≤ K ∧ K ≤ 10000000) :
    Calls Try.prog 38 #[formV a 3 cap c 2 cap' K, .slice v 3 cv, .slice u 2 cu] w fun e w' => e = .returned (.int .i64 (atV C D K V A)) ∧ Below w.heap.size w w' := by
  obtain ⟨K1, K2⟩ := bK
  have P1 : Hid (bndP P C V) := p1
  have P2 : Hid (bndP Q D A) := p2
  clear p1 p2
  go_enter Try.func38, Try.ntmps38
  go_wp2_with fail
  go_loopw [7, 8] (fun s i wr => ∃ k : Nat, k ≤ 3 ∧ i = .int .i64 k ∧ s = .int .i64 (K + dot C V k) ∧ Below w.heap.size w wr ∧ Cel wr w.heap.size [.slice a 3 cap, .slice c 2 cap', .int .i64 K] 34) (fun _ i _ => 3 - (intOf i).toNat)
  case atStart => exact ⟨0, by omega, rfl, by simp [dot], (Below.refl _ _).alloc (Nat.le_refl _) _, Cel.new w _ _⟩
  case round =>
    obtain ⟨k, hk, rfl, rfl, hb, hS⟩ := hrel
    by_cases hlt : k < 3
    · obtain ⟨b, off, rfl, hcell⟩ := (hC.below hb).pos (by omega)
      obtain ⟨b', off', rfl, hcell'⟩ := (hV.below hb).pos (by omega)
      have hck := hcell k hlt
      have hck' := hcell' k hlt
      have hlt' : (k : Int) < 3 := by omega
      have s0 := hS.cell 0
      simp only [List.getElem?_cons_zero] at s0
      obtain ⟨d3, d4⟩ := P1.out k
      have d := dot_bnd P1.out k
      have kP : (k : Int) * P ≤ 3 * P := Int.mul_le_mul_of_nonneg_right (by omega) (by omega)
      have d1 : -1000000000000000 ≤ dot C V k := by omega
      have d2 : dot C V k ≤ 1000000000000000 := by omega
      have d7 : -100000000000 ≤ C[k]?.getD 0 * V[k]?.getD 0 := by omega
      have d8 : C[k]?.getD 0 * V[k]?.getD 0 ≤ 100000000000 := by omega
      clear hcell hcell' hC hD hV hA d kP d3 d4
      go_wp2_with fail
      go_quiet (fail)
      go_wp2
      go_roundw
      case rel => exact ⟨k + 1, by omega, by go_num, congrArg (Value.int IntKind.i64) (by simp only [dot]; omega), below_drewN hb _, hS⟩
      case measure => simp [intOf]; omega
    · obtain rfl : k = 3 := by omega
      have d := dot_bnd P1.out 3
      have d1 : -1000000000000000 ≤ dot C V 3 := by omega
      have d2 : dot C V 3 ≤ 1000000000000000 := by omega
      clear d hC hV
      go_wp2_with fail
      go_loopw [7, 9] (fun s i wx => ∃ k : Nat, k ≤ 2 ∧ i = .int .i64 k ∧ s = .int .i64 (K + dot C V 3 + dot D A k) ∧ Below w.heap.size w wx ∧ Cel wx w.heap.size [.slice a 3 cap, .slice c 2 cap', .int .i64 K] 34) (fun _ i _ => 2 - (intOf i).toNat)
      case atStart => exact ⟨0, by omega, rfl, by simp [dot], hb, hS⟩
      case round =>
        clear hb hS
        obtain ⟨j, hj, rfl, rfl, hb, hS⟩ := hrel
        by_cases hlt : j < 2
        · obtain ⟨b, off, rfl, hcell⟩ := (hD.below hb).pos (by omega)
          obtain ⟨b', off', rfl, hcell'⟩ := (hA.below hb).pos (by omega)
          have hck := hcell j hlt
          have hck' := hcell' j hlt
          have hlt' : (j : Int) < 2 := by omega
          have s0 := hS.cell 1
          simp only [List.getElem?_cons_zero, List.getElem?_cons_succ] at s0
          obtain ⟨d5, d6⟩ := P2.out j
          have d := dot_bnd P2.out j
          have kP : (j : Int) * Q ≤ 2 * Q := Int.mul_le_mul_of_nonneg_right (by omega) (by omega)
          have d3 : -1000000000000000 ≤ dot D A j := by omega
          have d4 : dot D A j ≤ 1000000000000000 := by omega
          have d7 : -100000000000 ≤ D[j]?.getD 0 * A[j]?.getD 0 := by omega
          have d8 : D[j]?.getD 0 * A[j]?.getD 0 ≤ 100000000000 := by omega
          clear hcell hcell' hD hA d kP d5 d6
          go_wp2_with fail
          go_quiet (fail)
          go_wp2
          go_roundw
          case rel => exact ⟨j + 1, by omega, by go_num, congrArg (Value.int IntKind.i64) (by simp only [dot]; omega), below_drewN hb _, hS⟩
          case measure => simp [intOf]; omega
        · obtain rfl : j = 2 := by omega
          go_wp2
          go_ret
          exact ⟨ret_int (by unfold atV; omega), hb⟩

/-- How great a pot may be behind so many lines. -/
def bd : Nat → Int
  | 0 => 10000
  | n + 1 => 7 * bd n + 56
theorem bd_pos : ∀ n, 10000 ≤ bd n
  | 0 => by simp [bd]
  | n + 1 => by have := bd_pos n; simp only [bd]; omega
theorem bd_succ (n : Nat) : bd n ≤ bd (n + 1) := by have := bd_pos n; simp only [bd]; omega
theorem bd_mono {n m : Nat} (h : n ≤ m) : bd n ≤ bd m := by
  induction h with
  | refl => exact Int.le_refl _
  | step _ ih => exact Int.le_trans ih (bd_succ _)
theorem bd_six {n : Nat} (h : n ≤ 6) : bd n ≤ 2000000000 := Int.le_trans (bd_mono h) (by simp [bd])
theorem bnd_mono {M M' : Int} {zs : List Int} (h : bnd M zs) (hM : M ≤ M') : bnd M' zs := fun i => by have := h i; omega
theorem small_elim {n m : Nat} {C D : List Int} {K : Int} (h : smallB n m C D K = true) : n = 3 ∧ m = 2 ∧ bnd 2 C ∧ bnd 2 D ∧ -20 ≤ K ∧ K ≤ 20 := by
  simp only [smallB, Bool.and_eq_true] at h
  obtain ⟨⟨h1, h2⟩, h3⟩ := h
  obtain ⟨e1, b1⟩ := okN_elim (by omega) h1
  obtain ⟨e2, b2⟩ := okN_elim (by omega) h2
  have := inB_iff.1 h3
  exact ⟨by omega, by omega, b1, b2, this.1, this.2⟩
/-- A small form is not much greater than the pots are. -/
theorem small_at {C D V U : List Int} {K M : Int} (bC : bnd 2 C) (bD : bnd 2 D) (k1 : -20 ≤ K) (k2 : K ≤ 20) (bV : bnd M V) (bU : bnd 9 U) (hM : 0 ≤ M) : bndP (2 * M) C V ∧ bndP 18 D U ∧ -(6 * M + 56) ≤ atV C D K V U ∧ atV C D K V U ≤ 6 * M + 56 := by
  have p1 := bndP_of bC bV (by omega) hM
  have p2 := bndP_of bD bU (by omega) (by omega)
  have d1 := dot_bnd p1 3
  have d2 := dot_bnd p2 2
  refine ⟨p1, p2, ?_, ?_⟩ <;> unfold atV <;> omega
theorem bnd_set {M : Int} {x : List Int} {k : Nat} {v : Int} (h : bnd M x) (h1 : -M ≤ v) (h2 : v ≤ M) : bnd M (x.set k v) := fun i => by
  by_cases e : i = k
  · subst e
    by_cases hi : i < x.length
    · rw [List.getElem?_set_self hi]; simp; omega
    · rw [List.getElem?_eq_none (by simp; omega)]
      have := h i
      simp
      omega
  · rw [List.getElem?_set_ne (by omega)]; exact h i

/-- The run of an act: whether it stopped, the pots, what was told; i: the line, f: how many steps at most. -/
def goL (U : List Int) (ls : List LV) : Nat → Nat → List Int → List Int → Bool × List Int × List Int
  | 0, _, x, tl => (false, x, tl)
  | f + 1, i, x, tl =>
    if i < ls.length then
      if (ls[i]?.getD noLV).kind = 1 then goL U ls f (if atF x U (ls[i]?.getD noLV).f < 0 then i + 1 + (ls[i]?.getD noLV).skip.toNat else i + 1) x tl
      else if (ls[i]?.getD noLV).kind = 2 then goL U ls f (i + 1) (x.set (ls[i]?.getD noLV).pot.toNat (x[(ls[i]?.getD noLV).pot.toNat]?.getD 0 + atF x U (ls[i]?.getD noLV).f)) tl
      else if (ls[i]?.getD noLV).kind = 3 then goL U ls f (i + 1) x (tl ++ [atF x U (ls[i]?.getD noLV).f])
      else (true, x, tl)
    else (false, x, tl)
theorem goL_end {U : List Int} {ls : List LV} {f i : Nat} {x tl : List Int} (h : ls.length ≤ i) : goL U ls f i x tl = (false, x, tl) := by
  cases f with
  | zero => rfl
  | succ f => rw [goL, if_neg (by omega)]
theorem goL_one {U : List Int} {ls : List LV} {f i : Nat} {x tl : List Int} {g : LV} (h : i < ls.length) (hf : 0 < f) (hg : ls[i]?.getD noLV = g) : goL U ls f i x tl = (if g.kind = 1 then goL U ls (f - 1) (if atF x U g.f < 0 then i + 1 + g.skip.toNat else i + 1) x tl else if g.kind = 2 then goL U ls (f - 1) (i + 1) (x.set g.pot.toNat (x[g.pot.toNat]?.getD 0 + atF x U g.f)) tl else if g.kind = 3 then goL U ls (f - 1) (i + 1) x (tl ++ [atF x U g.f]) else (true, x, tl)) := by
  obtain ⟨n, rfl⟩ : ∃ n, f = n + 1 := ⟨f - 1, by omega⟩
  rw [goL, if_pos h, hg]; rfl
/-- The whole run. -/
def runL (U : List Int) (ls : List LV) (V : List Int) : Bool × List Int × List Int := goL U ls 7 0 V []
/-- Where a run stands. -/
structure At (U : List Int) (ls : List LV) (V : List Int) (i : Nat) (x tl : List Int) : Prop where
  r : ∃ f, 7 ≤ i + f ∧ runL U ls V = goL U ls f i x tl
  b : i ≤ 6 → bnd (bd i) x
  l : x.length = 3
  t : tl.length ≤ i
theorem At.start {U : List Int} {ls : List LV} {V : List Int} (h : bnd 10000 V) (hl : V.length = 3) : At U ls V 0 V [] := ⟨⟨7, by omega, rfl⟩, fun _ => h, hl, Nat.le_refl _⟩
theorem At.done {U : List Int} {ls : List LV} {V : List Int} {i : Nat} {x tl : List Int} (h : At U ls V i x tl) (hi : ls.length ≤ i) : runL U ls V = (false, x, tl) := by
  obtain ⟨f, _, e⟩ := h.r
  rw [e, goL_end hi]
theorem At.one {U : List Int} {ls : List LV} {V : List Int} {i : Nat} {x tl : List Int} {g : LV} (h : At U ls V i x tl) (hi : i < ls.length) (h6 : ls.length ≤ 6) (hg : ls[i]?.getD noLV = g) : ∃ f, 7 ≤ (i + 1) + f ∧ runL U ls V = (if g.kind = 1 then goL U ls f (if atF x U g.f < 0 then i + 1 + g.skip.toNat else i + 1) x tl else if g.kind = 2 then goL U ls f (i + 1) (x.set g.pot.toNat (x[g.pot.toNat]?.getD 0 + atF x U g.f)) tl else if g.kind = 3 then goL U ls f (i + 1) x (tl ++ [atF x U g.f]) else (true, x, tl)) := by
  obtain ⟨f, h1, e⟩ := h.r
  exact ⟨f - 1, by omega, by rw [e, goL_one hi (by omega) hg]⟩
theorem At.skip {U : List Int} {ls : List LV} {V : List Int} {i j : Nat} {x tl : List Int} {g : LV} (h : At U ls V i x tl) (hi : i < ls.length) (h6 : ls.length ≤ 6) (hg : ls[i]?.getD noLV = g) (hk : g.kind = 1) (hj : j = if atF x U g.f < 0 then i + 1 + g.skip.toNat else i + 1) : At U ls V j x tl := by
  obtain ⟨f, h1, e⟩ := h.one hi h6 hg
  rw [if_pos hk, ← hj] at e
  have hij : i + 1 ≤ j := by rw [hj]; split <;> omega
  have ht := h.t
  exact ⟨⟨f, by omega, e⟩, fun h => bnd_mono (‹At U ls V i x tl›.b (by omega)) (bd_mono (by omega)), h.l, by omega⟩
theorem At.add {U : List Int} {ls : List LV} {V : List Int} {i : Nat} {x tl : List Int} {g : LV} (h : At U ls V i x tl) (hi : i < ls.length) (h6 : ls.length ≤ 6) (hg : ls[i]?.getD noLV = g) (hk : g.kind = 2) (h1 : -(6 * bd i + 56) ≤ atF x U g.f) (h2 : atF x U g.f ≤ 6 * bd i + 56) : At U ls V (i + 1) (x.set g.pot.toNat (x[g.pot.toNat]?.getD 0 + atF x U g.f)) tl := by
  obtain ⟨f, h3, e⟩ := h.one hi h6 hg
  rw [if_neg (by omega), if_pos hk] at e
  have ht := h.t
  refine ⟨⟨f, by omega, e⟩, fun _ => ?_, by rw [List.length_set]; exact h.l, by omega⟩
  have hb := h.b (by omega)
  have := hb g.pot.toNat
  have hp := bd_pos i
  exact bnd_set (bnd_mono hb (bd_succ i)) (by simp only [bd]; omega) (by simp only [bd]; omega)
theorem At.tell {U : List Int} {ls : List LV} {V : List Int} {i : Nat} {x tl : List Int} {g : LV} (h : At U ls V i x tl) (hi : i < ls.length) (h6 : ls.length ≤ 6) (hg : ls[i]?.getD noLV = g) (hk : g.kind = 3) : At U ls V (i + 1) x (tl ++ [atF x U g.f]) := by
  obtain ⟨f, h3, e⟩ := h.one hi h6 hg
  rw [if_neg (by omega), if_neg (by omega), if_pos hk] at e
  have ht := h.t
  exact ⟨⟨f, by omega, e⟩, fun _ => bnd_mono (h.b (by omega)) (bd_succ i), h.l, by rw [List.length_append]; simp; omega⟩
theorem At.stop {U : List Int} {ls : List LV} {V : List Int} {i : Nat} {x tl : List Int} {g : LV} (h : At U ls V i x tl) (hi : i < ls.length) (h6 : ls.length ≤ 6) (hg : ls[i]?.getD noLV = g) (h1 : ¬ g.kind = 1) (h2 : ¬ g.kind = 2) (h3 : ¬ g.kind = 3) : (runL U ls V).1 = true := by
  obtain ⟨f, _, e⟩ := h.one hi h6 hg
  rw [if_neg h1, if_neg h2, if_neg h3] at e
  rw [e]

end Go.Proofs.Ytemcinobgdphnaa
namespace Go.Proofs.Ytemcinobgdphnaa
open Go.RowKit
set_option linter.unusedVariables false
set_option maxRecDepth 100000

/-- All that is asked for is ok. -/
def runB (N : Nat) (ls : List LV) (p : Nat) (V : List Int) (q : Nat) (U : List Int) : Bool := actB N ls && okN 3 10000 p V && okN 2 9 q U
def runCode (N : Nat) (ls : List LV) (p : Nat) (V : List Int) (q : Nat) (U : List Int) : Int := if runB N ls p V q U then (if (runL U ls V).1 then 2 else endCode (runL U ls V).2.1) else 0
def runTells (N : Nat) (ls : List LV) (p : Nat) (V : List Int) (q : Nat) (U : List Int) : List Int := if runB N ls p V q U then (if (runL U ls V).1 then [] else endTells (runL U ls V).2.1 (runL U ls V).2.2) else []
def runPots (N : Nat) (ls : List LV) (p : Nat) (V : List Int) (q : Nat) (U : List Int) : List Int := if runB N ls p V q U then (if (runL U ls V).1 then V else endPots V (runL U ls V).2.1) else []
theorem run_no {N : Nat} {ls : List LV} {p : Nat} {V : List Int} {q : Nat} {U : List Int} (h : runB N ls p V q U = false) : runCode N ls p V q U = 0 ∧ runTells N ls p V q U = [] ∧ runPots N ls p V q U = [] := by
  simp [runCode, runTells, runPots, h]
theorem run_stop {N : Nat} {ls : List LV} {p : Nat} {V : List Int} {q : Nat} {U : List Int} (h : runB N ls p V q U = true) (hs : (runL U ls V).1 = true) : runCode N ls p V q U = 2 ∧ runTells N ls p V q U = [] ∧ runPots N ls p V q U = V := by
  simp [runCode, runTells, runPots, h, hs]
theorem run_go {N : Nat} {ls : List LV} {p : Nat} {V : List Int} {q : Nat} {U : List Int} {x tl : List Int} (h : runB N ls p V q U = true) (hs : runL U ls V = (false, x, tl)) : runCode N ls p V q U = endCode x ∧ runTells N ls p V q U = endTells x tl ∧ runPots N ls p V q U = endPots V x := by
  simp [runCode, runTells, runPots, h, hs]
theorem actB_six {N : Nat} {ls : List LV} (h : actB N ls = true) : N ≤ 6 ∧ ls.all LV.ok = true := by
  simp only [actB, Bool.and_eq_true, decide_eq_true_eq] at h
  exact ⟨by omega, h.1.2⟩
theorem allL_at {ls : List LV} {k : Nat} (h : ls.all LV.ok = true) (hk : k < ls.length) : (ls[k]?.getD noLV).ok = true := by
  rw [List.getElem?_eq_getElem hk]
  exact List.all_eq_true.1 h _ (List.getElem_mem hk)
theorem line_one {pot skip : Int} {n m : Nat} {C D : List Int} {K : Int} (h : lineB 1 pot skip n m C D K = true) : 1 ≤ skip ∧ skip ≤ 6 ∧ smallB n m C D K = true := by
  simp [lineB] at h
  have := inB_iff.1 h.1.2
  exact ⟨this.1, this.2, h.2⟩
theorem line_two {pot skip : Int} {n m : Nat} {C D : List Int} {K : Int} (h : lineB 2 pot skip n m C D K = true) : 0 ≤ pot ∧ pot < 3 ∧ smallB n m C D K = true := by
  simp [lineB] at h
  have := inB_iff.1 h.1.1
  exact ⟨this.1, by omega, h.2⟩
theorem line_three {pot skip : Int} {n m : Nat} {C D : List Int} {K : Int} (h : lineB 3 pot skip n m C D K = true) : smallB n m C D K = true := by
  simp [lineB] at h
  exact h.2
theorem JA.rebase {w w1 W : World} {v : Value} {xs : List Int} (j : JA w1 v xs W) (b : Below w.heap.size w w1) : JA w v xs W := by
  refine ⟨b.trans (j.b.mono b.size), j.o.1, ?_⟩
  have := b.size
  rcases j.o.2 with h2 | ⟨g, cap, cur, hv, hg, r⟩
  · exact Or.inl h2
  · exact Or.inr ⟨g, cap, cur, hv, by omega, r⟩
theorem JA.set {w W : World} {v : Value} {xs : List Int} (j : JA w v xs W) {B : Nat} (hB : w.heap.size ≤ B) (ne : v.ownBlock ≠ some B) (i : Nat) (y : Value) : JA w v xs (W.setCell ⟨B, i, none⟩ y) := by
  refine ⟨j.b.setCell hB _, j.o.1, ?_⟩
  rcases j.o.2 with h2 | ⟨g, cap, cur, hv, hg, hh, r⟩
  · exact Or.inl h2
  · refine Or.inr ⟨g, cap, cur, hv, hg, ?_, r⟩
    have hne : g ≠ B := fun e => ne (by rw [hv, e]; rfl)
    rw [Below.heap_setCell _ _ _ _ hne]; exact hh
/-- x lies apart from a list that has been appended to. -/
theorem OwnX.grown {W W' : World} {a : Option Addr} {B n : Nat} {zs : List Int} {row : Option Nat} {o : Obj} (h : OwnX W a B n zs) (hg : (W.alloc o).grownBy W' row) (hne : row ≠ some B) : OwnX W' a B n zs := by
  refine ⟨h.1, ?_⟩
  rcases h.2 with h0 | ⟨e, cur, hc, hv⟩
  · exact .inl h0
  · refine .inr ⟨e, cur, ?_, hv⟩
    have hl := hc.lt
    have h1 : Cel (W.alloc o) B cur 3 := hc.alloc o
    unfold Cel at *
    rw [hg.block B (by rw [World.size_alloc]; omega) (fun e => hne e.symm)]; exact h1
theorem Cel.grown {W W' : World} {B : Nat} {vs : List Value} {t : TypeId} {row : Option Nat} {o : Obj} (h : Cel W B vs t) (hg : (W.alloc o).grownBy W' row) (hne : row ≠ some B) : Cel W' B vs t := by
  have hl := h.lt
  have h1 : Cel (W.alloc o) B vs t := h.alloc o
  unfold Cel at *
  rw [hg.block B (by rw [World.size_alloc]; omega) (fun e => hne e.symm)]; exact h1

end Go.Proofs.Ytemcinobgdphnaa
namespace Go.Proofs.Ytemcinobgdphnaa
open Go.RowKit
set_option linter.unusedVariables false
set_option maxRecDepth 100000

theorem as_testStep_testStep (v : Value) (w : World) : (Instr.typeAssert (.iface 133 v) 122 133 true).run Try.prog w = .ok (.tuple #[v, .bool true]) w := by kernel_rfl
theorem as_testStep_addStep (v : Value) (w : World) : (Instr.typeAssert (.iface 133 v) 122 135 true).run Try.prog w = .ok (.tuple #[.agg #[.int .i64 0, .slice none 0 0, .slice none 0 0, .int .i64 0], .bool false]) w := by kernel_rfl
theorem as_testStep_printStep (v : Value) (w : World) : (Instr.typeAssert (.iface 133 v) 122 137 true).run Try.prog w = .ok (.tuple #[.agg #[.slice none 0 0, .slice none 0 0, .int .i64 0], .bool false]) w := by kernel_rfl
theorem as_testStep_stopStep (v : Value) (w : World) : (Instr.typeAssert (.iface 133 v) 122 139 true).run Try.prog w = .ok (.tuple #[.agg #[], .bool false]) w := by kernel_rfl
theorem as_addStep_testStep (v : Value) (w : World) : (Instr.typeAssert (.iface 135 v) 122 133 true).run Try.prog w = .ok (.tuple #[.agg #[.int .i64 0, .slice none 0 0, .slice none 0 0, .int .i64 0], .bool false]) w := by kernel_rfl
theorem as_addStep_addStep (v : Value) (w : World) : (Instr.typeAssert (.iface 135 v) 122 135 true).run Try.prog w = .ok (.tuple #[v, .bool true]) w := by kernel_rfl
theorem as_addStep_printStep (v : Value) (w : World) : (Instr.typeAssert (.iface 135 v) 122 137 true).run Try.prog w = .ok (.tuple #[.agg #[.slice none 0 0, .slice none 0 0, .int .i64 0], .bool false]) w := by kernel_rfl
theorem as_addStep_stopStep (v : Value) (w : World) : (Instr.typeAssert (.iface 135 v) 122 139 true).run Try.prog w = .ok (.tuple #[.agg #[], .bool false]) w := by kernel_rfl
theorem as_printStep_testStep (v : Value) (w : World) : (Instr.typeAssert (.iface 137 v) 122 133 true).run Try.prog w = .ok (.tuple #[.agg #[.int .i64 0, .slice none 0 0, .slice none 0 0, .int .i64 0], .bool false]) w := by kernel_rfl
theorem as_printStep_addStep (v : Value) (w : World) : (Instr.typeAssert (.iface 137 v) 122 135 true).run Try.prog w = .ok (.tuple #[.agg #[.int .i64 0, .slice none 0 0, .slice none 0 0, .int .i64 0], .bool false]) w := by kernel_rfl
theorem as_printStep_printStep (v : Value) (w : World) : (Instr.typeAssert (.iface 137 v) 122 137 true).run Try.prog w = .ok (.tuple #[v, .bool true]) w := by kernel_rfl
theorem as_printStep_stopStep (v : Value) (w : World) : (Instr.typeAssert (.iface 137 v) 122 139 true).run Try.prog w = .ok (.tuple #[.agg #[], .bool false]) w := by kernel_rfl
theorem as_stopStep_testStep (v : Value) (w : World) : (Instr.typeAssert (.iface 139 v) 122 133 true).run Try.prog w = .ok (.tuple #[.agg #[.int .i64 0, .slice none 0 0, .slice none 0 0, .int .i64 0], .bool false]) w := by kernel_rfl
theorem as_stopStep_addStep (v : Value) (w : World) : (Instr.typeAssert (.iface 139 v) 122 135 true).run Try.prog w = .ok (.tuple #[.agg #[.int .i64 0, .slice none 0 0, .slice none 0 0, .int .i64 0], .bool false]) w := by kernel_rfl
theorem as_stopStep_printStep (v : Value) (w : World) : (Instr.typeAssert (.iface 139 v) 122 137 true).run Try.prog w = .ok (.tuple #[.agg #[.slice none 0 0, .slice none 0 0, .int .i64 0], .bool false]) w := by kernel_rfl
theorem as_stopStep_stopStep (v : Value) (w : World) : (Instr.typeAssert (.iface 139 v) 122 139 true).run Try.prog w = .ok (.tuple #[v, .bool true]) w := by kernel_rfl

section
variable {w1 W W' : World} {Dd B cp : Nat} {ua : Option Addr} {cu : Nat} {v : Value} {x tl : List Int}
end

end Go.Proofs.Ytemcinobgdphnaa
namespace Go.Proofs.Ytemcinobgdphnaa
open Go.RowKit
set_option linter.unusedVariables false
set_option maxRecDepth 100000

theorem touch_grown {S : Nat → Prop} {w W W' : World} {row : Option Nat} (h : Touch S w W) (g : W.grownBy W' row) (hr : ∀ k, row = some k → S k) : Touch S w W' :=
  ⟨g.os.trans h.os, g.tape.trans h.tape, g.output.trans h.output, Nat.le_trans h.size g.size, fun k hk hs => (g.block k (Nat.lt_of_lt_of_le hk h.size) (fun e => hs (hr k e.symm))).trans (h.block k hk hs)⟩

end Go.Proofs.Ytemcinobgdphnaa
namespace Go.Proofs.Ytemcinobgdphnaa
open Go.RowKit
set_option linter.unusedVariables false
set_option maxRecDepth 100000

end Go.Proofs.Ytemcinobgdphnaa
namespace Go.Proofs.Ytemcinobgdphnaa
open Go.RowKit
set_option linter.unusedVariables false
set_option maxRecDepth 100000

theorem JS.open {w W : World} {v : Value} {ls : List LV} {N : Nat} (j : JS w v (ls.map stepV) W) (hN : ls.length = N) : ∃ sa cap G, v = .slice sa N cap ∧ (0 < N → sa = some ⟨G, 0, none⟩) ∧ ∀ i, i < N → W.cell? ⟨G, i, none⟩ = some (stepV (ls[i]?.getD noLV)) := by
  have hl : (ls.map stepV).length = N := by rw [List.length_map, hN]
  rcases j.o.2 with ⟨hv, h⟩ | ⟨g, cap', cur, hv, hg, hh, hcl, _, hs, ht⟩
  · rw [hl] at h
    subst h
    exact ⟨none, 0, 0, hv, fun h => by omega, fun i h => by omega⟩
  · have o := j.o
    rw [hl] at hv o
    rw [hv] at o
    refine ⟨some ⟨g, 0, none⟩, cap', g, hv, fun _ => rfl, fun i hi => ?_⟩
    rw [o.cellAt i (by omega), List.getElem?_map, List.getElem?_eq_getElem (by omega)]
    rfl

end Go.Proofs.Ytemcinobgdphnaa
namespace Go.Proofs.Ytemcinobgdphnaa
open Go.RowKit
set_option linter.unusedVariables false

theorem two_of {A : List Int} (h : A.length = 2) : ∃ x y, A = [x, y] := by
  match A, h with
  | [x, y], _ => exact ⟨x, y, rfl⟩
theorem three_of {A : List Int} (h : A.length = 3) : ∃ x y z, A = [x, y, z] := by
  match A, h with
  | [x, y, z], _ => exact ⟨x, y, z, rfl⟩
/-- Within what a form's numbers may be. -/
def inM (x : Int) : Prop := -10000000 ≤ x ∧ x ≤ 10000000
theorem okP_of {x y z s t K : Int} (hx : inM x) (hy : inM y) (hz : inM z) (hs : inM s) (ht : inM t) (hK : inM K) : okP ([x, y, z], [s, t], K) = true := by
  unfold inM at *
  simp [okP, formB, okN, allB, inB]
  omega
theorem okP_shape {f : Frm} (h : okP f = true) : ∃ x y z s t K, f = ([x, y, z], [s, t], K) ∧ inM x ∧ inM y ∧ inM z ∧ inM s ∧ inM t ∧ inM K := by
  obtain ⟨C, D, K⟩ := f
  obtain ⟨l1, l2, b1, b2, b3, b4⟩ := formB_elim h
  obtain ⟨x, y, z, rfl⟩ := three_of l1
  obtain ⟨s, t, rfl⟩ := two_of l2
  have c0 := b1 0
  have c1 := b1 1
  have c2 := b1 2
  have d0 := b2 0
  have d1 := b2 1
  simp only [List.getElem?_cons_zero, List.getElem?_cons_succ, Option.getD_some] at c0 c1 c2 d0 d1
  exact ⟨x, y, z, s, t, K, rfl, c0, c1, c2, d0, d1, ⟨b3, b4⟩⟩
theorem okP_no {x y z s t K : Int} (h : okP ([x, y, z], [s, t], K) = true) : inM x ∧ inM y ∧ inM z ∧ inM s ∧ inM t ∧ inM K := by
  obtain ⟨x', y', z', s', t', K', e, h⟩ := okP_shape h
  simp only [Prod.mk.injEq, List.cons.injEq, and_true] at e
  obtain ⟨⟨rfl, rfl, rfl⟩, ⟨rfl, rfl⟩, rfl⟩ := e
  exact h
theorem timP_no {f : Frm} {k : Int} (h : timB f k = false) : timP f k = ([], [], 0) := by unfold timP; rw [h]; rfl
theorem timP_yes {f : Frm} {k : Int} (h : timB f k = true) : timP f k = (mulL k f.1, mulL k f.2.1, k * f.2.2) := by unfold timP; rw [h]; rfl
theorem timB_ok {f : Frm} {k : Int} (h : timB f k = true) : okP f = true ∧ -10000000 ≤ k ∧ k ≤ 10000000 := by
  unfold timB timOk at h
  simp only [Bool.and_eq_true] at h
  exact ⟨h.1.1, inB_iff.1 h.1.2⟩
theorem timB_not {f : Frm} {k : Int} (h : okP f = false) : timB f k = false := by
  unfold okP at h
  unfold timB timOk
  rw [h]; rfl
theorem tim_shape {x y z s t K k : Int} (h : okP ([x, y, z], [s, t], K) = true) (h1 : -10000000 ≤ k) (h2 : k ≤ 10000000) (h3 : okP ([k * x, k * y, k * z], [k * s, k * t], k * K) = true) : timP ([x, y, z], [s, t], K) k = ([k * x, k * y, k * z], [k * s, k * t], k * K) := by
  have hb : timB ([x, y, z], [s, t], K) k = true := by
    unfold timB timOk
    unfold okP at h h3
    rw [h, inB_iff.2 ⟨h1, h2⟩]
    exact h3
  rw [timP_yes hb]
  rfl
theorem tim_one {f : Frm} (h : okP f = true) : timP f 1 = f := by
  obtain ⟨x, y, z, s, t, K, rfl, _⟩ := okP_shape h
  have e := tim_shape (k := 1) h (by omega) (by omega) (by simpa using h)
  simpa using e
theorem tim_nil {f : Frm} (h : okP f = true) : timP f 0 = zeroP := by
  obtain ⟨x, y, z, s, t, K, rfl, _⟩ := okP_shape h
  have e := tim_shape (k := 0) h (by omega) (by omega) (by simp; decide)
  simpa [zeroP] using e
theorem tim_neg {x y z s t K : Int} (h : okP ([x, y, z], [s, t], K) = true) : timP ([x, y, z], [s, t], K) (-1) = ([-x, -y, -z], [-s, -t], -K) ∧ okP ([-x, -y, -z], [-s, -t], -K) = true := by
  obtain ⟨a1, a2, a3, a4, a5, a6⟩ := okP_no h
  have h' : okP ([-x, -y, -z], [-s, -t], -K) = true := okP_of (by unfold inM at *; omega) (by unfold inM at *; omega) (by unfold inM at *; omega) (by unfold inM at *; omega) (by unfold inM at *; omega) (by unfold inM at *; omega)
  have e := tim_shape (k := -1) h (by omega) (by omega) (by simpa using h')
  exact ⟨by simpa using e, h'⟩
theorem tim_back {f : Frm} (h : okP f = true) : timP (timP f (-1)) (-1) = f := by
  obtain ⟨x, y, z, s, t, K, rfl, _⟩ := okP_shape h
  obtain ⟨e, h'⟩ := tim_neg h
  rw [e, (tim_neg h').1]
  simp
theorem add_neg {f : Frm} (h : okP f = true) : addP f (timP f (-1)) = zeroP := by
  obtain ⟨x, y, z, s, t, K, rfl, _⟩ := okP_shape h
  obtain ⟨e, h'⟩ := tim_neg h
  rw [e]
  have hb : addB ([x, y, z], [s, t], K) ([-x, -y, -z], [-s, -t], -K) = true := by
    unfold addB addOk
    unfold okP at h h'
    rw [h, h']
    simp [lin, formB, okN, allB, inB]
    omega
  unfold addP
  rw [hb]
  simp [keepL, keepK, lin, zeroP]
  omega
theorem dot_mul {xs V : List Int} {n : Int} {k : Nat} (h : xs.length = k) : ∀ j, j ≤ k → dot (mulL n xs) V j = n * dot xs V j
  | 0, _ => by simp [dot]
  | j + 1, hj => by
    have ih := dot_mul (V := V) (n := n) h j (by omega)
    have e := mulL_get (n := n) (zs := xs) (i := j) (by omega)
    simp only [dot, ih, e]
    rw [Int.mul_add, Int.mul_assoc]
theorem at_bnd {f : Frm} {V A : List Int} : -10000000000000 ≤ atP f V A ∧ atP f V A ≤ 10000000000000 := by
  unfold atP
  cases h : atOk f.1.length f.2.1.length V.length A.length f.1 f.2.1 f.2.2 V A
  · rw [atN_no h]; omega
  · rw [atN_yes h]
    unfold atOk at h
    simp only [Bool.and_eq_true] at h
    obtain ⟨⟨h1, h2⟩, h3⟩ := h
    obtain ⟨_, _, b1, b2, b3, b4⟩ := formB_elim h1
    have v1 := (okN_elim (by omega) h2).2
    have a1 := (okN_elim (by omega) h3).2
    have d1 := dot_bnd (bndP_of b1 v1 (by omega) (by omega)) 3
    have d2 := dot_bnd (bndP_of b2 a1 (by omega) (by omega)) 2
    unfold atV
    omega
theorem tim_at {f : Frm} {k : Int} {V A : List Int} (h : atB (timP f k) V A = true) : atB f V A = true ∧ atP (timP f k) V A = k * atP f V A := by
  have hb : timB f k = true := by
    cases hb : timB f k
    · rw [timP_no hb] at h
      unfold atB atOk at h
      simp [formB, okN] at h
    · rfl
  obtain ⟨h1, _, _⟩ := timB_ok hb
  have h' := h
  unfold atB atOk at h'
  simp only [Bool.and_eq_true] at h'
  obtain ⟨⟨_, hV⟩, hA⟩ := h'
  have t1 : atB f V A = true := by unfold okP at h1; unfold atB atOk; rw [h1, hV, hA]; rfl
  refine ⟨t1, ?_⟩
  have l1 := formB_elim h1
  unfold atP
  rw [atN_yes h, atN_yes t1, timP_yes hb]
  unfold atV
  rw [dot_mul l1.1 3 (by omega), dot_mul l1.2.1 2 (by omega)]
  dsimp only
  rw [Int.mul_add, Int.mul_add]

end Go.Proofs.Ytemcinobgdphnaa
namespace Go.Proofs.Ytemcinobgdphnaa
open Go.RowKit
set_option linter.unusedVariables false
set_option maxRecDepth 100000

theorem goL_len (U : List Int) (ls : List LV) : ∀ (f i : Nat) (x tl : List Int), (goL U ls f i x tl).2.1.length = x.length ∧ (goL U ls f i x tl).2.2.length ≤ tl.length + f
  | 0, i, x, tl => by simp [goL]
  | f + 1, i, x, tl => by
    unfold goL
    split
    · split
      · have h := goL_len U ls f (if atF x U (ls[i]?.getD noLV).f < 0 then i + 1 + (ls[i]?.getD noLV).skip.toNat else i + 1) x tl
        exact ⟨h.1, by omega⟩
      · split
        · have h := goL_len U ls f (i + 1) (x.set (ls[i]?.getD noLV).pot.toNat (x[(ls[i]?.getD noLV).pot.toNat]?.getD 0 + atF x U (ls[i]?.getD noLV).f)) tl
          exact ⟨by rw [h.1, List.length_set], by omega⟩
        · split
          · have h := goL_len U ls f (i + 1) x (tl ++ [atF x U (ls[i]?.getD noLV).f])
            rw [List.length_append] at h
            exact ⟨h.1, by simp only [List.length_cons, List.length_nil] at h; omega⟩
          · simp
    · simp
theorem goL_stop (U : List Int) (ls : List LV) (s : LV) (hs : s.kind = 4) : ∀ (f i : Nat) (x tl : List Int), (goL U (ls ++ [s]) f i x tl).1 = true ∨ (goL U (ls ++ [s]) f i x tl = goL U ls f i x tl ∧ (goL U ls f i x tl).1 = false)
  | 0, i, x, tl => by right; simp [goL]
  | f + 1, i, x, tl => by
    by_cases hi : i < ls.length
    · have e : (ls ++ [s])[i]?.getD noLV = ls[i]?.getD noLV := by rw [List.getElem?_append_left hi]
      unfold goL
      rw [if_pos hi, if_pos (by rw [List.length_append]; omega), e]
      split
      · exact goL_stop U ls s hs f _ x tl
      · split
        · exact goL_stop U ls s hs f _ _ tl
        · split
          · exact goL_stop U ls s hs f _ x _
          · left; rfl
    · by_cases hl : i = ls.length
      · left
        subst hl
        unfold goL
        rw [if_pos (by rw [List.length_append]; simp)]
        have e : (ls ++ [s])[ls.length]?.getD noLV = s := by simp
        rw [e, hs]
        rfl
      · right
        unfold goL
        rw [if_neg hi, if_neg (by rw [List.length_append]; simp; omega)]
        exact ⟨rfl, rfl⟩
theorem runTells_le (N : Nat) (ls : List LV) (p : Nat) (V : List Int) (q : Nat) (U : List Int) : (runTells N ls p V q U).length ≤ 7 := by
  have h := (goL_len U ls 7 0 V []).2
  unfold runTells
  split
  · split
    · simp
    · unfold endTells
      split
      · unfold runL; simpa using h
      · simp
  · simp
theorem runPots_le (N : Nat) (ls : List LV) (p : Nat) (V : List Int) (q : Nat) (U : List Int) : (runPots N ls p V q U).length ≤ V.length := by
  have h := (goL_len U ls 7 0 V []).1
  unfold runPots
  split
  · split
    · exact Nat.le_refl _
    · unfold endPots
      split
      · unfold runL; omega
      · exact Nat.le_refl _
  · simp
/-- A call has done an act: what came of it, and what the pots have. -/
def RunM (w w' : World) (e : Ending) (code : Int) (tl pl : List Int) : Prop := ∃ a n cap b m cap', e = .returned (.tuple #[resV code a n cap, .slice b m cap']) ∧ Ints w' a n tl ∧ Ints w' b m pl ∧ Below w.heap.size w w'
theorem RunM.of {w w' : World} {e : Ending} {code : Int} {tl pl : List Int} (h : ResD w w' e code tl pl) : RunM w w' e code tl pl := by
  obtain ⟨a, n, cap, B1, b, m, cap', B2, he, h1, h2, hb, o1, o2, _⟩ := h
  exact ⟨a, n, cap, b, m, cap', he, o1.ints, o2.ints, hb⟩

end Go.Proofs.Ytemcinobgdphnaa
namespace Go.Proofs.Ytemcinobgdphnaa
open Go.RowKit
set_option linter.unusedVariables false
set_option maxRecDepth 100000

/-- A form at pots and arguments. -/
def atX (V U : List Int) (f : Frm) : Int := atV f.1 f.2.1 f.2.2 V U
theorem dot_linN {xs ys V : List Int} {n : Int} {k : Nat} (h1 : xs.length = k) (h2 : ys.length = k) : ∀ j, j ≤ k → dot (lin xs ys n) V j = dot xs V j + n * dot ys V j
  | 0, _ => by simp [dot]
  | j + 1, hj => by
    have ih := dot_linN (V := V) (n := n) h1 h2 j (by omega)
    have e := lin_get (n := n) h1 h2 (show j < k by omega)
    simp only [dot, ih, e]
    rw [Int.add_mul, Int.mul_add, Int.mul_assoc]
    omega
/-- Three and two numbers. -/
def shX (f : Frm) : Prop := f.1.length = 3 ∧ f.2.1.length = 2
theorem atX_plus {V U : List Int} {f g : Frm} (hf : shX f) (hg : shX g) : atX V U (plusX f g) = atX V U f + atX V U g := by
  simp only [atX, plusX, atV]
  rw [dot_linN hf.1 hg.1 3 (by omega), dot_linN hf.2 hg.2 2 (by omega)]
  omega
theorem atX_minus {V U : List Int} {f : Frm} (hf : shX f) : atX V U (minusX f) = - atX V U f - 1 := by
  simp only [atX, minusX, atV]
  rw [dot_mul hf.1 3 (by omega), dot_mul hf.2 2 (by omega)]
  omega
theorem shX_plus {f g : Frm} (hf : shX f) (hg : shX g) : shX (plusX f g) := ⟨lin_len hf.1 hg.1, lin_len hf.2 hg.2⟩
theorem shX_minus {f : Frm} (hf : shX f) : shX (minusX f) := ⟨by simp only [minusX, mulL, List.length_map]; exact hf.1, by simp only [minusX, mulL, List.length_map]; exact hf.2⟩
theorem dot_pot {V : List Int} : ∀ v, v < 3 → dot ([0, 0, 0].set v 1) V 3 = V[v]?.getD 0
  | 0, _ => by simp [dot]
  | 1, _ => by simp [dot]
  | 2, _ => by simp [dot]
theorem dot_zero2 {V : List Int} : dot [0, 0] V 2 = 0 := by simp [dot]
theorem len_pot (v : Nat) : (([0, 0, 0] : List Int).set v 1).length = 3 := by simp
theorem atX_less {V U : List Int} {f : Frm} {v : Nat} (hf : shX f) (hv : v < 3) : atX V U (lessX f v) = atX V U f - V[v]?.getD 0 := by
  simp only [atX, lessX, atV]
  rw [dot_linN hf.1 (len_pot v) 3 (by omega), dot_linN hf.2 rfl 2 (by omega), dot_pot v hv, dot_zero2]
  omega
theorem atX_pot {V U : List Int} {v : Nat} (hv : v < 3) : atX V U (potX v) = V[v]?.getD 0 := by
  simp only [atX, potX, atV]
  rw [dot_pot v hv, dot_zero2]
  omega
theorem three_x {P : List Frm} (h : P.length = 3) : ∃ a b c, P = [a, b, c] := by
  match P, h with
  | [a, b, c], _ => exact ⟨a, b, c, rfl⟩
theorem shX_into {f : FV} {P : List Frm} (hD : f.D.length = 2) (hP : P.length = 3) (h : ∀ p ∈ P, shX p) : shX (intoX f P) := by
  obtain ⟨a, b, c, rfl⟩ := three_x hP
  have ha := h a (by simp)
  have hb := h b (by simp)
  have hc := h c (by simp)
  exact ⟨lin_len (lin_len (lin_len rfl ha.1) hb.1) hc.1, lin_len (lin_len (lin_len hD ha.2) hb.2) hc.2⟩
theorem atX_into {V U : List Int} {f : FV} {P : List Frm} (hD : f.D.length = 2) (hP : P.length = 3) (h : ∀ p ∈ P, shX p) : atX V U (intoX f P) = atF (P.map (atX V U)) U f := by
  obtain ⟨a, b, c, rfl⟩ := three_x hP
  have ha := h a (by simp)
  have hb := h b (by simp)
  have hc := h c (by simp)
  have e1 : dot (intoC f.C ([a, b, c].map toFV) 3) V 3 = f.C[0]?.getD 0 * dot a.1 V 3 + f.C[1]?.getD 0 * dot b.1 V 3 + f.C[2]?.getD 0 * dot c.1 V 3 := by
    show dot (lin (lin (lin [0, 0, 0] a.1 _) b.1 _) c.1 _) V 3 = _
    rw [dot_linN (k := 3) (lin_len (lin_len rfl ha.1) hb.1) hc.1 3 (by omega), dot_linN (k := 3) (lin_len rfl ha.1) hb.1 3 (by omega), dot_linN (k := 3) rfl ha.1 3 (by omega)]
    simp [dot]
  have e2 : dot (intoD f.C f.D ([a, b, c].map toFV) 3) U 2 = dot f.D U 2 + f.C[0]?.getD 0 * dot a.2.1 U 2 + f.C[1]?.getD 0 * dot b.2.1 U 2 + f.C[2]?.getD 0 * dot c.2.1 U 2 := by
    show dot (lin (lin (lin f.D a.2.1 _) b.2.1 _) c.2.1 _) U 2 = _
    rw [dot_linN (lin_len (lin_len hD ha.2) hb.2) hc.2 2 (by omega), dot_linN (lin_len hD ha.2) hb.2 2 (by omega), dot_linN hD ha.2 2 (by omega)]
  have e3 : intoK f.C f.K ([a, b, c].map toFV) 3 = f.K + f.C[0]?.getD 0 * a.2.2 + f.C[1]?.getD 0 * b.2.2 + f.C[2]?.getD 0 * c.2.2 := rfl
  simp only [atF, atX, intoX, atV]
  rw [e1, e2, e3]
  simp only [dot, List.map_cons, List.map_nil, List.getElem?_cons_zero, List.getElem?_cons_succ, Option.getD_some, atX, atV, Int.mul_add]
  omega

/-- A row's guards all hold. -/
def fitG (V U : List Int) (r : RowM) : Bool := r.guards.all fun g => decide (0 ≤ atX V U g)
def goodG (V U : List Int) (gs : List Frm) : Bool := gs.all fun g => decide (0 ≤ atX V U g)
/-- What going a row comes to. -/
def rowEnd (V U : List Int) (r : RowM) : List Int := (List.range 3).map fun v => V[v]?.getD 0 + atX V U (r.adds[v]?.getD noX)
structure Fits (V U : List Int) (o : Bool × List Int × List Int) (r : RowM) : Prop where
  st : o.1 = r.stop
  ad : r.stop = false → o.2.1 = rowEnd V U r ∧ o.2.2 = r.tells.map (atX V U)
structure WaySh (y : Way) : Prop where
  l : y.pots.length = 3
  s : ∀ p ∈ y.pots, shX p
theorem range3 (g : Nat → Int) : (List.range 3).map g = [g 0, g 1, g 2] := rfl
theorem endW_fits {V U : List Int} {y : Way} (h : WaySh y) : Fits V U (false, y.pots.map (atX V U), y.tells.map (atX V U)) (endW y) := by
  refine ⟨rfl, fun _ => ⟨?_, rfl⟩⟩
  obtain ⟨a, b, c, e⟩ := three_x h.l
  have hs := h.s
  rw [e] at hs
  have ha := hs a (by simp)
  have hb := hs b (by simp)
  have hc := hs c (by simp)
  show y.pots.map (atX V U) = (List.range 3).map _
  rw [range3, e]
  have r0 : (endW y).adds[0]?.getD noX = lessX a 0 := by simp [endW, e]
  have r1 : (endW y).adds[1]?.getD noX = lessX b 1 := by simp [endW, e]
  have r2 : (endW y).adds[2]?.getD noX = lessX c 2 := by simp [endW, e]
  rw [r0, r1, r2, atX_less ha (by omega), atX_less hb (by omega), atX_less hc (by omega)]
  simp only [List.map_cons, List.map_nil, List.cons.injEq, and_true]
  exact ⟨by omega, by omega, by omega⟩
theorem WaySh.add {y : Way} {p : Nat} {f : Frm} (h : WaySh y) (hp : p < 3) (hf : shX f) : WaySh (y.add p f) := by
  refine ⟨by simp only [Way.add, List.length_set]; exact h.l, fun q hq => ?_⟩
  simp only [Way.add] at hq
  rcases List.mem_or_eq_of_mem_set hq with hq | rfl
  · exact h.s q hq
  · refine shX_plus (h.s _ ?_) hf
    rw [List.getElem?_eq_getElem (by rw [h.l]; exact hp)]
    exact List.getElem_mem _
theorem map_add {V U : List Int} {y : Way} {p : Nat} {f : Frm} (h : WaySh y) (hp : p < 3) (hf : shX f) : (y.add p f).pots.map (atX V U) = (y.pots.map (atX V U)).set p ((y.pots.map (atX V U))[p]?.getD 0 + atX V U f) := by
  simp only [Way.add]
  have hl : p < y.pots.length := by rw [h.l]; exact hp
  rw [List.map_set, List.getElem?_map, List.getElem?_eq_getElem hl, Option.getD_some, atX_plus (h.s _ (List.getElem_mem hl)) hf]
  rfl
theorem fit_app (V U : List Int) (gs : List Frm) (g : Frm) : goodG V U (gs ++ [g]) = (goodG V U gs && decide (0 ≤ atX V U g)) := by simp [goodG]
theorem fit_one {V U : List Int} {r : RowM} {gs : List Frm} {o : Bool × List Int × List Int} (e : r.guards = gs) (h : Fits V U o r) : (goodG V U gs = true → ∃ r', [r].filter (fitG V U) = [r'] ∧ Fits V U o r') ∧ (goodG V U gs = false → [r].filter (fitG V U) = []) := by
  have e' : fitG V U r = goodG V U gs := by rw [← e]; rfl
  refine ⟨fun hg => ⟨r, ?_, h⟩, fun hg => ?_⟩
  · rw [List.filter_cons, e', hg]; rfl
  · rw [List.filter_cons, e', hg]; rfl

/-- Of all ways just one fits, and it comes to what the act comes to. -/
theorem run_way (V U : List Int) (ls : List LV) (hall : ls.all LV.ok = true) (hD : ∀ k, k < ls.length → (ls[k]?.getD noLV).f.D.length = (ls[k]?.getD noLV).f.m) : ∀ (f i : Nat) (y : Way), WaySh y →
    (goodG V U y.guards = true → ∃ r, (goW ls f i y).filter (fitG V U) = [r] ∧ Fits V U (goL U ls f i (y.pots.map (atX V U)) (y.tells.map (atX V U))) r) ∧ (goodG V U y.guards = false → (goW ls f i y).filter (fitG V U) = [])
  | 0, i, y, h => fit_one rfl (endW_fits h)
  | f + 1, i, y, h => by
    by_cases hi : i < ls.length
    · have hok : (ls[i]?.getD noLV).ok = true := by
        rw [List.getElem?_eq_getElem hi]
        exact List.all_eq_true.1 hall _ (List.getElem_mem hi)
      have hDD := hD i hi
      rw [goL, goW, if_pos hi, if_pos hi]
      generalize ls[i]?.getD noLV = l at *
      have hsm : ∀ {n m : Nat} {C D : List Int} {K : Int}, smallB n m C D K = true → m = 2 := fun hs => by
        simp only [smallB, Bool.and_eq_true] at hs
        have := (okN_elim (by omega) hs.1.2).1
        omega
      unfold LV.ok lineB at hok
      by_cases k1 : l.kind = 1
      · rw [if_pos k1] at hok
        simp only [Bool.and_eq_true] at hok
        have hD2 : l.f.D.length = 2 := by rw [hDD]; exact hsm hok.2
        have hs := shX_into hD2 h.l h.s
        have e := atX_into (V := V) (U := U) hD2 h.l h.s
        rw [if_pos k1, if_pos k1, List.filter_append]
        have A := run_way V U ls hall hD f (i + 1) (y.guard (intoX l.f y.pots)) ⟨h.l, h.s⟩
        have B := run_way V U ls hall hD f (i + 1 + l.skip.toNat) (y.guard (minusX (intoX l.f y.pots))) ⟨h.l, h.s⟩
        have gA : goodG V U (y.guard (intoX l.f y.pots)).guards = (goodG V U y.guards && decide (0 ≤ atX V U (intoX l.f y.pots))) := fit_app _ _ _ _
        have gB : goodG V U (y.guard (minusX (intoX l.f y.pots))).guards = (goodG V U y.guards && decide (0 ≤ atX V U (minusX (intoX l.f y.pots)))) := fit_app _ _ _ _
        rw [atX_minus hs] at gB
        refine ⟨fun hg => ?_, fun hg => ?_⟩
        · rw [hg, Bool.true_and] at gA gB
          by_cases hn : atF (y.pots.map (atX V U)) U l.f < 0
          · rw [if_pos hn, A.2 (by rw [gA]; exact decide_eq_false (by omega)), List.nil_append]
            exact B.1 (by rw [gB]; exact decide_eq_true (by omega))
          · rw [if_neg hn, B.2 (by rw [gB]; exact decide_eq_false (by omega)), List.append_nil]
            exact A.1 (by rw [gA]; exact decide_eq_true (by omega))
        · rw [hg, Bool.false_and] at gA gB
          rw [A.2 gA, B.2 gB]; rfl
      · rw [if_neg k1] at hok
        rw [if_neg k1, if_neg k1]
        by_cases k2 : l.kind = 2
        · rw [if_pos k2] at hok
          simp only [Bool.and_eq_true] at hok
          have hD2 : l.f.D.length = 2 := by rw [hDD]; exact hsm hok.2
          have hs := shX_into hD2 h.l h.s
          have e := atX_into (V := V) (U := U) hD2 h.l h.s
          have hp := inB_iff.1 hok.1.1
          have hp3 : l.pot.toNat < 3 := by omega
          rw [if_pos k2, if_pos k2]
          have A := run_way V U ls hall hD f (i + 1) (y.add l.pot.toNat (intoX l.f y.pots)) (h.add hp3 hs)
          rw [map_add h hp3 hs, e] at A
          exact A
        · rw [if_neg k2] at hok
          rw [if_neg k2, if_neg k2]
          by_cases k3 : l.kind = 3
          · rw [if_pos k3] at hok
            simp only [Bool.and_eq_true] at hok
            have hD2 : l.f.D.length = 2 := by rw [hDD]; exact hsm hok.2
            have e := atX_into (V := V) (U := U) hD2 h.l h.s
            rw [if_pos k3, if_pos k3]
            have A := run_way V U ls hall hD f (i + 1) (y.tell (intoX l.f y.pots)) ⟨h.l, h.s⟩
            have et : (y.tell (intoX l.f y.pots)).tells.map (atX V U) = y.tells.map (atX V U) ++ [atF (y.pots.map (atX V U)) U l.f] := by simp only [Way.tell, List.map_append, List.map_cons, List.map_nil]; rw [e]
            rw [et] at A
            exact A
          · rw [if_neg k3, if_neg k3]
            exact fit_one rfl ⟨rfl, fun h => by cases h⟩
    · rw [goW_end (by omega), goL_end (by omega)]
      exact fit_one rfl (endW_fits h)
theorem map_way0 {V U : List Int} (h : V.length = 3) : way0.pots.map (atX V U) = V := by
  match V, h with
  | [a, b, c], _ =>
    simp only [way0, List.map_cons, List.map_nil]
    rw [atX_pot (by omega), atX_pot (by omega), atX_pot (by omega)]
    rfl
theorem way0_sh : WaySh way0 := ⟨rfl, fun p hp => by
  simp only [way0, List.mem_cons, List.not_mem_nil, or_false] at hp
  rcases hp with rfl | rfl | rfl <;> exact ⟨rfl, rfl⟩⟩
theorem runL_way {V U : List Int} {ls : List LV} (hV : V.length = 3) (hall : ls.all LV.ok = true) (hD : ∀ k, k < ls.length → (ls[k]?.getD noLV).f.D.length = (ls[k]?.getD noLV).f.m) : ∃ r, (rowsL ls).filter (fitG V U) = [r] ∧ Fits V U (runL U ls V) r := by
  have h := (run_way V U ls hall hD 7 0 way0 way0_sh).1 rfl
  rw [map_way0 hV] at h
  exact h

end Go.Proofs.Ytemcinobgdphnaa
namespace Go.Proofs.Ytemcinobgdphnaa
open Go.RowKit Go.Deep
set_option linter.unusedVariables false
set_option maxRecDepth 100000

theorem goW_guards {ls : List LV} (f : Nat) : ∀ (i : Nat) (y : Way) (r : RowM), r ∈ goW ls f i y → r.guards.length ≤ y.guards.length + f := by
  induction f with
  | zero =>
    intro i y r h
    simp only [goW, List.mem_singleton] at h
    subst h
    simp [endW]
  | succ f ih =>
    intro i y r h
    rw [goW] at h
    by_cases hi : i < ls.length
    · rw [if_pos hi] at h
      by_cases h1 : (ls[i]?.getD noLV).kind = 1
      · rw [if_pos h1, List.mem_append] at h
        rcases h with h | h
        · have := ih _ _ _ h
          simp only [Way.guard, List.length_append, List.length_cons, List.length_nil] at this
          omega
        · have := ih _ _ _ h
          simp only [Way.guard, List.length_append, List.length_cons, List.length_nil] at this
          omega
      · rw [if_neg h1] at h
        by_cases h2 : (ls[i]?.getD noLV).kind = 2
        · rw [if_pos h2] at h
          have := ih _ _ _ h
          simp only [Way.add] at this
          omega
        · rw [if_neg h2] at h
          by_cases h3 : (ls[i]?.getD noLV).kind = 3
          · rw [if_pos h3] at h
            have := ih _ _ _ h
            simp only [Way.tell] at this
            omega
          · rw [if_neg h3, List.mem_singleton] at h
            subst h
            simp only [stopW]
            omega
    · rw [if_neg hi, List.mem_singleton] at h
      subst h
      simp only [endW]
      omega
theorem addP_most (ps : List (List Int)) (p : List Int) : (addPb ps p).length ≤ ps.length + 1 := by
  unfold addPb
  split
  · omega
  · simp
theorem guardsP_most (fs : List Frm) : ∀ ps : List (List Int), (guardsP ps fs).length ≤ ps.length + fs.length := by
  induction fs with
  | nil => intro ps; simp [guardsP]
  | cons f fs ih =>
    intro ps
    have h1 := ih (addPb ps (partL f.1))
    have h2 := addP_most ps (partL f.1)
    have e : guardsP ps (f :: fs) = guardsP (addPb ps (partL f.1)) fs := rfl
    rw [e, List.length_cons]
    omega
theorem rowsP_most (rs : List RowM) (M : Nat) : ∀ ps : List (List Int), (∀ r ∈ rs, r.guards.length ≤ M) → (rowsP ps rs).length ≤ ps.length + rs.length * M := by
  induction rs with
  | nil => intro ps _; simp [rowsP]
  | cons r rs ih =>
    intro ps h
    have h1 := ih (guardsP ps r.guards) (fun x hx => h x (List.mem_cons_of_mem _ hx))
    have h2 := guardsP_most r.guards ps
    have h3 := h r List.mem_cons_self
    have e : rowsP ps (r :: rs) = rowsP (guardsP ps r.guards) rs := rfl
    rw [e, List.length_cons, Nat.succ_mul]
    omega
theorem actsP_most (ss : List L2V) : ∀ ps : List (List Int), (actsP ps ss).length ≤ ps.length + ss.length * 896 := by
  induction ss with
  | nil => intro ps; simp [actsP]
  | cons s ss ih =>
    intro ps
    have h1 := ih (rowsP ps (rowsL s.x))
    have h2 := rowsP_most (rowsL s.x) 7 ps (fun r hr => by have := goW_guards 7 0 way0 r hr; simpa [way0] using this)
    have h3 : (rowsL s.x).length ≤ 128 := goW_128 (by omega)
    have h4 : (rowsL s.x).length * 7 ≤ 128 * 7 := Nat.mul_le_mul_right _ h3
    have e : actsP ps (s :: ss) = actsP (rowsP ps (rowsL s.x)) ss := rfl
    rw [e, List.length_cons]
    omega
theorem catP_le {ss : List L2V} (h : ss.length ≤ 4) : (catP ss).length ≤ 600000 := by
  have h1 := actsP_most ss pots3
  have h2 : pots3.length = 3 := rfl
  show (actsP pots3 ss).length ≤ 600000
  omega

end Go.Proofs.Ytemcinobgdphnaa
namespace Go.Proofs.Ytemcinobgdphnaa
open Go.RowKit Go.Deep
set_option linter.unusedVariables false
set_option maxRecDepth 100000

def zeroB (C D : List Int) (K : Int) : Bool := allB 0 C && allB 0 D && (K == 0)
theorem not_true_of {b : Bool} (h : b = false) : ¬ b = true := fun e => by rw [h] at e; cases e
def zeroF (f : Frm) : Bool := zeroB f.1 f.2.1 f.2.2
theorem allB0 (zs : List Int) : allB 0 zs = decide (zs = List.replicate zs.length 0) := by
  induction zs with
  | nil => rfl
  | cons x xs ih =>
    simp only [allB, List.all_cons, List.length_cons, List.replicate_succ] at *
    rw [ih]
    by_cases hx : x = 0
    · subst hx; simp [inB]
    · have : inB x (-0) 0 = false := inB_not.2 (by omega)
      rw [this]; simp [hx]
theorem eqB0 {zs ys : List Int} (h : ys = List.replicate zs.length 0) : eqB zs ys = allB 0 zs := by rw [allB0, eqB, h]

end Go.Proofs.Ytemcinobgdphnaa
namespace Go.Proofs.Ytemcinobgdphnaa
open Go.RowKit Go.Deep
set_option linter.unusedVariables false
set_option maxRecDepth 100000

/-- A way may turn a pot. -/
def wrF (r : RowM) (v : Nat) : Bool := decide (v < r.adds.length) && !zeroF (r.adds[v]?.getD ([], [], 0))
def writesR (rs : List RowM) (v : Nat) : Bool := rs.any fun r => wrF r v
theorem writesR_snoc (rs : List RowM) (k : Nat) (hk : k < rs.length) (v : Nat) : writesR (rs.take (k + 1)) v = (writesR (rs.take k) v || wrF (rs[k]?.getD noR) v) := by
  rw [writesR, List.take_succ_eq_append_getElem hk, List.any_append, List.getElem?_eq_getElem hk]
  simp [writesR]
/-- Rows in memory that was made since; what is older may change. -/
structure JRo (n0 G cap : Nat) (xs : List Value) (rs : List RowM) (W : World) : Prop where
  o : W.ownsRow n0 25 4 (.slice (some ⟨G, 0, none⟩) rs.length cap) rs.length xs
  r : RowsOk W (fun k => k < n0 ∨ k = G) xs rs
theorem JR.old {w W : World} {G cap : Nat} {xs : List Value} {rs : List RowM} (j : JR w G cap xs rs W) : JRo w.heap.size G cap xs rs W := ⟨j.o, j.r⟩
theorem JRo.lt {n0 : Nat} {W : World} {G cap : Nat} {xs : List Value} {rs : List RowM} (j : JRo n0 G cap xs rs W) : n0 ≤ G ∧ G < W.heap.size := by
  rcases j.o.2 with ⟨h, _⟩ | ⟨g, cap', cur, h, hg, hh, _⟩
  · cases h
  · simp only [Value.slice.injEq, Option.some.injEq, Addr.mk.injEq, and_true, true_and] at h
    obtain ⟨rfl, _⟩ := h
    exact ⟨hg, lt_of_block hh⟩
theorem JRo.touch {S : Nat → Prop} {n0 : Nat} {W W' : World} {G cap : Nat} {xs : List Value} {rs : List RowM} (j : JRo n0 G cap xs rs W) (t : Touch S W W') (hS : ∀ k, S k → k < n0) : JRo n0 G cap xs rs W' :=
  ⟨own_off j.o (fun g hg hs => by
    have h1 := hS _ hs
    have h2 := j.lt
    have : some G = some g := hg
    simp only [Option.some.injEq] at this
    omega) t, j.r.map (fun _ _ f => f.touch (t.mono (fun k hk => Or.inl (hS k hk))))⟩
theorem JRo.below {n0 : Nat} {W W' : World} {G cap : Nat} {xs : List Value} {rs : List RowM} (j : JRo n0 G cap xs rs W) (b : Below W.heap.size W W') : JRo n0 G cap xs rs W' := j.touch (S := fun _ => False) (Touch.of b) (fun _ h => h.elim)

end Go.Proofs.Ytemcinobgdphnaa
namespace Go.Proofs.Ytemcinobgdphnaa
open Go.RowKit
set_option linter.unusedVariables false

section
variable {F : Fence} {n : Nat} {P : Program} {ops : Array Oper} {Q : Exit → Act → World → Prop} {md : Region.Mode} {S : World → Prop}

/-- Nothing is put off in a region. -/
def noDefer (ops : Array Oper) : Bool := ops.toList.all fun o => match o.op with
  | .defer _ => false
  | _ => true
theorem noDefer_spec (h : noDefer ops = true) {i : Nat} {o : Oper} (hi : ops[i]? = some o) : ∀ c, o.op ≠ .defer c := fun c e => by
  have hm : o ∈ ops.toList := by
    rw [Array.mem_toList_iff]
    exact Array.mem_of_getElem? hi
  have := List.all_eq_true.1 h o hm
  simp [e] at this
theorem wpIn_round {o : Oper} (hd : ∀ c, o.op ≠ .defer c) (hro : F.round = none) (l : Nat) {a : Act} {w : World} {K : Act → World → Prop} (h : o.wpIn F n P a w K Q) : o.wpIn (F.inRound l) n P a w K Q := by
  unfold Oper.wpIn at *
  refine ⟨h.1, ?_⟩
  have h2 := h.2
  rw [hro, Oper.semAt_none] at h2
  rw [Fence.inRound_round, Oper.semAt_some l _ _ hd]
  exact h2
theorem wpOpIn_round (hd : noDefer ops = true) (hro : F.round = none) (l : Nat) {i : Nat} {a : Act} {w : World} {K : Act → World → Prop} (h : wpOpIn F n P ops Q i K a w) : wpOpIn (F.inRound l) n P ops Q i K a w := by
  unfold wpOpIn at *
  cases hi : ops[i]? with
  | none => simp only [hi] at h ⊢; exact h
  | some o =>
    simp only [hi] at h ⊢
    split
    · rename_i hw
      simp only [hw, if_true] at h
      exact wpIn_round (noDefer_spec hd hi) hro l h
    · rename_i hw
      simp only [hw] at h
      exact h
theorem wpAnyIn_round (hd : noDefer ops = true) (hro : F.round = none) (l : Nat) : ∀ (fuel : Nat) (listed : Array Bool) (a : Act) (w : World), wpAnyIn F n P md ops Q fuel listed a w → wpAnyIn (F.inRound l) n P md ops Q fuel listed a w
  | 0, _, _, _, h => h
  | fuel + 1, _, _, _, h => ⟨h.1, fun i hi => wpOpIn_mono (fun a' w' h' => wpAnyIn_round hd hro l fuel _ a' w' h') (wpOpIn_round hd hro l (h.2 i hi))⟩
theorem wpIn_region_R {id : Nat} {a : Act} {w : World} (S : World → Prop) (l : Nat) (hm : P.follows .mixedOrders = true) (hd : noDefer ops = true)
    (h : wpAnyS Fence.wide n P .any ops Q S ops.size (Array.replicate ops.size false) a w.drew) : (Code.region id ops true).wpIn (Fence.wide.inRound l) n P Q a w :=
  wpIn_region_any hm (wpAnyIn_round hd rfl l _ _ _ _ (wpAnyIn_of_S _ _ _ _ h))

end
end Go.Proofs.Ytemcinobgdphnaa
namespace Go.Proofs.Ytemcinobgdphnaa
open Go.RowKit Go.Deep Go.Shelf
set_option linter.unusedVariables false
set_option maxRecDepth 100000
attribute [local go_sem] Oper.semAt_some

end Go.Proofs.Ytemcinobgdphnaa
namespace Go.Proofs.Ytemcinobgdphnaa
open Go.RowKit
set_option linter.unusedVariables false
set_option maxRecDepth 100000

theorem dot_zeros {xs : List Int} (h : ∀ i : Nat, xs[i]?.getD 0 = 0) (V : List Int) : ∀ k, dot xs V k = 0
  | 0 => rfl
  | k + 1 => by simp only [dot, dot_zeros h V k, h k]; omega
theorem allB0_get {xs : List Int} (h : allB 0 xs = true) (i : Nat) : xs[i]?.getD 0 = 0 := by
  rw [allB0] at h
  have h' := of_decide_eq_true h
  rw [h']
  by_cases hi : i < xs.length
  · rw [List.getElem?_replicate, if_pos hi]; rfl
  · rw [List.getElem?_replicate, if_neg hi]; rfl
theorem atX_zero {V U : List Int} {f : Frm} (h : zeroF f = true) : atX V U f = 0 := by
  unfold zeroF zeroB at h
  simp only [Bool.and_eq_true, beq_iff_eq] at h
  unfold atX atV
  rw [dot_zeros (allB0_get h.1.1), dot_zeros (allB0_get h.1.2), h.2]
  rfl
theorem wr_stays {V U : List Int} {r : RowM} {v : Nat} (h : wrF r v = false) : atX V U (r.adds[v]?.getD noX) = 0 := by
  unfold wrF at h
  by_cases hv : v < r.adds.length
  · rw [decide_eq_true hv, Bool.true_and] at h
    exact atX_zero (by simpa [noX] using h)
  · rw [List.getElem?_eq_none (by omega)]
    simp [noX, atX, atV, dot]
theorem rowEnd_at {V U : List Int} {r : RowM} {v : Nat} (hv : v < 3) : (rowEnd V U r)[v]?.getD 0 = V[v]?.getD 0 + atX V U (r.adds[v]?.getD noX) := by
  match v, hv with
  | 0, _ => rfl
  | 1, _ => rfl
  | 2, _ => rfl
theorem runB_three {N : Nat} {ls : List LV} {p : Nat} {V : List Int} {q : Nat} {U : List Int} (h : runB N ls p V q U = true) : p = 3 ∧ q = 2 ∧ ls.all LV.ok = true ∧ actB N ls = true := by
  unfold runB at h
  simp only [Bool.and_eq_true] at h
  have h1 := (okN_elim (by omega) h.1.2).1
  have h2 := (okN_elim (by omega) h.2).1
  exact ⟨by omega, by omega, (actB_six h.1.1).2, h.1.1⟩
theorem pots_three {N : Nat} {ls : List LV} {p : Nat} {V : List Int} {q : Nat} {U : List Int} (h : runB N ls p V q U = true) (hV : V.length = p) : (runPots N ls p V q U).length = 3 := by
  have h3 := (runB_three h).1
  have hg := (goL_len U ls 7 0 V []).1
  unfold runPots
  rw [if_pos h]
  split
  · omega
  · unfold endPots
    split
    · unfold runL; omega
    · omega
theorem writes_not {N : Nat} {ls : List LV} {p : Nat} {V : List Int} {q : Nat} {U : List Int} {v : Nat} (h : runB N ls p V q U = true) (hV : V.length = p) (hD : ∀ k, k < ls.length → (ls[k]?.getD noLV).f.D.length = (ls[k]?.getD noLV).f.m) (hv : v < 3) (hw : writesR (rowsL ls) v = false) : (runPots N ls p V q U)[v]?.getD 0 = V[v]?.getD 0 := by
  obtain ⟨h3, _, hall, _⟩ := runB_three h
  obtain ⟨r, hr, hf⟩ := runL_way (V := V) (U := U) (by omega) hall hD
  have hm : r ∈ rowsL ls := (List.mem_filter.1 (by rw [hr]; simp)).1
  have hwr : wrF r v = false := by
    unfold writesR at hw
    rw [List.any_eq_false] at hw
    simpa using hw r hm
  unfold runPots
  rw [if_pos h, hf.st]
  cases hs : r.stop
  · simp only [Bool.false_eq_true, if_false]
    rw [(hf.ad hs).1]
    unfold endPots
    split
    · rw [rowEnd_at hv, wr_stays hwr]; omega
    · rfl
  · rfl

/-- Truth values of pots, or none. -/
structure Bo (W : World) (a : Option Addr) (n : Nat) (f : Nat → Bool) : Prop where
  n3 : n ≤ 3
  c : 0 < n → ∃ G, a = some ⟨G, 0, none⟩ ∧ ∀ v, v < 3 → W.cell? ⟨G, v, none⟩ = some (.bool (f v))
theorem Bo.below {W W' : World} {a : Option Addr} {n : Nat} {f : Nat → Bool} (h : Bo W a n f) (b : Below W.heap.size W W') : Bo W' a n f := ⟨h.n3, fun h0 => by
  obtain ⟨G, e, hc⟩ := h.c h0
  exact ⟨G, e, fun v hv => by rw [b.cell (p := ⟨G, v, none⟩) (block_lt (hc v hv))]; exact hc v hv⟩⟩
set_option maxHeartbeats 1600000 in
theorem coB_any (a c : Option Addr) (n cap cap' : Nat) (f : Nat → Bool) (w : World) (h : Bo w a n f) (h' : Bo w c n f) :
    Calls Try.prog 27 #[.slice a n cap, .slice c n cap'] w fun e w' => e = .returned (.bool true) ∧ Below w.heap.size w w' := by
  have hn3 := h.n3
  go_enter Try.func27, Try.ntmps27
  go_wp2_with fail
  go_loopw [5] (fun i wr => ∃ k : Nat, k ≤ n ∧ i = .int .i64 k ∧ Below w.heap.size w wr) (fun i _ => n - (intOf i).toNat)
  case atStart => exact ⟨0, Nat.zero_le _, rfl, Below.refl _ _⟩
  case round =>
    obtain ⟨k, hk, rfl, hnx⟩ := hrel
    by_cases hlt : k < n
    · obtain ⟨G, rfl, hc⟩ := (h.below hnx).c (by omega)
      obtain ⟨G', rfl, hc'⟩ := (h'.below hnx).c (by omega)
      have hck := hc k (by omega)
      have hck' := hc' k (by omega)
      have hlt' : (k : Int) < (n : Int) := by omega
      clear hc hc' h h'
      generalize f k = x at hck hck'
      have hx : (x != x) = false := by cases x <;> rfl
      go_wp2_with fail
      go_quiet (fail)
      go_wp2
      go_roundw
      case rel => exact ⟨k + 1, by omega, by go_num, below_drewN hnx _⟩
      case measure => simp [intOf]; omega
    · have hlt' : ¬ (k : Int) < (n : Int) := by omega
      go_wp2
      go_ret
      exact ⟨rfl, hnx⟩
theorem OwnBB.bo {W : World} {G : Nat} {f : Nat → Bool} (h : OwnBB W G f) : Bo W (some ⟨G, 0, none⟩) 3 f := ⟨Nat.le_refl _, fun _ => ⟨G, rfl, fun v hv => (h.at hv).1⟩⟩
theorem Bo.none (W : World) (a : Option Addr) (f : Nat → Bool) : Bo W a 0 f := ⟨by omega, fun h => by omega⟩
def mulN (b : Bool) : Nat := if b then 3 else 0
/-- Both answers of CatWrites, said alike. -/
def BoM (w w' : World) (e : Ending) (t : Bool) (f : Nat → Bool) : Prop := ∃ a n c, e = .returned (.slice a n c) ∧ n = mulN t ∧ Bo w' a n f ∧ Below w.heap.size w w'

end Go.Proofs.Ytemcinobgdphnaa
namespace Go.Proofs.Ytemcinobgdphnaa
open Go.RowKit
set_option linter.unusedVariables false
set_option maxRecDepth 100000

theorem tests_drop_le {ls : List LV} {i j : Nat} (h : i ≤ j) : tests (ls.drop j) ≤ tests (ls.drop i) := by
  have e : ls.drop j = (ls.drop i).drop (j - i) := by rw [List.drop_drop]; congr 1; omega
  rw [e]
  unfold tests
  exact (List.drop_sublist _ _).countP_le
theorem tests_drop_at {ls : List LV} {i : Nat} (h : i < ls.length) : tests (ls.drop i) = (if (ls[i]?.getD noLV).kind = 1 then 1 else 0) + tests (ls.drop (i + 1)) := by
  rw [List.drop_eq_getElem_cons h, List.getElem?_eq_getElem h, Option.getD_some]
  unfold tests
  rw [List.countP_cons]
  by_cases hk : ls[i].kind = 1
  · simp [LV.tst, hk]; omega
  · simp [LV.tst, hk]
/-- From a line on. -/
structure Few (ls : List LV) (i : Nat) (y : Way) (rs : List RowM) : Prop where
  ne : 1 ≤ rs.length
  n : rs.length ≤ 2 ^ tests (ls.drop i)
  g : ∀ r ∈ rs, r.guards.length ≤ y.guards.length + tests (ls.drop i)
  t : ∀ r ∈ rs, r.tells.length ≤ y.tells.length + (ls.length - i)
theorem few_one {ls : List LV} {i : Nat} {y : Way} {r : RowM} (h1 : r.guards.length = y.guards.length) (h2 : r.tells.length ≤ y.tells.length) : Few ls i y [r] :=
  ⟨Nat.le_refl _, Nat.one_le_two_pow, fun x hx => by simp at hx; subst hx; omega, fun x hx => by simp at hx; subst hx; omega⟩
theorem goW_few (ls : List LV) : ∀ (f i : Nat) (y : Way), Few ls i y (goW ls f i y)
  | 0, i, y => few_one rfl (Nat.le_refl _)
  | f + 1, i, y => by
    by_cases hi : i < ls.length
    · have ht := tests_drop_at hi
      rw [goW, if_pos hi]
      generalize ls[i]?.getD noLV = l at *
      by_cases k1 : l.kind = 1
      · rw [if_pos k1]
        rw [if_pos k1] at ht
        have A := goW_few ls f (i + 1) (y.guard (intoX l.f y.pots))
        have B := goW_few ls f (i + 1 + l.skip.toNat) (y.guard (minusX (intoX l.f y.pots)))
        have hm : tests (ls.drop (i + 1 + l.skip.toNat)) ≤ tests (ls.drop (i + 1)) := tests_drop_le (by omega)
        have hg : ∀ f, (y.guard f).guards.length = y.guards.length + 1 := fun f => by simp [Way.guard]
        have ht' : ∀ f, (y.guard f).tells.length = y.tells.length := fun f => rfl
        have hp : 2 ^ tests (ls.drop (i + 1 + l.skip.toNat)) ≤ 2 ^ tests (ls.drop (i + 1)) := Nat.pow_le_pow_right (by omega) hm
        have hq : 2 ^ tests (ls.drop i) = 2 * 2 ^ tests (ls.drop (i + 1)) := by rw [ht, Nat.pow_add]
        have An := A.n
        have Bn := B.n
        have A1 := A.ne
        refine ⟨by rw [List.length_append]; omega, by rw [List.length_append, hq]; omega, fun r hr => ?_, fun r hr => ?_⟩
        · rcases List.mem_append.1 hr with hr | hr
          · have := A.g r hr; rw [hg] at this; omega
          · have := B.g r hr; rw [hg] at this; omega
        · rcases List.mem_append.1 hr with hr | hr
          · have := A.t r hr; rw [ht'] at this; omega
          · have := B.t r hr; rw [ht'] at this; omega
      · rw [if_neg k1]
        rw [if_neg k1, Nat.zero_add] at ht
        by_cases k2 : l.kind = 2
        · rw [if_pos k2]
          have A := goW_few ls f (i + 1) (y.add l.pot.toNat (intoX l.f y.pots))
          exact ⟨A.ne, by rw [ht]; exact A.n, fun r hr => by rw [ht]; exact A.g r hr, fun r hr => by have := A.t r hr; simp only [Way.add] at this; omega⟩
        · rw [if_neg k2]
          by_cases k3 : l.kind = 3
          · rw [if_pos k3]
            have A := goW_few ls f (i + 1) (y.tell (intoX l.f y.pots))
            exact ⟨A.ne, by rw [ht]; exact A.n, fun r hr => by rw [ht]; exact A.g r hr, fun r hr => by have := A.t r hr; simp only [Way.tell, List.length_append, List.length_cons, List.length_nil] at this; omega⟩
          · rw [if_neg k3]
            exact few_one rfl (by simp [stopW])
    · rw [goW_end (by omega)]
      exact few_one rfl (Nat.le_refl _)
theorem rowsL_few {N : Nat} {ls : List LV} (hN : ls.length = N) (h : actB N ls = true) : 1 ≤ (rowsL ls).length ∧ (rowsL ls).length ≤ 2 ^ tests ls ∧ tests ls ≤ 3 ∧ (∀ r ∈ rowsL ls, r.guards.length ≤ 3 ∧ r.tells.length ≤ 6) := by
  have hA := h
  simp only [actB, Bool.and_eq_true, decide_eq_true_eq] at hA
  have F := goW_few ls 7 0 way0
  have h3 : tests ls ≤ 3 := by omega
  refine ⟨F.ne, F.n, h3, fun r hr => ⟨?_, ?_⟩⟩
  · have := F.g r hr
    rw [List.drop_zero] at this
    simp only [way0, List.length_nil] at this
    omega
  · have := F.t r hr
    simp only [way0, List.length_nil] at this
    omega
/-- A row that stops has neither adds nor tells; another has three adds. -/
theorem goW_sh (ls : List LV) : ∀ (f i : Nat) (y : Way), ∀ r ∈ goW ls f i y, (r.stop = true → r.adds.length = 0 ∧ r.tells.length = 0) ∧ (r.stop = false → r.adds.length = 3)
  | 0, i, y, r, hr => by simp only [goW, List.mem_singleton] at hr; subst hr; exact ⟨fun h => absurd h (by simp [endW]), fun _ => by simp [endW]⟩
  | f + 1, i, y, r, hr => by
    rw [goW] at hr
    split at hr
    · split at hr
      · rcases List.mem_append.1 hr with hr | hr
        · exact goW_sh ls f _ _ r hr
        · exact goW_sh ls f _ _ r hr
      · split at hr
        · exact goW_sh ls f _ _ r hr
        · split at hr
          · exact goW_sh ls f _ _ r hr
          · simp only [List.mem_singleton] at hr; subst hr; exact ⟨fun _ => ⟨rfl, rfl⟩, fun h => by cases h⟩
    · simp only [List.mem_singleton] at hr; subst hr; exact ⟨fun h => absurd h (by simp [endW]), fun _ => by simp [endW]⟩

theorem bnd_allB {m : Int} {zs : List Int} (h : bnd m zs) : allB m zs = true := by
  simp only [allB, List.all_eq_true]
  intro x hx
  obtain ⟨i, hi, rfl⟩ := List.getElem_of_mem hx
  have := h i
  rw [List.getElem?_eq_getElem hi] at this
  exact inB_iff.2 ⟨by simpa using this.1, by simpa using this.2⟩
theorem fitX_formB {f : Frm} (h : fitX 10000000 f) : formB 3 2 f.1 f.2.1 f.2.2 = true := by
  obtain ⟨_, _, h3, h4, h5, h6⟩ := h
  simp only [formB, okN, Bool.and_eq_true, bnd_allB h3, bnd_allB h4, and_true, decide_eq_true_eq]
  exact ⟨⟨rfl, rfl⟩, inB_iff.2 ⟨h5, h6⟩⟩
/-- Forms that lie in memory, as values. -/
theorem FormsAt.toG {w : World} {a : Option Addr} {fs : List Frm} (h : FormsAt w a fs) (hfit : ∀ k, k < fs.length → fitX 10000000 (fs[k]?.getD ([], [], 0))) : ∃ gs : List FV, gs.map FV.frm = fs ∧ gs.length = fs.length ∧ FormsG w a gs ∧ gs.all FV.ok = true := by
  have H : ∀ n, n ≤ fs.length → ∃ gs : List FV, gs.map FV.frm = fs.take n ∧ FormsG w a gs ∧ gs.all FV.ok = true := by
    intro n
    induction n with
    | zero => exact fun _ => ⟨[], by simp, fun i hi => by simp at hi, rfl⟩
    | succ n ih =>
      intro hn
      obtain ⟨gs, e, hG, hk⟩ := ih (by omega)
      have hl : gs.length = n := by have := congrArg List.length e; simpa [List.length_take, Nat.min_eq_left (by omega : n ≤ fs.length)] using this
      obtain ⟨b, off, rfl, a1, c1, x1, y1, p0, p1, p2, i1, j1⟩ := h n (by omega)
      have hf := hfit n (by omega)
      have en : fs.take (n + 1) = fs.take n ++ [fs[n]?.getD ([], [], 0)] := by
        rw [List.take_succ_eq_append_getElem (by omega), List.getElem?_eq_getElem (by omega)]; rfl
      generalize fs[n]?.getD ([], [], 0) = f at *
      refine ⟨gs ++ [⟨a1, 3, x1, c1, 2, y1, f.2.2, f.1, f.2.1⟩], ?_, ?_, ?_⟩
      · rw [en, List.map_append, e]; rfl
      · intro i hi
        rw [List.length_append] at hi
        by_cases hin : i < gs.length
        · have := hG i hin
          rw [List.getElem?_append_left hin]
          exact this
        · obtain rfl : i = gs.length := by simp at hi; omega
          rw [List.getElem?_append_right (by omega), Nat.sub_self, hl]
          exact ⟨b, off, rfl, p0, p1, p2, i1, j1, by show 3 ≤ 1048576; omega, by show 2 ≤ 1048576; omega⟩
      · rw [List.all_append, hk, Bool.true_and]
        show (formB 3 2 f.1 f.2.1 f.2.2 && true) = true
        rw [Bool.and_true]
        exact fitX_formB hf
  obtain ⟨gs, e, hG, hk⟩ := H fs.length (Nat.le_refl _)
  rw [List.take_length] at e
  exact ⟨gs, e, by rw [← e, List.length_map], hG, hk⟩

/-- A row that lies in memory, as values; it is ok. -/
theorem row_rowAt {w : World} {ga aa ta : Option Addr} {r : RowM} (hf : RowFit r) (hs : (r.stop = true → r.adds.length = 0 ∧ r.tells.length = 0) ∧ (r.stop = false → r.adds.length = 3)) (f0 : FormsAt w ga r.guards) (f1 : FormsAt w aa r.adds) (f2 : FormsAt w ta r.tells) :
    ∃ gs ls ts, RowAt w ga r.guards.length gs aa r.adds.length ls ta r.tells.length ts ∧ rowB gs ls ts r.adds.length r.tells.length r.stop = true ∧ gs.map FV.frm = r.guards ∧ ls.map FV.frm = r.adds ∧ ts.map FV.frm = r.tells := by
  obtain ⟨gs, e0, l0, G0, k0⟩ := f0.toG hf.g
  obtain ⟨ls, e1, l1, G1, k1⟩ := f1.toG hf.a
  obtain ⟨ts, e2, l2, G2, k2⟩ := f2.toG hf.t
  have z0 := hf.lg
  have z1 := hf.la
  have z2 := hf.lt
  refine ⟨gs, ls, ts, ⟨G0, G1, G2, l0, l1, l2, by omega, by omega, by omega⟩, ?_, e0, e1, e2⟩
  simp only [rowB, k0, k1, k2, Bool.true_and]
  cases h : r.stop
  · rw [hs.2 h]; rfl
  · rw [(hs.1 h).1, (hs.1 h).2]; rfl

end Go.Proofs.Ytemcinobgdphnaa
