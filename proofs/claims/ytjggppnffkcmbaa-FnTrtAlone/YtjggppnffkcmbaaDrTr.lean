/-
  Treaties that are drawn: two lists in new memory, of at most four and three numbers.
-/
import Derived.Test.YtjggppnffkcmbaaDrL
import Derived.Test.YtjggppnffkcmbaaTrt
import Derived.Test.YtjggppnffkcmbaaOwn0
import Derived.Deep.AppendLies
namespace Go.Proofs.Ytjggppnffkcmbaa
open Go.RowKit
set_option linter.unusedVariables false
set_option maxRecDepth 100000

/-- A treaty that is being drawn: its box, what it gives so far. -/
structure JT (wL : World) (R TB : Nat) (a : Option Addr) (n cap : Nat) (bs : List Int) (q : Int) (bv v' v : Value) (G : List Int) (W : World) : Prop where
  t : Touch (fun x => x = R ∨ x = TB) wL W
  r : Rd W R a n cap bs q
  o : W.ownsRow wL.heap.size 3 1 v G.length (G.map (Value.int .i64))
  cb : Cel W TB [bv, v'] 45
  lR : R < wL.heap.size
  lT : TB < wL.heap.size
  ne : TB ≠ R
  lb : 0 < n → ∀ b o, a = some ⟨b, o, none⟩ → b < wL.heap.size ∧ b ≠ TB
  gB : bnd 51 G
section
variable {wL W W' : World} {R TB : Nat} {a : Option Addr} {n cap : Nat} {bs : List Int} {q : Int} {bv v' v : Value} {G : List Int}
theorem own_belowD {base : Nat} {e : TypeId} {s : Nat} {m : Nat} {xs : List Value} (h : W.ownsRow base e s v m xs) (b : Below W.heap.size W W') : W'.ownsRow base e s v m xs := by
  obtain ⟨h1, h2⟩ := h
  refine ⟨h1, ?_⟩
  rcases h2 with h2 | ⟨g, cap, cur, hv, hg, hh, r⟩
  · exact Or.inl h2
  · exact Or.inr ⟨g, cap, cur, hv, hg, by rw [b.block g (lt_of_block hh)]; exact hh, r⟩
theorem JT.below (j : JT wL R TB a n cap bs q bv v' v G W) (b : Below W.heap.size W W') : JT wL R TB a n cap bs q bv v' v G W' :=
  ⟨j.t.trans (Touch.of b), j.r.below b, own_belowD j.o b, j.cb.below b, j.lR, j.lT, j.ne, j.lb, j.gB⟩
theorem JT.pick {q' : Int} (j : JT wL R TB a n cap bs q bv v' v G W) (t : Touch (fun x => x = R) W W') (r : Rd W' R a n cap bs q') : JT wL R TB a n cap bs q' bv v' v G W' :=
  ⟨j.t.trans (t.mono (fun k h => Or.inl h)), r, ownsRow_touch j.o t (fun k h => by have := j.lR; omega), j.cb.touch t j.ne, j.lR, j.lT, j.ne, j.lb, j.gB⟩
theorem bnd.app {M y : Int} {zs : List Int} (h : bnd M zs) (h1 : -M ≤ y) (h2 : y ≤ M) (h0 : 0 ≤ M) : bnd M (zs ++ [y]) := by
  intro i
  by_cases hi : i < zs.length
  · rw [List.getElem?_append_left hi]; exact h i
  · by_cases he : i = zs.length
    · subst he; simp; omega
    · rw [List.getElem?_eq_none (by rw [List.length_append]; simp; omega)]; simp; omega
theorem JT.app {y : Int} {g c k : Nat} (j : JT wL R TB a n cap bs q bv v' v G W) (hk : G.length = k) (y1 : -51 ≤ y) (y2 : y ≤ 51) (hown : W'.ownsRow wL.heap.size 3 1 (.slice (some ⟨g, 0, none⟩) (k + 1) c) (k + 1) (G.map (Value.int .i64) ++ [.int .i64 y])) (hg : W.grownBy W' v.ownBlock) : JT wL R TB a n cap bs q bv v' (.slice (some ⟨g, 0, none⟩) (k + 1) c) (G ++ [y]) W' := by
  have hr : ∀ x, v.ownBlock = some x → wL.heap.size ≤ x := fun x hx => (j.o.lt x hx).1
  have lR := j.lR
  have lT := j.lT
  have T : Touch (fun x => wL.heap.size ≤ x) W W' := ⟨hg.os, hg.tape, hg.output, hg.size, fun x hx hs => hg.block x hx (fun e => hs (hr x e.symm))⟩
  refine ⟨j.t.grown hg hr, j.r.touch T (by omega) (fun h0 b o hab => by have := (j.lb h0 b o hab).1; omega), ?_, j.cb.touch T (by omega), j.lR, j.lT, j.ne, j.lb, j.gB.app y1 y2 (by omega)⟩
  rw [List.length_append, hk, List.map_append]
  exact hown
theorem JT.store (j : JT wL R TB a n cap bs q bv v' v G W) : JT wL R TB a n cap bs q bv v v G (W.setCell ⟨TB, 1, none⟩ v) := by
  have lT := j.lT
  have T : Touch (fun x => x = TB) W (W.setCell ⟨TB, 1, none⟩ v) := Touch.setCell (S := fun x => x = TB) (Touch.refl _ _) rfl _
  exact ⟨j.t.trans (T.mono (fun k h => Or.inr h)), j.r.touch T (fun e => j.ne e.symm) (fun h0 b o e h => (j.lb h0 b o e).2 h), ownsRow_touch j.o T (fun k h => by omega), j.cb.set 1 v, j.lR, j.lT, j.ne, j.lb, j.gB⟩
theorem JT.ints (j : JT wL R TB a n cap bs q bv v' v G W) (h0 : 0 < G.length) : ∃ g c, v = .slice (some ⟨g, 0, none⟩) G.length c ∧ wL.heap.size ≤ g ∧ OwnX W (some ⟨g, 0, none⟩) g G.length G ∧ (∀ i, W.frozen? ⟨g, i, none⟩ = false) ∧ g < W.heap.size := by
  rcases j.o.2 with ⟨_, h⟩ | ⟨g, cap', cur, rfl, hg, hh, hl, _, _⟩
  · omega
  · have hC : Cel W g cur.toList 3 := by unfold Cel; simpa using hh
    refine ⟨g, cap', rfl, hg, ⟨rfl, .inr ⟨rfl, cur.toList, hC, fun i hi => ?_⟩⟩, fun i => j.o.frozenAt i, lt_of_block hh⟩
    have := j.o.cellAt i (by omega)
    rw [← hC.cell i, this]
    simp [hi]
end
/-- A treaty was drawn: its lists lie in new memory, the reader has gone on. -/
structure TrN (w w' : World) (R : Nat) (a : Option Addr) (n cap : Nat) (bs : List Int) (p q : Int) (ba : Option Addr) (bn : Nat) (B : List Int) (ga : Option Addr) (gn : Nat) (G : List Int) : Prop where
  t : Touch (fun x => x = R) w w'
  r : Rd w' R a n cap bs q
  b : Ints w' ba bn B
  g : Ints w' ga gn G
  b4 : bn ≤ 4
  g3 : gn ≤ 3
  lb : ∀ b o, ba = some ⟨b, o, none⟩ → w.heap.size ≤ b
  lg : ∀ b o, ga = some ⟨b, o, none⟩ → w.heap.size ≤ b
  gB : bnd 51 G
  q0 : p ≤ q
  q1 : q ≤ p + 40
  gx : ∃ gb, OwnX w' ga gb gn G ∧ (0 < gn → w.heap.size ≤ gb ∧ ∀ b o, ba = some ⟨b, o, none⟩ → b ≠ gb)
theorem TrN.set {w W : World} {R : Nat} {a : Option Addr} {n cap : Nat} {bs : List Int} {p q : Int} {ba : Option Addr} {bn : Nat} {B : List Int} {ga : Option Addr} {gn : Nat} {G : List Int} (h : TrN w W R a n cap bs p q ba bn B ga gn G) {X : Nat} (hX : w.heap.size ≤ X) (h1 : ∀ b o, ba = some ⟨b, o, none⟩ → b ≠ X) (h2 : ∀ b o, ga = some ⟨b, o, none⟩ → b ≠ X) (hR : R < w.heap.size) (ha : 0 < n → ∀ b o, a = some ⟨b, o, none⟩ → b < w.heap.size) (i : Nat) (v : Value) : TrN w (W.setCell ⟨X, i, none⟩ v) R a n cap bs p q ba bn B ga gn G :=
  ⟨h.t.setNewF hX i v, h.r.setNew (by omega) (fun h0 b o e => by have := ha h0 b o e; omega) i v, h.b.setFar h1 i v, h.g.setFar h2 i v, h.b4, h.g3, h.lb, h.lg, h.gB, h.q0, h.q1, by (obtain ⟨gb, ho, hh⟩ := h.gx; exact ⟨gb, ho.setOther (fun h0 e => h2 gb 0 (ho.pos h0).1 e.symm) i v, hh⟩)⟩
theorem litT_5 (j : Nat) (hj : j < 5) : -51 ≤ ([0, 3, 10, 30, 50] : List Int)[j]?.getD 0 ∧ ([0, 3, 10, 30, 50] : List Int)[j]?.getD 0 ≤ 51 := by
  rcases j with _ | _ | _ | _ | _ | j <;> first | omega | simp
theorem litT_2 (j : Nat) (hj : j < 2) : -51 ≤ ([-1, 51] : List Int)[j]?.getD 0 ∧ ([-1, 51] : List Int)[j]?.getD 0 ≤ 51 := by
  rcases j with _ | _ | j <;> first | omega | simp

set_option maxHeartbeats 12800000 in
theorem treaty_f (R : Nat) (a : Option Addr) (n cap : Nat) (bs : List Int) (p N : Int) (w : World) (hR : Rd w R a n cap bs p) (hp : 0 ≤ p) (hp1 : p ≤ 8000000) (hN : 1 ≤ N) (hN1 : N ≤ 1000) (ha : 0 < n → ∀ b o, a = some ⟨b, o, none⟩ → b < w.heap.size) :
    Calls Try.prog 68 #[.pointer (some ⟨R, 0, none⟩), .int .i64 N] w fun e w' => ∃ ba bn bc ga gn gc B G q, e = .returned (treV ba bn bc ga gn gc) ∧ TrN w w' R a n cap bs p q ba bn B ga gn G := by
  have hRl := hR.c.lt
  have rb := Cel.new w [.slice none 0 0, .slice none 0 0] 45
  have B0 := (Below.refl w.heap.size w).alloc (Nat.le_refl _) (.cells #[.slice none 0 0, .slice none 0 0] 45)
  obtain ⟨i0, hi, hz0, hz1, hz2⟩ := info_parts Try.infoInt
  go_enter Try.func68, Try.ntmps68
  go_wp2_with fail
  refine (vals_gen R a n cap bs p 99 _ (hR.below B0) (by omega) (by omega) (by omega) (by omega) (hR.below B0).ha).mono ?_
  rintro e w1 ⟨ba, bn, bc, B, q1, rfl, d1⟩
  have u0 := d1.q0
  have u1 := d1.q1
  have b4 := d1.h4
  have z3 := d1.t.size
  have lb0 := d1.lo
  rw [World.size_alloc] at z3 lb0
  have al := (Below.refl w1.heap.size w1).alloc (Nat.le_refl _) (.cells #[.slice ba bn bc, .slice none 0 0] 45)
  have rb1 := (rb.touch d1.t (by omega)).below al
  have bI := d1.i.below al
  have r1 := d1.r.below al
  have cb := Cel.new w1 [.slice ba bn bc, .slice none 0 0] 45
  have tw1 := ((Touch.of (S := fun x => x = R) B0).trans d1.t).trans (Touch.of al)
  have lb1 := d1.hi
  obtain ⟨TB, hTB⟩ : ∃ x, x = w1.heap.size := ⟨_, rfl⟩
  obtain ⟨W2, hW2⟩ : ∃ W, W = w1.alloc (.cells #[.slice ba bn bc, .slice none 0 0] 45) := ⟨_, rfl⟩
  have hTB1 : w.heap.size < TB := by omega
  have cbl : TB < W2.heap.size := by rw [hW2, hTB, World.size_alloc]; omega
  rw [← hW2] at rb1 bI r1 cb tw1
  rw [← hTB] at cb lb1
  go_wp2_with fail
  rw [← hW2, ← hTB]
  clear hTB hW2 hR rb B0 d1 al
  refine (pick_any R a n cap bs q1 3 _ r1 (by omega) (by omega) (by omega) (by omega)).mono ?_
  rintro e wL ⟨r, r0, r3, rfl, t3, R3⟩
  obtain ⟨rk, rfl⟩ := Int.eq_ofNat_of_zero_le r0
  have hRT : R < TB := by omega
  have hRt : TB ≠ R := by omega
  have rbL := rb1.touch t3 (by omega)
  have bIL := bI.off t3 (fun b o e hs => by have := lb0 b o e; omega)
  have cbL := cb.touch t3 hRt
  have tw := tw1.trans t3
  have wLs := t3.size
  have jL : JT wL R TB a n cap bs (q1 + 1) (.slice ba bn bc) (.slice none 0 0) (.slice none 0 0) [] wL :=
    ⟨Touch.refl _ _, R3, World.ownsRow_nil _ _ _ _, cbL, by omega, by omega, hRt, fun h0 b o e => by have := ha h0 b o e; exact ⟨by omega, by omega⟩, fun i => by simp⟩
  have hb := bIL
  have lb' : ∀ b o, ba = some ⟨b, o, none⟩ → w.heap.size ≤ b ∧ b ≠ R := fun b o e => by have := lb0 b o e; exact ⟨by omega, by omega⟩
  have lbn : ∀ b o, ba = some ⟨b, o, none⟩ → w.heap.size < b := fun b o e => by have := lb0 b o e; omega
  clear rb1 bI r1 cb tw1 t3 R3 cbL bIL r0
  have HBX : ∀ b o, ba = some ⟨b, o, none⟩ → b ≠ TB := fun b o e => by have := lb1 b o e; omega
  have lbu : ∀ b o, ba = some ⟨b, o, none⟩ → b < TB := lb1
  clear lb1
  go_wp2_with fail
  go_loopw [6] (fun i wr => ∃ (k l : Nat) (v : Value) (G : List Int) (q : Int) (z : Nat), k + l = rk + 1 ∧ z = 0 ∧ i = .int .i64 l ∧ G.length = k ∧ JT wL R TB a n cap bs q (.slice ba bn bc) v v G wr ∧ q1 + 1 ≤ q ∧ q ≤ q1 + 1 + k) (fun i _ => (intOf i).toNat)
  case atStart => exact ⟨0, rk + 1, _, [], q1 + 1, 0, by omega, rfl, by go_num, rfl, jL, by omega, by omega⟩
  case round =>
    clear jL
    obtain ⟨k, l, v, G, q, _, hkl, _, rfl, hG, j, hq0, hq1⟩ := hrel
    have HG : Hid (G.length = k) := hG
    clear hG
    by_cases hl : 0 < l
    · have hl' : (0 : Int) < (l : Int) := by omega
      go_upto_region 5 with fail
      refine wp_region_ends (fun _ => True) (fun X => X.cell? ⟨TB, 1, none⟩ = some v) 9 (by kernel_rfl) ?_
      have sd := j.below ((Below.refl _ _).drew)
      obtain ⟨V0, hV0⟩ : ∃ V, V = wr.drew := ⟨_, rfl⟩
      rw [← hV0] at sd ⊢
      clear hV0 j
      have hSS : True ∧ (fun X : World => X.cell? ⟨TB, 1, none⟩ = some v) V0 := ⟨trivial, sd.cb.cell 1⟩
      refine tkL (i := 0) rfl hSS ?_
      refine tkM (i := 1) rfl rfl hSS ?_
      refine tkL (i := 3) rfl hSS ?_
      clear hSS
      refine wpAnyE_two (i := 2) (j := 4) (by kernel_rfl) rfl rfl (fun Kn hK => ?_) (fun Kn hK => ?_)
      · go_simp
        have al := (Below.refl V0.heap.size V0).alloc (Nat.le_refl _) (.cells #[.int .i64 0, .int .i64 3, .int .i64 10, .int .i64 30, .int .i64 50] 3)
        have lb := Cel.new V0 [.int .i64 0, .int .i64 3, .int .i64 10, .int .i64 30, .int .i64 50] 3
        have nl : V0.heap.size ≠ R := by have h1 := sd.lR; have h2 := sd.t.size; omega
        have sa := sd.below al
        clear al
        refine hK.out _ _ ⟨trivial, fun _ => sa.cb.cell 1⟩ ?_
        clear hK
        refine wpAnyE_one (i := 4) (by kernel_rfl) rfl (fun Kn hK => ?_)
        go_simp
        refine (pick_any R a n cap bs _ 5 _ sa.r (by omega) (by omega) (by omega) (by omega)).mono ?_
        rintro e w5 ⟨rj, r0, r1, rfl, t5, R5⟩
        obtain ⟨j, rfl⟩ := Int.eq_ofNat_of_zero_le r0
        have hj : j < 5 := by omega
        have hj' : (j : Int) < 5 := by omega
        clear r0 r1
        have sb := sa.pick t5 R5
        replace lb := lb.touch t5 nl
        clear t5 R5 sa sd
        dsimp only
        refine hK.out _ _ ⟨trivial, fun _ => sb.cb.cell 1⟩ ?_
        clear hK
        have hSS : True ∧ (fun X : World => X.cell? ⟨TB, 1, none⟩ = some v) w5 := ⟨trivial, sb.cb.cell 1⟩
        refine tkL (i := 5) rfl hSS ?_
        clear hSS
        have hc := lit_cell (xs := [0, 3, 10, 30, 50]) lb hj
        have hy := litT_5 j hj
        generalize ([0, 3, 10, 30, 50] : List Int)[j]?.getD 0 = y at hc hy
        refine wpAnyE_one (i := 6) (by kernel_rfl) rfl (fun Kn hK => ?_)
        go_simp
        refine hK.out _ _ ⟨trivial, fun _ => sb.cb.cell 1⟩ ?_
        clear hK
        clear hc lb
        obtain ⟨V3, hV3⟩ : ∃ V, V = w5 := ⟨_, rfl⟩
        rw [← hV3] at sb
        rw [← hV3]
        clear hV3
        refine wpAnyE_one (i := 7) (by kernel_rfl) rfl (fun Kn hK => ?_)
        go_simp
        have al := (Below.refl V3.heap.size V3).alloc (Nat.le_refl _) (.cells #[.int .i64 y] 3)
        have s7 := sb.below al
        refine hK.out _ _ ⟨trivial, fun _ => s7.cb.cell 1⟩ ?_
        clear hK
        have hsz := s7.t.size
        clear al
        refine wpAnyE_one (i := 8) (by kernel_rfl) rfl (fun Kn hK => ?_)
        rw [if_pos (by rfl)]
        refine wp_append_lies _ (.tmp 18) (.tmp 24) 26 rfl wL.heap.size 3 i0 _ 1 8 Try.underlying26 hi hz0 hz1 hz2 rfl (by omega) v k (G.map (Value.int .i64)) (by rfl) (by have h := s7.o; rw [HG.out] at h; exact h) ⟨V3.heap.size, 0, none⟩ 1 1 [.int .i64 y] (by rfl) (by rfl) (World.news_of_block (cs := #[.int .i64 y]) (t := 3) (fr := (0, 0)) (heap_alloc_new V3 _)) (by simp [Value.oneCell']) (by omega) (by unfold maxLen; omega) (by omega) hsz (V3.heap.size + 1) (by rw [World.size_alloc]) ?_
        intro g c w8 hown hgrow _ _
        have s8 := s7.app HG.out hy.1 hy.2 hown hgrow
        clear hown hgrow
        refine hK.out _ _ ⟨trivial, fun _ => s8.cb.cell 1⟩ ?_
        clear hK
        refine wpAnyE_one (i := 9) (by kernel_rfl) rfl (fun Kn hK => ?_)
        go_simp
        refine hK.out _ _ ⟨trivial, fun _ => s8.cb.cell 1⟩ ?_
        clear hK
        have f1 := s8.cb.free 1
        have c1 := s8.cb.cell 1
        have lt1 := s8.cb.lt
        simp only [List.getElem?_cons_zero, List.getElem?_cons_succ] at c1
        have s9 := s8.store
        refine wpAnyE_one (i := 10) (by kernel_rfl) rfl (fun Kn hK => ?_)
        go_simp
        refine hK.out _ _ ⟨trivial, fun h => absurd h (by decide)⟩ ?_
        clear hK
        refine wpAnyE_done (by kernel_rfl) ?_ _
        clear f1 c1 s8 s7
        go_wp2
        go_roundw
        case rel => exact ⟨k + 1, l - 1, _, _, _, _, by omega, by omega, by go_num, by show _ = _; rw [List.length_append, HG.out]; rfl, s9, by omega, by omega⟩
        case measure => simp [intOf]; omega
      · go_simp
        refine (pick_any R a n cap bs _ 5 _ sd.r (by omega) (by omega) (by omega) (by omega)).mono ?_
        rintro e w5 ⟨rj, r0, r1, rfl, t5, R5⟩
        obtain ⟨j, rfl⟩ := Int.eq_ofNat_of_zero_le r0
        have hj : j < 5 := by omega
        have hj' : (j : Int) < 5 := by omega
        clear r0 r1
        have sa := sd.pick t5 R5
        clear t5 R5 sd
        dsimp only
        refine hK.out _ _ ⟨trivial, fun _ => sa.cb.cell 1⟩ ?_
        clear hK
        refine wpAnyE_one (i := 2) (by kernel_rfl) rfl (fun Kn hK => ?_)
        go_simp
        have al := (Below.refl w5.heap.size w5).alloc (Nat.le_refl _) (.cells #[.int .i64 0, .int .i64 3, .int .i64 10, .int .i64 30, .int .i64 50] 3)
        have lb := Cel.new w5 [.int .i64 0, .int .i64 3, .int .i64 10, .int .i64 30, .int .i64 50] 3
        have nl : w5.heap.size ≠ R := by have h1 := sa.lR; have h2 := sa.t.size; omega
        have sb := sa.below al
        clear al
        refine hK.out _ _ ⟨trivial, fun _ => sb.cb.cell 1⟩ ?_
        clear hK
        clear sa
        have hSS : True ∧ (fun X : World => X.cell? ⟨TB, 1, none⟩ = some v) (w5.alloc (.cells #[.int .i64 0, .int .i64 3, .int .i64 10, .int .i64 30, .int .i64 50] 3)) := ⟨trivial, sb.cb.cell 1⟩
        refine tkL (i := 5) rfl hSS ?_
        clear hSS
        have hc := lit_cell (xs := [0, 3, 10, 30, 50]) lb hj
        have hy := litT_5 j hj
        generalize ([0, 3, 10, 30, 50] : List Int)[j]?.getD 0 = y at hc hy
        refine wpAnyE_one (i := 6) (by kernel_rfl) rfl (fun Kn hK => ?_)
        go_simp
        refine hK.out _ _ ⟨trivial, fun _ => sb.cb.cell 1⟩ ?_
        clear hK
        clear hc lb
        obtain ⟨V3, hV3⟩ : ∃ V, V = (w5.alloc (.cells #[.int .i64 0, .int .i64 3, .int .i64 10, .int .i64 30, .int .i64 50] 3)) := ⟨_, rfl⟩
        rw [← hV3] at sb
        rw [← hV3]
        clear hV3
        refine wpAnyE_one (i := 7) (by kernel_rfl) rfl (fun Kn hK => ?_)
        go_simp
        have al := (Below.refl V3.heap.size V3).alloc (Nat.le_refl _) (.cells #[.int .i64 y] 3)
        have s7 := sb.below al
        refine hK.out _ _ ⟨trivial, fun _ => s7.cb.cell 1⟩ ?_
        clear hK
        have hsz := s7.t.size
        clear al
        refine wpAnyE_one (i := 8) (by kernel_rfl) rfl (fun Kn hK => ?_)
        rw [if_pos (by rfl)]
        refine wp_append_lies _ (.tmp 18) (.tmp 24) 26 rfl wL.heap.size 3 i0 _ 1 8 Try.underlying26 hi hz0 hz1 hz2 rfl (by omega) v k (G.map (Value.int .i64)) (by rfl) (by have h := s7.o; rw [HG.out] at h; exact h) ⟨V3.heap.size, 0, none⟩ 1 1 [.int .i64 y] (by rfl) (by rfl) (World.news_of_block (cs := #[.int .i64 y]) (t := 3) (fr := (0, 0)) (heap_alloc_new V3 _)) (by simp [Value.oneCell']) (by omega) (by unfold maxLen; omega) (by omega) hsz (V3.heap.size + 1) (by rw [World.size_alloc]) ?_
        intro g c w8 hown hgrow _ _
        have s8 := s7.app HG.out hy.1 hy.2 hown hgrow
        clear hown hgrow
        refine hK.out _ _ ⟨trivial, fun _ => s8.cb.cell 1⟩ ?_
        clear hK
        refine wpAnyE_one (i := 9) (by kernel_rfl) rfl (fun Kn hK => ?_)
        go_simp
        refine hK.out _ _ ⟨trivial, fun _ => s8.cb.cell 1⟩ ?_
        clear hK
        have f1 := s8.cb.free 1
        have c1 := s8.cb.cell 1
        have lt1 := s8.cb.lt
        simp only [List.getElem?_cons_zero, List.getElem?_cons_succ] at c1
        have s9 := s8.store
        refine wpAnyE_one (i := 10) (by kernel_rfl) rfl (fun Kn hK => ?_)
        go_simp
        refine hK.out _ _ ⟨trivial, fun h => absurd h (by decide)⟩ ?_
        clear hK
        refine wpAnyE_done (by kernel_rfl) ?_ _
        clear f1 c1 s8 s7
        go_wp2
        go_roundw
        case rel => exact ⟨k + 1, l - 1, _, _, _, _, by omega, by omega, by go_num, by show _ = _; rw [List.length_append, HG.out]; rfl, s9, by omega, by omega⟩
        case measure => simp [intOf]; omega
    · have hl' : ¬ (0 : Int) < (l : Int) := by omega
      have hl0 : l = 0 := by omega
      have hk1 : 0 < k := by omega
      have hk3 : k ≤ 3 := by omega
      go_wp2_with fail
      refine (pick_any R a n cap bs q N _ j.r (by omega) (by omega) (by omega) (by omega)).mono ?_
      rintro e w6 ⟨u, x0, x1, rfl, t6, R6⟩
      replace j := j.pick t6 R6
      clear t6 R6
      obtain ⟨g, c, rfl, hg, hgI, hgf, hgl⟩ := j.ints (by rw [HG.out]; omega)
      rw [HG.out] at hgI j
      by_cases hu : 0 < u
      · have hbI := hb.off j.t (fun b o e h => h.elim (fun h => (lb' b o e).2 h) (fun h => HBX b o e h))
        have rb9 := rbL.touch j.t (by omega)
        have tw9 : Touch (fun x => x = R) w w6 := ⟨j.t.os.trans tw.os, j.t.tape.trans tw.tape, j.t.output.trans tw.output, Nat.le_trans tw.size j.t.size, fun x hx hs => (j.t.block x (Nat.lt_of_lt_of_le hx tw.size) (by omega)).trans (tw.block x hx hs)⟩
        have hN : TrN w w6 R a n cap bs p _ ba bn _ (some ⟨g, 0, none⟩) k _ := ⟨tw9, j.r, hbI, hgI.ints, by omega, by omega, fun b o e => (lb' b o e).1, fun b o e => by simp only [Option.some.injEq, Addr.mk.injEq] at e; omega, j.gB, by omega, by omega, ⟨_, hgI, fun h0 => ⟨by omega, fun b o e => by have := lbu b o e; omega⟩⟩⟩
        have d0 := j.cb.cell 0
        have d1 := j.cb.cell 1
        have e0 := rb9.cell 0
        have e1 := rb9.cell 1
        have f0 := rb9.free 0
        have f1 := rb9.free 1
        have ll := rb9.lt
        simp only [List.getElem?_cons_zero, List.getElem?_cons_succ] at d0 d1 e0 e1
        go_wp2
        have hZ := (hN.set (X := w.heap.size) (Nat.le_refl _) (fun b o e => by have := hN.lb b o e; have := lbn b o e; omega) (fun b o e => by simp only [Option.some.injEq, Addr.mk.injEq] at e; omega) hRl ha 0 (.slice ba bn bc)).set (X := w.heap.size) (Nat.le_refl _) (fun b o e => by have := lbn b o e; omega) (fun b o e => by simp only [Option.some.injEq, Addr.mk.injEq] at e; omega) hRl ha 1 (.slice (some ⟨g, 0, none⟩) k c)
        refine bodyPost_ret (v := treV ba bn bc (some ⟨g, 0, none⟩) k c) (by simp [results, Try.results68, go_sem, e0, e1]) rfl ⟨ba, bn, bc, (some ⟨g, 0, none⟩), k, c, _, _, _, rfl, hZ⟩
      · obtain rfl : u = 0 := by omega
        clear hgI hgf
        go_wp2_with fail
        refine (pick_any R a n cap bs (q + 1) 3 _ j.r (by omega) (by omega) (by omega) (by omega)).mono ?_
        rintro e w7 ⟨s, y0, y1, rfl, t7, R7⟩
        replace j := j.pick t7 R7
        have z7 := t7.size
        clear t7 R7 x0 x1 hu
        rcases (show s = 0 ∨ s = 1 ∨ s = 2 from by omega) with rfl | rfl | rfl
        · go_wp2_with fail
          refine (vals_gen R a n cap bs (q + 1 + 1) 1 _ j.r (by omega) (by omega) (by omega) (by omega) j.r.ha).mono ?_
          rintro e w8 ⟨ba2, bn2, bc2, B2, q8, rfl, d8⟩
          have v0 := d8.q0
          have v1 := d8.q1
          have b42 := d8.h4
          have hsz := j.t.size
          have lT := j.lT
          replace j := j.pick d8.t d8.r
          have lb2 := d8.lo
          have i8 := d8.i
          clear d8
          obtain ⟨g2, c2, e2, hg2, hI2, hf2, hl2⟩ := j.ints (by rw [HG.out]; omega)
          simp only [Value.slice.injEq, Option.some.injEq, Addr.mk.injEq, and_true] at e2
          obtain ⟨rfl, hkk, rfl⟩ := e2
          clear hkk
          rw [HG.out] at hI2
          have c0 := j.cb.cell 0
          have f0' := j.cb.free 0
          have ltb := j.cb.lt
          simp only [List.getElem?_cons_zero] at c0
          have T9 : Touch (fun x => x = R ∨ x = TB) wL (w8.setCell ⟨TB, 0, none⟩ (.slice ba2 bn2 bc2)) := Touch.setCell (S := fun x => x = R ∨ x = TB) j.t (Or.inr rfl) _
          have r9 := j.r.setNew (B := TB) (fun e => hRt e) (fun h0 b o e => (j.lb h0 b o e).2) 0 (.slice ba2 bn2 bc2)
          have cb9 := j.cb.set 0 (.slice ba2 bn2 bc2)
          have IS9 := hI2.setOther (X := TB) (fun _ e => by omega) 0 (.slice ba2 bn2 bc2)
          have i9 := i8.setFar (B := TB) (fun b o e => by have := lb2 b o e; omega) 0 (.slice ba2 bn2 bc2)
          have gB9 := j.gB
          replace lbn : ∀ b o, ba2 = some ⟨b, o, none⟩ → w.heap.size < b := fun b o e => by have := lb2 b o e; omega
          clear j hI2 hf2 i8 hb lb' HBX
          go_upto_region 14 with fail
          obtain ⟨W9, hW9⟩ : ∃ V, V = w8.setCell ⟨TB, 0, none⟩ (.slice ba2 bn2 bc2) := ⟨_, rfl⟩
          rw [← hW9] at T9 r9 cb9 IS9 i9 ⊢
          clear hW9 c0 f0' ltb
          have rb9 := rbL.touch T9 (by omega)
          have tw9 : Touch (fun x => x = R) w W9 := ⟨T9.os.trans tw.os, T9.tape.trans tw.tape, T9.output.trans tw.output, Nat.le_trans tw.size T9.size, fun x hx hs => (T9.block x (Nat.lt_of_lt_of_le hx tw.size) (by omega)).trans (tw.block x hx hs)⟩
          have hN : TrN w W9 R a n cap bs p _ ba2 bn2 _ (some ⟨g, 0, none⟩) k _ := ⟨tw9, r9, i9, IS9.ints, by omega, by omega, fun b o e => by have := lbn b o e; omega, fun b o e => by simp only [Option.some.injEq, Addr.mk.injEq] at e; omega, gB9, by omega, by omega, ⟨_, IS9, fun h0 => ⟨by omega, fun b o e => by have := lb2 b o e; omega⟩⟩⟩
          have d0 := cb9.cell 0
          have d1 := cb9.cell 1
          have e0 := rb9.cell 0
          have e1 := rb9.cell 1
          have f0 := rb9.free 0
          have f1 := rb9.free 1
          have ll := rb9.lt
          simp only [List.getElem?_cons_zero, List.getElem?_cons_succ] at d0 d1 e0 e1
          go_wp2
          have hZ := (hN.set (X := w.heap.size) (Nat.le_refl _) (fun b o e => by have := hN.lb b o e; have := lbn b o e; omega) (fun b o e => by simp only [Option.some.injEq, Addr.mk.injEq] at e; omega) hRl ha 0 (.slice ba2 bn2 bc2)).set (X := w.heap.size) (Nat.le_refl _) (fun b o e => by have := lbn b o e; omega) (fun b o e => by simp only [Option.some.injEq, Addr.mk.injEq] at e; omega) hRl ha 1 (.slice (some ⟨g, 0, none⟩) k c)
          refine bodyPost_ret (v := treV ba2 bn2 bc2 (some ⟨g, 0, none⟩) k c) (by simp [results, Try.results68, go_sem, e0, e1]) rfl ⟨ba2, bn2, bc2, (some ⟨g, 0, none⟩), k, c, _, _, _, rfl, hZ⟩
        · have al := (Below.refl w7.heap.size w7).alloc (Nat.le_refl _) (.cells #[] 3)
          have hsz := j.t.size
          have lT := j.lT
          replace j := j.below al
          have c1 := j.cb.cell 1
          have f1' := j.cb.free 1
          have ltb := j.cb.lt
          simp only [List.getElem?_cons_zero, List.getElem?_cons_succ] at c1
          have T9 : Touch (fun x => x = R ∨ x = TB) wL ((w7.alloc (.cells #[] 3)).setCell ⟨TB, 1, none⟩ (.slice (some ⟨w7.heap.size, 0, none⟩) 0 0)) := Touch.setCell (S := fun x => x = R ∨ x = TB) j.t (Or.inr rfl) _
          have r9 := j.r.setNew (B := TB) (fun e => hRt e) (fun h0 b o e => (j.lb h0 b o e).2) 1 (.slice (some ⟨w7.heap.size, 0, none⟩) 0 0)
          have cb9 := j.cb.set 1 (.slice (some ⟨w7.heap.size, 0, none⟩) 0 0)
          have IS9 : OwnX ((w7.alloc (.cells #[] 3)).setCell ⟨TB, 1, none⟩ (.slice (some ⟨w7.heap.size, 0, none⟩) 0 0)) (some ⟨w7.heap.size, 0, none⟩) w7.heap.size 0 [] := OwnX.nil _ _ _
          have gB9 : bnd 51 [] := fun i => by simp
          have hb9 := hb.off T9 (fun b o e h => h.elim (fun h => (lb' b o e).2 h) (fun h => HBX b o e h))
          clear j al hb
          go_upto_region 14 with fail
          obtain ⟨W9, hW9⟩ : ∃ V, V = (w7.alloc (.cells #[] 3)).setCell ⟨TB, 1, none⟩ (.slice (some ⟨w7.heap.size, 0, none⟩) 0 0) := ⟨_, rfl⟩
          rw [← hW9] at T9 r9 cb9 IS9 hb9 ⊢
          clear hW9 c1 f1' ltb
          have rb9 := rbL.touch T9 (by omega)
          have tw9 : Touch (fun x => x = R) w W9 := ⟨T9.os.trans tw.os, T9.tape.trans tw.tape, T9.output.trans tw.output, Nat.le_trans tw.size T9.size, fun x hx hs => (T9.block x (Nat.lt_of_lt_of_le hx tw.size) (by omega)).trans (tw.block x hx hs)⟩
          have hN : TrN w W9 R a n cap bs p _ ba bn _ (some ⟨w7.heap.size, 0, none⟩) 0 _ := ⟨tw9, r9, hb9, IS9.ints, by omega, by omega, fun b o e => (lb' b o e).1, fun b o e => by simp only [Option.some.injEq, Addr.mk.injEq] at e; omega, gB9, by omega, by omega, ⟨_, IS9, fun h0 => ⟨by omega, fun b o e => by have := lbu b o e; omega⟩⟩⟩
          have d0 := cb9.cell 0
          have d1 := cb9.cell 1
          have e0 := rb9.cell 0
          have e1 := rb9.cell 1
          have f0 := rb9.free 0
          have f1 := rb9.free 1
          have ll := rb9.lt
          simp only [List.getElem?_cons_zero, List.getElem?_cons_succ] at d0 d1 e0 e1
          go_wp2
          have hZ := (hN.set (X := w.heap.size) (Nat.le_refl _) (fun b o e => by have := hN.lb b o e; have := lbn b o e; omega) (fun b o e => by simp only [Option.some.injEq, Addr.mk.injEq] at e; omega) hRl ha 0 (.slice ba bn bc)).set (X := w.heap.size) (Nat.le_refl _) (fun b o e => by have := lbn b o e; omega) (fun b o e => by simp only [Option.some.injEq, Addr.mk.injEq] at e; omega) hRl ha 1 (.slice (some ⟨w7.heap.size, 0, none⟩) 0 0)
          refine bodyPost_ret (v := treV ba bn bc (some ⟨w7.heap.size, 0, none⟩) 0 0) (by simp [results, Try.results68, go_sem, e0, e1]) rfl ⟨ba, bn, bc, (some ⟨w7.heap.size, 0, none⟩), 0, 0, _, _, _, rfl, hZ⟩
        · go_upto_region 9 with fail
          refine wp_region_ends (fun X => X.cell? ⟨TB, 1, none⟩ = some (.slice (some ⟨g, 0, none⟩) k c)) (fun _ => True) 8 (by kernel_rfl) ?_
          have sd := j.below ((Below.refl _ _).drew)
          obtain ⟨V0, hV0⟩ : ∃ V, V = w7.drew := ⟨_, rfl⟩
          rw [← hV0] at sd ⊢
          clear hV0 j
          have hSS : (fun X : World => X.cell? ⟨TB, 1, none⟩ = some (.slice (some ⟨g, 0, none⟩) k c)) V0 ∧ True := ⟨sd.cb.cell 1, trivial⟩
          refine tkL (i := 0) rfl hSS ?_
          refine tkL (i := 1) rfl hSS ?_
          refine tkL (i := 3) rfl hSS ?_
          clear hSS
          refine wpAnyE_two (i := 2) (j := 4) (by kernel_rfl) rfl rfl (fun Kn hK => ?_) (fun Kn hK => ?_)
          · go_simp
            have al := (Below.refl V0.heap.size V0).alloc (Nat.le_refl _) (.cells #[.int .i64 (-1), .int .i64 51] 3)
            have lb := Cel.new V0 [.int .i64 (-1), .int .i64 51] 3
            have nl : V0.heap.size ≠ R := by have h1 := sd.lR; have h2 := sd.t.size; omega
            have sa := sd.below al
            clear al
            refine hK.out _ _ ⟨sa.cb.cell 1, fun _ => trivial⟩ ?_
            clear hK
            refine wpAnyE_one (i := 4) (by kernel_rfl) rfl (fun Kn hK => ?_)
            go_simp
            refine (pick_any R a n cap bs _ 2 _ sa.r (by omega) (by omega) (by omega) (by omega)).mono ?_
            rintro e w8 ⟨ri2, r0, r1, rfl, t5, R5⟩
            obtain ⟨i2, rfl⟩ := Int.eq_ofNat_of_zero_le r0
            have hi2 : i2 < 2 := by omega
            have hi2' : (i2 : Int) < 2 := by omega
            clear r0 r1
            have sb := sa.pick t5 R5
            replace lb := lb.touch t5 nl
            clear t5 R5 sa sd
            dsimp only
            refine hK.out _ _ ⟨sb.cb.cell 1, fun _ => trivial⟩ ?_
            clear hK
            have hSS : (fun X : World => X.cell? ⟨TB, 1, none⟩ = some (.slice (some ⟨g, 0, none⟩) k c)) w8 ∧ True := ⟨sb.cb.cell 1, trivial⟩
            refine tkL (i := 5) rfl hSS ?_
            have hc := lit_cell (xs := [-1, 51]) lb hi2
            have hy := litT_2 i2 hi2
            generalize ([-1, 51] : List Int)[i2]?.getD 0 = y at hc hy
            refine wpAnyE_one (i := 6) (by kernel_rfl) rfl (fun Kn hK => ?_)
            go_simp
            refine hK.out _ _ ⟨sb.cb.cell 1, fun _ => trivial⟩ ?_
            clear hK
            clear hc lb
            refine tkL (i := 7) rfl hSS ?_
            clear hSS
            obtain ⟨g2, c2, e2, hg2, hI2, hf2, hl2⟩ := sb.ints (by rw [HG.out]; omega)
            simp only [Value.slice.injEq, Option.some.injEq, Addr.mk.injEq, and_true] at e2
            obtain ⟨rfl, hkk, rfl⟩ := e2
            clear hkk
            rw [HG.out] at hI2
            have kc : (w8).cell? ⟨g, 0, none⟩ = some (.int .i64 (G[0]?.getD 0)) := (hI2.pos (by omega)).2.1 0 (by omega)
            have kf := hf2 0
            have lTB := sb.lT
            have nTB : g ≠ TB := by omega
            have cb9 := sb.cb.setOther (B' := g) (fun e => nTB e.symm) 0 (.int .i64 y)
            have IS9 := hI2.set (i := 0) (by omega) y
            refine wpAnyE_one (i := 8) (by kernel_rfl) rfl (fun Kn hK => ?_)
            go_simp
            refine hK.out _ _ ⟨cb9.cell 1, fun _ => trivial⟩ ?_
            clear hK
            refine wpAnyE_done (by kernel_rfl) ?_ _
            clear kc kf
            have T9 : Touch (fun x => x = R ∨ x = TB) wL ((w8).setCell ⟨g, 0, none⟩ (.int .i64 y)) := sb.t.setNewF hg2 0 _
            have r9 := sb.r.setNew (B := g) (by omega) (fun h0 b o e => by have := (sb.lb h0 b o e).1; omega) 0 (.int .i64 y)
            have gB9 := sb.gB.set 0 hy.1 hy.2
            clear sb hI2 hf2
            obtain ⟨W9, hW9⟩ : ∃ V, V = (w8).setCell ⟨g, 0, none⟩ (.int .i64 y) := ⟨_, rfl⟩
            rw [← hW9] at cb9 IS9 T9 r9
            rw [← hW9]
            clear hW9
            have rb9 := rbL.touch T9 (by omega)
            have tw9 : Touch (fun x => x = R) w W9 := ⟨T9.os.trans tw.os, T9.tape.trans tw.tape, T9.output.trans tw.output, Nat.le_trans tw.size T9.size, fun x hx hs => (T9.block x (Nat.lt_of_lt_of_le hx tw.size) (by omega)).trans (tw.block x hx hs)⟩
            have hN : TrN w W9 R a n cap bs p _ ba bn _ (some ⟨g, 0, none⟩) k _ := ⟨tw9, r9, hb.off T9 (fun b o e h => h.elim (fun h => (lb' b o e).2 h) (fun h => HBX b o e h)), IS9.ints, by omega, by omega, fun b o e => (lb' b o e).1, fun b o e => by simp only [Option.some.injEq, Addr.mk.injEq] at e; omega, gB9, by omega, by omega, ⟨_, IS9, fun h0 => ⟨by omega, fun b o e => by have := lbu b o e; omega⟩⟩⟩
            have d0 := cb9.cell 0
            have d1 := cb9.cell 1
            have e0 := rb9.cell 0
            have e1 := rb9.cell 1
            have f0 := rb9.free 0
            have f1 := rb9.free 1
            have ll := rb9.lt
            simp only [List.getElem?_cons_zero, List.getElem?_cons_succ] at d0 d1 e0 e1
            go_wp2
            have hZ := (hN.set (X := w.heap.size) (Nat.le_refl _) (fun b o e => by have := hN.lb b o e; have := lbn b o e; omega) (fun b o e => by simp only [Option.some.injEq, Addr.mk.injEq] at e; omega) hRl ha 0 (.slice ba bn bc)).set (X := w.heap.size) (Nat.le_refl _) (fun b o e => by have := lbn b o e; omega) (fun b o e => by simp only [Option.some.injEq, Addr.mk.injEq] at e; omega) hRl ha 1 (.slice (some ⟨g, 0, none⟩) k c)
            refine bodyPost_ret (v := treV ba bn bc (some ⟨g, 0, none⟩) k c) (by simp [results, Try.results68, go_sem, e0, e1]) rfl ⟨ba, bn, bc, (some ⟨g, 0, none⟩), k, c, _, _, _, rfl, hZ⟩
          · go_simp
            refine (pick_any R a n cap bs _ 2 _ sd.r (by omega) (by omega) (by omega) (by omega)).mono ?_
            rintro e w8 ⟨ri2, r0, r1, rfl, t5, R5⟩
            obtain ⟨i2, rfl⟩ := Int.eq_ofNat_of_zero_le r0
            have hi2 : i2 < 2 := by omega
            have hi2' : (i2 : Int) < 2 := by omega
            clear r0 r1
            have sa := sd.pick t5 R5
            clear t5 R5 sd
            dsimp only
            refine hK.out _ _ ⟨sa.cb.cell 1, fun _ => trivial⟩ ?_
            clear hK
            refine wpAnyE_one (i := 2) (by kernel_rfl) rfl (fun Kn hK => ?_)
            go_simp
            have al := (Below.refl w8.heap.size w8).alloc (Nat.le_refl _) (.cells #[.int .i64 (-1), .int .i64 51] 3)
            have lb := Cel.new w8 [.int .i64 (-1), .int .i64 51] 3
            have nl : w8.heap.size ≠ R := by have h1 := sa.lR; have h2 := sa.t.size; omega
            have sb := sa.below al
            clear al
            refine hK.out _ _ ⟨sb.cb.cell 1, fun _ => trivial⟩ ?_
            clear hK
            clear sa
            have hSS : (fun X : World => X.cell? ⟨TB, 1, none⟩ = some (.slice (some ⟨g, 0, none⟩) k c)) (w8.alloc (.cells #[.int .i64 (-1), .int .i64 51] 3)) ∧ True := ⟨sb.cb.cell 1, trivial⟩
            refine tkL (i := 5) rfl hSS ?_
            have hc := lit_cell (xs := [-1, 51]) lb hi2
            have hy := litT_2 i2 hi2
            generalize ([-1, 51] : List Int)[i2]?.getD 0 = y at hc hy
            refine wpAnyE_one (i := 6) (by kernel_rfl) rfl (fun Kn hK => ?_)
            go_simp
            refine hK.out _ _ ⟨sb.cb.cell 1, fun _ => trivial⟩ ?_
            clear hK
            clear hc lb
            refine tkL (i := 7) rfl hSS ?_
            clear hSS
            obtain ⟨g2, c2, e2, hg2, hI2, hf2, hl2⟩ := sb.ints (by rw [HG.out]; omega)
            simp only [Value.slice.injEq, Option.some.injEq, Addr.mk.injEq, and_true] at e2
            obtain ⟨rfl, hkk, rfl⟩ := e2
            clear hkk
            rw [HG.out] at hI2
            have kc : ((w8.alloc (.cells #[.int .i64 (-1), .int .i64 51] 3))).cell? ⟨g, 0, none⟩ = some (.int .i64 (G[0]?.getD 0)) := (hI2.pos (by omega)).2.1 0 (by omega)
            have kf := hf2 0
            have lTB := sb.lT
            have nTB : g ≠ TB := by omega
            have cb9 := sb.cb.setOther (B' := g) (fun e => nTB e.symm) 0 (.int .i64 y)
            have IS9 := hI2.set (i := 0) (by omega) y
            refine wpAnyE_one (i := 8) (by kernel_rfl) rfl (fun Kn hK => ?_)
            go_simp
            refine hK.out _ _ ⟨cb9.cell 1, fun _ => trivial⟩ ?_
            clear hK
            refine wpAnyE_done (by kernel_rfl) ?_ _
            clear kc kf
            have T9 : Touch (fun x => x = R ∨ x = TB) wL (((w8.alloc (.cells #[.int .i64 (-1), .int .i64 51] 3))).setCell ⟨g, 0, none⟩ (.int .i64 y)) := sb.t.setNewF hg2 0 _
            have r9 := sb.r.setNew (B := g) (by omega) (fun h0 b o e => by have := (sb.lb h0 b o e).1; omega) 0 (.int .i64 y)
            have gB9 := sb.gB.set 0 hy.1 hy.2
            clear sb hI2 hf2
            obtain ⟨W9, hW9⟩ : ∃ V, V = ((w8.alloc (.cells #[.int .i64 (-1), .int .i64 51] 3))).setCell ⟨g, 0, none⟩ (.int .i64 y) := ⟨_, rfl⟩
            rw [← hW9] at cb9 IS9 T9 r9
            rw [← hW9]
            clear hW9
            have rb9 := rbL.touch T9 (by omega)
            have tw9 : Touch (fun x => x = R) w W9 := ⟨T9.os.trans tw.os, T9.tape.trans tw.tape, T9.output.trans tw.output, Nat.le_trans tw.size T9.size, fun x hx hs => (T9.block x (Nat.lt_of_lt_of_le hx tw.size) (by omega)).trans (tw.block x hx hs)⟩
            have hN : TrN w W9 R a n cap bs p _ ba bn _ (some ⟨g, 0, none⟩) k _ := ⟨tw9, r9, hb.off T9 (fun b o e h => h.elim (fun h => (lb' b o e).2 h) (fun h => HBX b o e h)), IS9.ints, by omega, by omega, fun b o e => (lb' b o e).1, fun b o e => by simp only [Option.some.injEq, Addr.mk.injEq] at e; omega, gB9, by omega, by omega, ⟨_, IS9, fun h0 => ⟨by omega, fun b o e => by have := lbu b o e; omega⟩⟩⟩
            have d0 := cb9.cell 0
            have d1 := cb9.cell 1
            have e0 := rb9.cell 0
            have e1 := rb9.cell 1
            have f0 := rb9.free 0
            have f1 := rb9.free 1
            have ll := rb9.lt
            simp only [List.getElem?_cons_zero, List.getElem?_cons_succ] at d0 d1 e0 e1
            go_wp2
            have hZ := (hN.set (X := w.heap.size) (Nat.le_refl _) (fun b o e => by have := hN.lb b o e; have := lbn b o e; omega) (fun b o e => by simp only [Option.some.injEq, Addr.mk.injEq] at e; omega) hRl ha 0 (.slice ba bn bc)).set (X := w.heap.size) (Nat.le_refl _) (fun b o e => by have := lbn b o e; omega) (fun b o e => by simp only [Option.some.injEq, Addr.mk.injEq] at e; omega) hRl ha 1 (.slice (some ⟨g, 0, none⟩) k c)
            refine bodyPost_ret (v := treV ba bn bc (some ⟨g, 0, none⟩) k c) (by simp [results, Try.results68, go_sem, e0, e1]) rfl ⟨ba, bn, bc, (some ⟨g, 0, none⟩), k, c, _, _, _, rfl, hZ⟩

end Go.Proofs.Ytjggppnffkcmbaa
