/-
  What came of an act, drawn (l20Res): a number, and at most seven numbers in new memory.
-/
import Derived.Test.YtfkcfjkojfnfnaaDoorDrL
import Derived.Test.YtfkcfjkojfnfnaaDoorOwn0
import Derived.Test.YtfkcfjkojfnfnaaDoorResP
import Derived.Test.YtfkcfjkojfnfnaaDoorTk
import Derived.Deep.AppendLies
import Derived.Deep.DeepCutAuto
namespace Go.Proofs.YtfkcfjkojfnfnaaDoor
open Go.RowKit
set_option linter.unusedVariables false
set_option maxRecDepth 100000

/-- A result that is being drawn: its box, what it tells so far. -/
structure JRd (wL : World) (R TB : Nat) (a : Option Addr) (n cap : Nat) (bs : List Int) (q : Int) (bv v' v : Value) (G : List Int) (W : World) : Prop where
  t : Touch (fun x => x = R ∨ x = TB) wL W
  r : Rd W R a n cap bs q
  o : W.ownsRow wL.heap.size 3 1 v G.length (G.map (Value.int .i64))
  cb : Cel W TB [bv, v'] 36
  lR : R < wL.heap.size
  lT : TB < wL.heap.size
  ne : TB ≠ R
  lb : 0 < n → ∀ b o, a = some ⟨b, o, none⟩ → b < wL.heap.size ∧ b ≠ TB
  gB : bnd 12345 G
section
variable {wL W W' : World} {R TB : Nat} {a : Option Addr} {n cap : Nat} {bs : List Int} {q : Int} {bv v' v : Value} {G : List Int}
theorem own_belowR {base : Nat} {e : TypeId} {s : Nat} {m : Nat} {xs : List Value} (h : W.ownsRow base e s v m xs) (b : Below W.heap.size W W') : W'.ownsRow base e s v m xs := by
  obtain ⟨h1, h2⟩ := h
  refine ⟨h1, ?_⟩
  rcases h2 with h2 | ⟨g, cap, cur, hv, hg, hh, r⟩
  · exact Or.inl h2
  · exact Or.inr ⟨g, cap, cur, hv, hg, by rw [b.block g (lt_of_block hh)]; exact hh, r⟩
theorem JRd.below (j : JRd wL R TB a n cap bs q bv v' v G W) (b : Below W.heap.size W W') : JRd wL R TB a n cap bs q bv v' v G W' :=
  ⟨j.t.trans (Touch.of b), j.r.below b, own_belowR j.o b, j.cb.below b, j.lR, j.lT, j.ne, j.lb, j.gB⟩
theorem JRd.pick {q' : Int} (j : JRd wL R TB a n cap bs q bv v' v G W) (t : Touch (fun x => x = R) W W') (r : Rd W' R a n cap bs q') : JRd wL R TB a n cap bs q' bv v' v G W' :=
  ⟨j.t.trans (t.mono (fun k h => Or.inl h)), r, ownsRow_touch j.o t (fun k h => by have := j.lR; omega), j.cb.touch t j.ne, j.lR, j.lT, j.ne, j.lb, j.gB⟩
theorem bnd.appR {M y : Int} {zs : List Int} (h : bnd M zs) (h1 : -M ≤ y) (h2 : y ≤ M) (h0 : 0 ≤ M) : bnd M (zs ++ [y]) := by
  intro i
  by_cases hi : i < zs.length
  · rw [List.getElem?_append_left hi]; exact h i
  · by_cases he : i = zs.length
    · subst he; simp; omega
    · rw [List.getElem?_eq_none (by rw [List.length_append]; simp; omega)]; simp; omega
theorem JRd.app {y : Int} {g c k : Nat} (j : JRd wL R TB a n cap bs q bv v' v G W) (hk : G.length = k) (y1 : -12345 ≤ y) (y2 : y ≤ 12345) (hown : W'.ownsRow wL.heap.size 3 1 (.slice (some ⟨g, 0, none⟩) (k + 1) c) (k + 1) (G.map (Value.int .i64) ++ [.int .i64 y])) (hg : W.grownBy W' v.ownBlock) : JRd wL R TB a n cap bs q bv v' (.slice (some ⟨g, 0, none⟩) (k + 1) c) (G ++ [y]) W' := by
  have hr : ∀ x, v.ownBlock = some x → wL.heap.size ≤ x := fun x hx => (j.o.lt x hx).1
  have lR := j.lR
  have lT := j.lT
  have T : Touch (fun x => wL.heap.size ≤ x) W W' := ⟨hg.os, hg.tape, hg.output, hg.size, fun x hx hs => hg.block x hx (fun e => hs (hr x e.symm))⟩
  refine ⟨j.t.grown hg hr, j.r.touch T (by omega) (fun h0 b o hab => by have := (j.lb h0 b o hab).1; omega), ?_, j.cb.touch T (by omega), j.lR, j.lT, j.ne, j.lb, j.gB.appR y1 y2 (by omega)⟩
  rw [List.length_append, hk, List.map_append]
  exact hown
theorem JRd.store (j : JRd wL R TB a n cap bs q bv v' v G W) : JRd wL R TB a n cap bs q bv v v G (W.setCell ⟨TB, 1, none⟩ v) := by
  have lT := j.lT
  have T : Touch (fun x => x = TB) W (W.setCell ⟨TB, 1, none⟩ v) := Touch.setCell (S := fun x => x = TB) (Touch.refl _ _) rfl _
  exact ⟨j.t.trans (T.mono (fun k h => Or.inr h)), j.r.touch T (fun e => j.ne e.symm) (fun h0 b o e h => (j.lb h0 b o e).2 h), ownsRow_touch j.o T (fun k h => by omega), j.cb.set 1 v, j.lR, j.lT, j.ne, j.lb, j.gB⟩
theorem JRd.ints (j : JRd wL R TB a n cap bs q bv v' v G W) (h0 : 0 < G.length) : ∃ g c, v = .slice (some ⟨g, 0, none⟩) G.length c ∧ wL.heap.size ≤ g ∧ OwnX W (some ⟨g, 0, none⟩) g G.length G ∧ (∀ i, W.frozen? ⟨g, i, none⟩ = false) ∧ g < W.heap.size := by
  rcases j.o.2 with ⟨_, h⟩ | ⟨g, cap', cur, rfl, hg, hh, hl, _, _⟩
  · omega
  · have hC : Cel W g cur.toList 3 := by unfold Cel; simpa using hh
    refine ⟨g, cap', rfl, hg, ⟨rfl, .inr ⟨rfl, cur.toList, hC, fun i hi => ?_⟩⟩, fun i => j.o.frozenAt i, lt_of_block hh⟩
    have := j.o.cellAt i (by omega)
    rw [← hC.cell i, this]
    simp [hi]
end
theorem JRd.any {wL W : World} {R TB : Nat} {a : Option Addr} {n cap : Nat} {bs : List Int} {q : Int} {bv v' v : Value} {G : List Int} (j : JRd wL R TB a n cap bs q bv v' v G W) : ∃ ta tc, v = .slice ta G.length tc ∧ Ints W ta G.length G ∧ ∀ b o, ta = some ⟨b, o, none⟩ → wL.heap.size ≤ b := by
  by_cases h0 : 0 < G.length
  · obtain ⟨g, c, e, hg, ho, _, _⟩ := j.ints h0
    exact ⟨_, c, e, ho.ints, fun b o e => by (simp only [Option.some.injEq, Addr.mk.injEq] at e; omega)⟩
  · have hz : G.length = 0 := by omega
    have hG : G = [] := List.eq_nil_of_length_eq_zero hz
    subst hG
    rcases j.o.2 with ⟨hv, _⟩ | ⟨g, cap', cur, hv, hg, _⟩
    · exact ⟨none, 0, hv, ⟨rfl, fun i hi => by simp at hi⟩, fun b o e => by simp at e⟩
    · exact ⟨_, cap', hv, ⟨rfl, fun i hi => by simp at hi⟩, fun b o e => by (simp only [Option.some.injEq, Addr.mk.injEq] at e; omega)⟩
theorem ints_lit {W : World} {B : Nat} {xs : List Int} {t : TypeId} (h : Cel W B (xs.map (Value.int .i64)) t) : Ints W (some ⟨B, 0, none⟩) xs.length xs := ⟨rfl, fun i hi => ⟨B, 0, rfl, by rw [Nat.zero_add, h.cell i]; simp [hi]⟩⟩
/-- What came of an act was drawn. -/
structure RsN (w w' : World) (R : Nat) (a : Option Addr) (n cap : Nat) (bs : List Int) (p q : Int) (c : Int) (ta : Option Addr) (tn : Nat) (T : List Int) : Prop where
  t : Touch (fun z => z = R) w w'
  r : Rd w' R a n cap bs q
  i : Ints w' ta tn T
  n7 : tn ≤ 7
  lo : ∀ b o, ta = some ⟨b, o, none⟩ → w.heap.size + 1 ≤ b
  q0 : p ≤ q
  q1 : q ≤ p + 20
theorem litR_4 (j : Nat) (hj : j < 4) : -12345 ≤ ([0, 7, -7, 12345] : List Int)[j]?.getD 0 ∧ ([0, 7, -7, 12345] : List Int)[j]?.getD 0 ≤ 12345 := by
  rcases j with _ | _ | _ | _ | j <;> first | omega | simp
theorem RsN.fin {w W : World} {R : Nat} {a : Option Addr} {n cap : Nat} {bs : List Int} {p q c : Int} {ta : Option Addr} {tn : Nat} {T : List Int} (h : RsN w W R a n cap bs p q c ta tn T) (hR : R < w.heap.size) (ha : 0 < n → ∀ b o, a = some ⟨b, o, none⟩ → b < w.heap.size) (v0 v1 : Value) : RsN w ((W.setCell ⟨w.heap.size, 0, none⟩ v0).setCell ⟨w.heap.size, 1, none⟩ v1) R a n cap bs p q c ta tn T := by
  have f : ∀ b o, ta = some ⟨b, o, none⟩ → b ≠ w.heap.size := fun b o e => by have := h.lo b o e; omega
  have g : 0 < n → ∀ b o, a = some ⟨b, o, none⟩ → b ≠ w.heap.size := fun h0 b o e => by have := ha h0 b o e; omega
  exact ⟨(h.t.setNewF (Nat.le_refl _) 0 v0).setNewF (Nat.le_refl _) 1 v1, (h.r.setNew (by omega) g 0 v0).setNew (by omega) g 1 v1, (h.i.setFar f 0 v0).setFar f 1 v1, h.n7, h.lo, h.q0, h.q1⟩

set_option maxHeartbeats 12800000 in
theorem res_f (R : Nat) (a : Option Addr) (n cap : Nat) (bs : List Int) (p M : Int) (w : World) (hR : Rd w R a n cap bs p) (hp : 0 ≤ p) (hp1 : p ≤ 4000000) (hM : 1 ≤ M) (hM1 : M ≤ 1000) (ha : 0 < n → ∀ b o, a = some ⟨b, o, none⟩ → b < w.heap.size) :
    Calls Tryd.prog 51 #[.pointer (some ⟨R, 0, none⟩), .int .i64 M] w fun e w' => ∃ c ta tn tc T q, e = .returned (resP c ta tn tc) ∧ RsN w w' R a n cap bs p q c ta tn T := by
  have hRl := hR.c.lt
  have rb := Cel.new w [.int .i64 0, .slice none 0 0] 36
  have B0 := (Below.refl w.heap.size w).alloc (Nat.le_refl _) (.cells #[.int .i64 0, .slice none 0 0] 36)
  obtain ⟨i0, hi, hz0, hz1, hz2⟩ := info_parts Tryd.infoInt
  go_enter Tryd.func51, Tryd.ntmps51
  go_wp2_with fail
  refine (pick_any R a n cap bs p 3 _ (hR.below B0) (by omega) (by omega) (by omega) (by omega)).mono ?_
  rintro e w1 ⟨r, r0, r3, rfl, t1, R1⟩
  have z1 := t1.size
  rw [World.size_alloc] at z1
  have al := (Below.refl w1.heap.size w1).alloc (Nat.le_refl _) (.cells #[.int .i64 (1 + r), .slice none 0 0] 36)
  have cb := Cel.new w1 [.int .i64 (1 + r), .slice none 0 0] 36
  have rb1 := (rb.touch t1 (by omega)).below al
  have tw := ((Touch.of (S := fun x => x = R) B0).trans t1).trans (Touch.of al)
  have r1 := R1.below al
  obtain ⟨TB, hTB⟩ : ∃ x, x = w1.heap.size := ⟨_, rfl⟩
  obtain ⟨wL, hwL⟩ : ∃ W, W = w1.alloc (.cells #[.int .i64 (1 + r), .slice none 0 0] 36) := ⟨_, rfl⟩
  have cbl : TB < wL.heap.size := by rw [hwL, hTB, World.size_alloc]; omega
  have hTB1 : w.heap.size < TB := by omega
  have zL : w1.heap.size < wL.heap.size := by rw [hwL, World.size_alloc]; omega
  rw [← hwL] at cb rb1 tw r1
  rw [← hTB] at cb
  have jL : JRd wL R TB a n cap bs (p + 1) (.int .i64 (1 + r)) (.slice none 0 0) (.slice none 0 0) [] wL :=
    ⟨Touch.refl _ _, r1, World.ownsRow_nil _ _ _ _, cb, by omega, cbl, by omega, fun h0 b o e => by have := ha h0 b o e; exact ⟨by omega, by omega⟩, fun i => by simp⟩
  go_upto_region 2 with fail
  rw [← hTB, ← hwL]
  clear hTB hwL hR rb B0 R1 t1 al cb r1 zL
  have gc := jL.cb.cell 0
  simp only [List.getElem?_cons_zero] at gc
  go_upto_if 13 with fail
  clear gc
  go_cut [] (fun wx => ∃ v T q, JRd wL R TB a n cap bs q (.int .i64 (1 + r)) v v T wx ∧ T.length ≤ 2 ∧ p + 1 ≤ q ∧ q ≤ p + 5)
  case first =>
    by_cases hr : r = 0
    · subst hr
      go_wp2_with fail
      refine (pick_any R a n cap bs (p + 1) 3 _ jL.r (by omega) (by omega) (by omega) (by omega)).mono ?_
      rintro e w3 ⟨rk, k0, k3, rfl, t3, R3⟩
      obtain ⟨rk, rfl⟩ := Int.eq_ofNat_of_zero_le k0
      replace jL := jL.pick t3 R3
      clear t3 R3 k0
      go_wp2_with fail
      go_loopw [6] (fun i wr => ∃ (k l : Nat) (v : Value) (G : List Int) (q : Int), k + l = rk ∧ i = .int .i64 l ∧ G.length = k ∧ JRd wL R TB a n cap bs q (.int .i64 (1 + 0)) v v G wr ∧ p + 2 ≤ q ∧ q ≤ p + 2 + k) (fun i _ => (intOf i).toNat)
      case atStart => exact ⟨0, rk, _, [], p + 1 + 1, by omega, rfl, rfl, jL, by omega, by omega⟩
      case round =>
        clear jL
        obtain ⟨k, l, v, G, q, hkl, rfl, hG, j, hq0, hq1⟩ := hrel
        have HG : Hid (G.length = k) := hG
        clear hG
        by_cases hl : 0 < l
        · have hl' : (0 : Int) < (l : Int) := by omega
          go_upto_region 6 with fail
          refine wp_region_ends (fun _ => True) (fun X => X.cell? ⟨TB, 1, none⟩ = some v) 9 (by kernel_rfl) ?_
          have sd := j.below ((Below.refl _ _).drew)
          obtain ⟨V0, hV0⟩ : ∃ V, V = wr.drew := ⟨_, rfl⟩
          rw [← hV0] at sd ⊢
          clear hV0 j
          have hSS : True ∧ (fun X : World => X.cell? ⟨TB, 1, none⟩ = some v) V0 := ⟨trivial, sd.cb.cell 1⟩
          refine tkL (i := 0) rfl hSS ?_
          refine tkM (i := 1) rfl rfl hSS ?_
          refine tkL (i := 3) rfl hSS ?_
          clear hSS
          refine wpAnyE_two (i := 2) (j := 4) (by kernel_rfl) rfl rfl (fun Kn hK => ?_) (fun Kn hK => ?_)
          · go_simp
            have al := (Below.refl V0.heap.size V0).alloc (Nat.le_refl _) (.cells #[.int .i64 0, .int .i64 7, .int .i64 (-7), .int .i64 12345] 3)
            have lb := Cel.new V0 [.int .i64 0, .int .i64 7, .int .i64 (-7), .int .i64 12345] 3
            have nl : V0.heap.size ≠ R := by have h1 := sd.lR; have h2 := sd.t.size; omega
            have sa := sd.below al
            clear al
            refine hK.out _ _ ⟨trivial, fun _ => sa.cb.cell 1⟩ ?_
            clear hK
            refine wpAnyE_one (i := 4) (by kernel_rfl) rfl (fun Kn hK => ?_)
            go_simp
            refine (pick_any R a n cap bs _ 4 _ sa.r (by omega) (by omega) (by omega) (by omega)).mono ?_
            rintro e w5 ⟨rj, r0, r1, rfl, t5, R5⟩
            obtain ⟨j, rfl⟩ := Int.eq_ofNat_of_zero_le r0
            have hj : j < 4 := by omega
            have hj' : (j : Int) < 4 := by omega
            clear r0 r1
            have sb := sa.pick t5 R5
            replace lb := lb.touch t5 nl
            clear t5 R5 sa sd
            dsimp only
            refine hK.out _ _ ⟨trivial, fun _ => sb.cb.cell 1⟩ ?_
            clear hK
            have hSS : True ∧ (fun X : World => X.cell? ⟨TB, 1, none⟩ = some v) w5 := ⟨trivial, sb.cb.cell 1⟩
            refine tkL (i := 5) rfl hSS ?_
            clear hSS
            have hc := lit_cell (xs := [0, 7, -7, 12345]) lb hj
            have hy := litR_4 j hj
            generalize ([0, 7, -7, 12345] : List Int)[j]?.getD 0 = y at hc hy
            refine wpAnyE_one (i := 6) (by kernel_rfl) rfl (fun Kn hK => ?_)
            go_simp
            refine hK.out _ _ ⟨trivial, fun _ => sb.cb.cell 1⟩ ?_
            clear hK
            clear hc lb
            obtain ⟨V3, hV3⟩ : ∃ V, V = w5 := ⟨_, rfl⟩
            rw [← hV3] at sb
            rw [← hV3]
            clear hV3
            refine wpAnyE_one (i := 7) (by kernel_rfl) rfl (fun Kn hK => ?_)
            go_simp
            have al := (Below.refl V3.heap.size V3).alloc (Nat.le_refl _) (.cells #[.int .i64 y] 3)
            have s7 := sb.below al
            refine hK.out _ _ ⟨trivial, fun _ => s7.cb.cell 1⟩ ?_
            clear hK
            have hsz := s7.t.size
            clear al
            refine wpAnyE_one (i := 8) (by kernel_rfl) rfl (fun Kn hK => ?_)
            rw [if_pos (by rfl)]
            refine wp_append_lies _ (.tmp 21) (.tmp 27) 23 rfl wL.heap.size 3 i0 _ 1 8 Tryd.underlying23 hi hz0 hz1 hz2 rfl (by omega) v k (G.map (Value.int .i64)) (by rfl) (by have h := s7.o; rw [HG.out] at h; exact h) ⟨V3.heap.size, 0, none⟩ 1 1 [.int .i64 y] (by rfl) (by rfl) (World.news_of_block (cs := #[.int .i64 y]) (t := 3) (fr := (0, 0)) (heap_alloc_new V3 _)) (by simp [Value.oneCell']) (by omega) (by unfold maxLen; omega) (by omega) hsz (V3.heap.size + 1) (by rw [World.size_alloc]) ?_
            intro g c w8 hown hgrow _ _
            have s8 := s7.app HG.out hy.1 hy.2 hown hgrow
            clear hown hgrow
            refine hK.out _ _ ⟨trivial, fun _ => s8.cb.cell 1⟩ ?_
            clear hK
            refine wpAnyE_one (i := 9) (by kernel_rfl) rfl (fun Kn hK => ?_)
            go_simp
            refine hK.out _ _ ⟨trivial, fun _ => s8.cb.cell 1⟩ ?_
            clear hK
            have f1 := s8.cb.free 1
            have c1 := s8.cb.cell 1
            have lt1 := s8.cb.lt
            simp only [List.getElem?_cons_zero, List.getElem?_cons_succ] at c1
            have s9 := s8.store
            refine wpAnyE_one (i := 10) (by kernel_rfl) rfl (fun Kn hK => ?_)
            go_simp
            refine hK.out _ _ ⟨trivial, fun h => absurd h (by decide)⟩ ?_
            clear hK
            refine wpAnyE_done (by kernel_rfl) ?_ _
            clear f1 c1 s8 s7
            go_wp2
            go_roundw
            case rel => exact ⟨k + 1, l - 1, _, _, _, by omega, by go_num, by rw [List.length_append, HG.out]; rfl, s9, by omega, by omega⟩
            case measure => simp [intOf]; omega
          · go_simp
            refine (pick_any R a n cap bs _ 4 _ sd.r (by omega) (by omega) (by omega) (by omega)).mono ?_
            rintro e w5 ⟨rj, r0, r1, rfl, t5, R5⟩
            obtain ⟨j, rfl⟩ := Int.eq_ofNat_of_zero_le r0
            have hj : j < 4 := by omega
            have hj' : (j : Int) < 4 := by omega
            clear r0 r1
            have sa := sd.pick t5 R5
            clear t5 R5 sd
            dsimp only
            refine hK.out _ _ ⟨trivial, fun _ => sa.cb.cell 1⟩ ?_
            clear hK
            refine wpAnyE_one (i := 2) (by kernel_rfl) rfl (fun Kn hK => ?_)
            go_simp
            have al := (Below.refl w5.heap.size w5).alloc (Nat.le_refl _) (.cells #[.int .i64 0, .int .i64 7, .int .i64 (-7), .int .i64 12345] 3)
            have lb := Cel.new w5 [.int .i64 0, .int .i64 7, .int .i64 (-7), .int .i64 12345] 3
            have nl : w5.heap.size ≠ R := by have h1 := sa.lR; have h2 := sa.t.size; omega
            have sb := sa.below al
            clear al
            refine hK.out _ _ ⟨trivial, fun _ => sb.cb.cell 1⟩ ?_
            clear hK
            clear sa
            have hSS : True ∧ (fun X : World => X.cell? ⟨TB, 1, none⟩ = some v) (w5.alloc (.cells #[.int .i64 0, .int .i64 7, .int .i64 (-7), .int .i64 12345] 3)) := ⟨trivial, sb.cb.cell 1⟩
            refine tkL (i := 5) rfl hSS ?_
            clear hSS
            have hc := lit_cell (xs := [0, 7, -7, 12345]) lb hj
            have hy := litR_4 j hj
            generalize ([0, 7, -7, 12345] : List Int)[j]?.getD 0 = y at hc hy
            refine wpAnyE_one (i := 6) (by kernel_rfl) rfl (fun Kn hK => ?_)
            go_simp
            refine hK.out _ _ ⟨trivial, fun _ => sb.cb.cell 1⟩ ?_
            clear hK
            clear hc lb
            obtain ⟨V3, hV3⟩ : ∃ V, V = (w5.alloc (.cells #[.int .i64 0, .int .i64 7, .int .i64 (-7), .int .i64 12345] 3)) := ⟨_, rfl⟩
            rw [← hV3] at sb
            rw [← hV3]
            clear hV3
            refine wpAnyE_one (i := 7) (by kernel_rfl) rfl (fun Kn hK => ?_)
            go_simp
            have al := (Below.refl V3.heap.size V3).alloc (Nat.le_refl _) (.cells #[.int .i64 y] 3)
            have s7 := sb.below al
            refine hK.out _ _ ⟨trivial, fun _ => s7.cb.cell 1⟩ ?_
            clear hK
            have hsz := s7.t.size
            clear al
            refine wpAnyE_one (i := 8) (by kernel_rfl) rfl (fun Kn hK => ?_)
            rw [if_pos (by rfl)]
            refine wp_append_lies _ (.tmp 21) (.tmp 27) 23 rfl wL.heap.size 3 i0 _ 1 8 Tryd.underlying23 hi hz0 hz1 hz2 rfl (by omega) v k (G.map (Value.int .i64)) (by rfl) (by have h := s7.o; rw [HG.out] at h; exact h) ⟨V3.heap.size, 0, none⟩ 1 1 [.int .i64 y] (by rfl) (by rfl) (World.news_of_block (cs := #[.int .i64 y]) (t := 3) (fr := (0, 0)) (heap_alloc_new V3 _)) (by simp [Value.oneCell']) (by omega) (by unfold maxLen; omega) (by omega) hsz (V3.heap.size + 1) (by rw [World.size_alloc]) ?_
            intro g c w8 hown hgrow _ _
            have s8 := s7.app HG.out hy.1 hy.2 hown hgrow
            clear hown hgrow
            refine hK.out _ _ ⟨trivial, fun _ => s8.cb.cell 1⟩ ?_
            clear hK
            refine wpAnyE_one (i := 9) (by kernel_rfl) rfl (fun Kn hK => ?_)
            go_simp
            refine hK.out _ _ ⟨trivial, fun _ => s8.cb.cell 1⟩ ?_
            clear hK
            have f1 := s8.cb.free 1
            have c1 := s8.cb.cell 1
            have lt1 := s8.cb.lt
            simp only [List.getElem?_cons_zero, List.getElem?_cons_succ] at c1
            have s9 := s8.store
            refine wpAnyE_one (i := 10) (by kernel_rfl) rfl (fun Kn hK => ?_)
            go_simp
            refine hK.out _ _ ⟨trivial, fun h => absurd h (by decide)⟩ ?_
            clear hK
            refine wpAnyE_done (by kernel_rfl) ?_ _
            clear f1 c1 s8 s7
            go_wp2
            go_roundw
            case rel => exact ⟨k + 1, l - 1, _, _, _, by omega, by go_num, by rw [List.length_append, HG.out]; rfl, s9, by omega, by omega⟩
            case measure => simp [intOf]; omega
        · have hl' : ¬ (0 : Int) < (l : Int) := by omega
          have HGk : G.length ≤ 2 := by rw [HG.out]; omega
          go_wp2
          go_meet
          case rel => exact ⟨v, G, q, j, HGk, by omega, by omega⟩
    · have hr' : ((1 + r) == 1) = false := by simp; omega
      go_wp2
      go_meet
      case rel => exact ⟨_, _, _, jL, by simp, by omega, by omega⟩
  case rest =>
    clear jL
    obtain ⟨v, T, q, j, hT2, hq0, hq1⟩ := hcut
    go_wp2_with fail
    refine (pick_any R a n cap bs q M _ j.r (by omega) (by omega) (by omega) (by omega)).mono ?_
    rintro e w4 ⟨u, u0, u1, rfl, t4, R4⟩
    replace j := j.pick t4 R4
    clear t4 R4
    have zw := j.t.size
    by_cases hu : 0 < u
    · obtain ⟨ta, tc, rfl, iT, loT⟩ := j.any
      obtain ⟨L, hL⟩ : ∃ L, T.length = L := ⟨_, rfl⟩
      rw [hL] at j iT hT2
      have tw9 := (⟨j.t.os.trans tw.os, j.t.tape.trans tw.tape, j.t.output.trans tw.output, Nat.le_trans tw.size j.t.size, fun x hx hs => (j.t.block x (Nat.lt_of_lt_of_le hx tw.size) (by omega)).trans (tw.block x hx hs)⟩ : Touch (fun x => x = R) w _)
      have rb9 := rb1.touch j.t (by omega)
      have hN : RsN w w4 R a n cap bs p (q + 1) (1 + r) ta L T := ⟨tw9, j.r, iT, by omega, fun b o e => by have := loT b o e; omega, by omega, by omega⟩
      have hZ := fun v0 v1 => hN.fin hRl ha v0 v1
      have c0 := j.cb.cell 0
      have c1 := j.cb.cell 1
      have g0 := rb9.cell 0
      have g1 := rb9.cell 1
      have k0 := rb9.free 0
      have k1' := rb9.free 1
      have kl' := rb9.lt
      simp only [List.getElem?_cons_zero, List.getElem?_cons_succ] at c0 c1 g0 g1
      go_wp2
      exact bodyPost_ret (v := resP (1 + r) ta L tc) (by simp [results, Tryd.results51, go_sem, g0, g1]) rfl ⟨_, ta, L, tc, T, q + 1, rfl, hZ _ _⟩
    · obtain rfl : u = 0 := by omega
      clear hu u0 u1
      go_wp2_with fail
      refine (pick_any R a n cap bs (q + 1) 3 _ j.r (by omega) (by omega) (by omega) (by omega)).mono ?_
      rintro e w5 ⟨s, s0, s3, rfl, t5, R5⟩
      replace j := j.pick t5 R5
      clear t5 R5
      rcases (show s = 0 ∨ s = 1 ∨ s = 2 from by omega) with rfl | rfl | rfl
      · have al := (Below.refl w5.heap.size w5).alloc (Nat.le_refl _) (.cells #[.int .i64 0, .int .i64 4, .int .i64 (-1)] 3)
        have lb := Cel.new w5 [.int .i64 0, .int .i64 4, .int .i64 (-1)] 3
        have zz := j.t.size
        have nl : w5.heap.size ≠ R := by have h1 := j.lR; omega
        replace j := j.below al
        clear al
        go_wp2_with fail
        refine (pick_any R a n cap bs (q + 1 + 1) 3 _ j.r (by omega) (by omega) (by omega) (by omega)).mono ?_
        rintro e w6 ⟨i, j0, j1, rfl, t8, R8⟩
        obtain ⟨i, rfl⟩ := Int.eq_ofNat_of_zero_le j0
        have hi3 : i < 3 := by omega
        have hi' : (i : Int) < 3 := by omega
        replace j := j.pick t8 R8
        replace lb := lb.touch t8 nl
        clear t8 R8 j0 j1
        have hc := lit_cell (xs := [0, 4, -1]) lb hi3
        generalize ([0, 4, -1] : List Int)[i]?.getD 0 = y at hc
        obtain ⟨ta, tc, rfl, iT, loT⟩ := j.any
        obtain ⟨L, hL⟩ : ∃ L, T.length = L := ⟨_, rfl⟩
        rw [hL] at j iT hT2
        have e0 := j.cb.cell 0
        have f0 := j.cb.free 0
        have lt := j.cb.lt
        simp only [List.getElem?_cons_zero] at e0
        have T9 : Touch (fun x => x = R ∨ x = TB) wL (w6.setCell ⟨TB, 0, none⟩ (.int .i64 y)) := Touch.setCell (S := fun x => x = R ∨ x = TB) j.t (Or.inr rfl) _
        have r9 := j.r.setNew (B := TB) (fun e => j.ne e) (fun h0 b o e => (j.lb h0 b o e).2) 0 (.int .i64 y)
        have cb9 := j.cb.set 0 (.int .i64 y)
        have i9 := iT.setFar (B := TB) (fun b o e => by have := loT b o e; omega) 0 (.int .i64 y)
        clear j iT lb
        go_upto_region 15 with fail
        clear hc e0 f0 lt
        obtain ⟨W9, hW9⟩ : ∃ W, W = w6.setCell ⟨TB, 0, none⟩ (.int .i64 y) := ⟨_, rfl⟩
        rw [← hW9]
        rw [← hW9] at T9 r9 cb9 i9
        clear hW9
        have tw9 := (⟨T9.os.trans tw.os, T9.tape.trans tw.tape, T9.output.trans tw.output, Nat.le_trans tw.size T9.size, fun x hx hs => (T9.block x (Nat.lt_of_lt_of_le hx tw.size) (by omega)).trans (tw.block x hx hs)⟩ : Touch (fun x => x = R) w _)
        have rb9 := rb1.touch T9 (by omega)
        have hN : RsN w W9 R a n cap bs p (q + 1 + 1 + 1) y ta L T := ⟨tw9, r9, i9, by omega, fun b o e => by have := loT b o e; omega, by omega, by omega⟩
        have hZ := fun v0 v1 => hN.fin hRl ha v0 v1
        have c0 := cb9.cell 0
        have c1 := cb9.cell 1
        have g0 := rb9.cell 0
        have g1 := rb9.cell 1
        have k0 := rb9.free 0
        have k1' := rb9.free 1
        have kl' := rb9.lt
        simp only [List.getElem?_cons_zero, List.getElem?_cons_succ] at c0 c1 g0 g1
        go_wp2
        exact bodyPost_ret (v := resP y ta L tc) (by simp [results, Tryd.results51, go_sem, g0, g1]) rfl ⟨_, ta, L, tc, T, q + 1 + 1 + 1, rfl, hZ _ _⟩
      · obtain ⟨L, hL⟩ : ∃ L, T.length = L := ⟨_, rfl⟩
        have HL : Hid (T.length = L) := hL
        rw [hL] at hT2
        clear hL
        have al := (Below.refl w5.heap.size w5).alloc (Nat.le_refl _) (.cells #[.int .i64 1] 3)
        have s7 := j.below al
        have e1 := j.cb.cell 1
        have e7 := s7.cb.cell 1
        simp only [List.getElem?_cons_zero, List.getElem?_cons_succ] at e1 e7
        have hsz := s7.t.size
        clear al
        go_upto_region 15 with (at_builtin; go_must (refine wpList_append_lies _ rfl (.tmp 59) (.tmp 60) 23 rfl wL.heap.size 3 i0 _ 1 8 Tryd.underlying23 hi hz0 hz1 hz2 rfl (by decide) v L (T.map (Value.int .i64)) rfl (by have h := s7.o; rw [HL.out] at h; exact h) ⟨w5.heap.size, 0, none⟩ 1 1 [.int .i64 1] rfl rfl (World.news_of_block (cs := #[.int .i64 1]) (t := 3) (fr := (0, 0)) (heap_alloc_new w5 _)) (by simp [Value.oneCell']) (by omega) (by unfold maxLen; omega) (by omega) hsz _ rfl ?_); intro g c w8 hown hgrow _ _; have s8 := s7.app HL.out (by omega) (by omega) hown hgrow; have k1 := s8.cb.cell 1; have kf := s8.cb.free 1; have kl := s8.cb.lt; simp only [List.getElem?_cons_zero, List.getElem?_cons_succ] at k1)
        have s9 := s8.store
        clear hown hgrow s7 j e1 e7 k1 kf kl
        obtain ⟨W9, hW9⟩ : ∃ W, W = w8.setCell ⟨TB, 1, none⟩ (.slice (some ⟨g, 0, none⟩) (L + 1) c) := ⟨_, rfl⟩
        rw [← hW9]
        rw [← hW9] at s9
        clear hW9 s8
        obtain ⟨ta, tc, e9, iT, loT⟩ := s9.any
        have hl9 : (T ++ [1]).length = L + 1 := by rw [List.length_append, HL.out]; rfl
        rw [hl9] at e9 iT
        cases e9
        have tw9 := (⟨s9.t.os.trans tw.os, s9.t.tape.trans tw.tape, s9.t.output.trans tw.output, Nat.le_trans tw.size s9.t.size, fun x hx hs => (s9.t.block x (Nat.lt_of_lt_of_le hx tw.size) (by omega)).trans (tw.block x hx hs)⟩ : Touch (fun x => x = R) w _)
        have rb9 := rb1.touch s9.t (by omega)
        have hN : RsN w W9 R a n cap bs p (q + 1 + 1) (1 + r) (some ⟨g, 0, none⟩) (L + 1) (T ++ [1]) := ⟨tw9, s9.r, iT, by omega, fun b o e => by have := loT b o e; omega, by omega, by omega⟩
        have hZ := fun v0 v1 => hN.fin hRl ha v0 v1
        have cb9 := s9.cb
        have c0 := cb9.cell 0
        have c1 := cb9.cell 1
        have g0 := rb9.cell 0
        have g1 := rb9.cell 1
        have k0 := rb9.free 0
        have k1' := rb9.free 1
        have kl' := rb9.lt
        simp only [List.getElem?_cons_zero, List.getElem?_cons_succ] at c0 c1 g0 g1
        go_wp2
        exact bodyPost_ret (v := resP (1 + r) (some ⟨g, 0, none⟩) (L + 1) c) (by simp [results, Tryd.results51, go_sem, g0, g1]) rfl ⟨_, _, L + 1, c, T ++ [1], q + 1 + 1, rfl, hZ _ _⟩
      · have zz := j.t.size
        have l1 := j.lR
        have al0 := (Below.refl w5.heap.size w5).alloc (Nat.le_refl _) (.cells #[.int .i64 1, .int .i64 2, .int .i64 3, .int .i64 4, .int .i64 5, .int .i64 6, .int .i64 7] 3)
        have m0 := Cel.new w5 [.int .i64 1, .int .i64 2, .int .i64 3, .int .i64 4, .int .i64 5, .int .i64 6, .int .i64 7] 3
        replace j := j.below al0
        obtain ⟨X0, hX0⟩ : ∃ x, x = w5.heap.size := ⟨_, rfl⟩
        obtain ⟨Y0, hY0⟩ : ∃ W, W = w5.alloc (.cells #[.int .i64 1, .int .i64 2, .int .i64 3, .int .i64 4, .int .i64 5, .int .i64 6, .int .i64 7] 3) := ⟨_, rfl⟩
        rw [← hY0] at j m0
        rw [← hX0] at m0
        have x0 : wL.heap.size ≤ X0 ∧ R < X0 ∧ X0 < Y0.heap.size := by have := m0.lt; omega
        have y0 : w5.heap.size < Y0.heap.size := by rw [hY0, World.size_alloc]; omega
        clear al0
        have al1 := (Below.refl Y0.heap.size Y0).alloc (Nat.le_refl _) (.cells #[.int .i64 999999999999] 3)
        have m1 := Cel.new Y0 [.int .i64 999999999999] 3
        replace j := j.below al1
        replace m0 := m0.below al1
        obtain ⟨X1, hX1⟩ : ∃ x, x = Y0.heap.size := ⟨_, rfl⟩
        obtain ⟨Y1, hY1⟩ : ∃ W, W = Y0.alloc (.cells #[.int .i64 999999999999] 3) := ⟨_, rfl⟩
        rw [← hY1] at j m0 m1
        rw [← hX1] at m1
        have x1 : wL.heap.size ≤ X1 ∧ R < X1 ∧ X1 < Y1.heap.size := by have := m1.lt; omega
        have y1 : Y0.heap.size < Y1.heap.size := by rw [hY1, World.size_alloc]; omega
        clear al1
        have al2 := (Below.refl Y1.heap.size Y1).alloc (Nat.le_refl _) (.cells #[.int .i64 (-999999999999)] 3)
        have m2 := Cel.new Y1 [.int .i64 (-999999999999)] 3
        replace j := j.below al2
        replace m0 := m0.below al2
        replace m1 := m1.below al2
        obtain ⟨X2, hX2⟩ : ∃ x, x = Y1.heap.size := ⟨_, rfl⟩
        obtain ⟨Y2, hY2⟩ : ∃ W, W = Y1.alloc (.cells #[.int .i64 (-999999999999)] 3) := ⟨_, rfl⟩
        rw [← hY2] at j m0 m1 m2
        rw [← hX2] at m2
        have x2 : wL.heap.size ≤ X2 ∧ R < X2 ∧ X2 < Y2.heap.size := by have := m2.lt; omega
        have y2 : Y1.heap.size < Y2.heap.size := by rw [hY2, World.size_alloc]; omega
        clear al2
        have al3 := (Below.refl Y2.heap.size Y2).alloc (Nat.le_refl _) (.cells #[.int .i64 1000000000000] 3)
        have m3 := Cel.new Y2 [.int .i64 1000000000000] 3
        replace j := j.below al3
        replace m0 := m0.below al3
        replace m1 := m1.below al3
        replace m2 := m2.below al3
        obtain ⟨X3, hX3⟩ : ∃ x, x = Y2.heap.size := ⟨_, rfl⟩
        obtain ⟨Y3, hY3⟩ : ∃ W, W = Y2.alloc (.cells #[.int .i64 1000000000000] 3) := ⟨_, rfl⟩
        rw [← hY3] at j m0 m1 m2 m3
        rw [← hX3] at m3
        have x3 : wL.heap.size ≤ X3 ∧ R < X3 ∧ X3 < Y3.heap.size := by have := m3.lt; omega
        have y3 : Y2.heap.size < Y3.heap.size := by rw [hY3, World.size_alloc]; omega
        clear al3
        have al4 := (Below.refl Y3.heap.size Y3).alloc (Nat.le_refl _) (.cells #[.int .i64 (-9223372036854775808)] 3)
        have m4 := Cel.new Y3 [.int .i64 (-9223372036854775808)] 3
        replace j := j.below al4
        replace m0 := m0.below al4
        replace m1 := m1.below al4
        replace m2 := m2.below al4
        replace m3 := m3.below al4
        obtain ⟨X4, hX4⟩ : ∃ x, x = Y3.heap.size := ⟨_, rfl⟩
        obtain ⟨Y4, hY4⟩ : ∃ W, W = Y3.alloc (.cells #[.int .i64 (-9223372036854775808)] 3) := ⟨_, rfl⟩
        rw [← hY4] at j m0 m1 m2 m3 m4
        rw [← hX4] at m4
        have x4 : wL.heap.size ≤ X4 ∧ R < X4 ∧ X4 < Y4.heap.size := by have := m4.lt; omega
        have y4 : Y3.heap.size < Y4.heap.size := by rw [hY4, World.size_alloc]; omega
        clear al4
        have al5 := (Below.refl Y4.heap.size Y4).alloc (Nat.le_refl _) (.cells #[.slice (some ⟨X0, 0, none⟩) 7 7, .slice (some ⟨X1, 0, none⟩) 1 1, .slice (some ⟨X2, 0, none⟩) 1 1, .slice (some ⟨X3, 0, none⟩) 1 1, .slice (some ⟨X4, 0, none⟩) 1 1] 23)
        have m5 := Cel.new Y4 [.slice (some ⟨X0, 0, none⟩) 7 7, .slice (some ⟨X1, 0, none⟩) 1 1, .slice (some ⟨X2, 0, none⟩) 1 1, .slice (some ⟨X3, 0, none⟩) 1 1, .slice (some ⟨X4, 0, none⟩) 1 1] 23
        replace j := j.below al5
        replace m0 := m0.below al5
        replace m1 := m1.below al5
        replace m2 := m2.below al5
        replace m3 := m3.below al5
        replace m4 := m4.below al5
        have n5 : Y4.heap.size ≠ R := by omega
        clear al5
        go_wp2_with fail
        have x01 : X0 + 1 = X1 := by rw [hX1, hY0, World.size_alloc, hX0]
        have x12 : X1 + 1 = X2 := by rw [hX2, hY1, World.size_alloc, hX1]
        have x23 : X2 + 1 = X3 := by rw [hX3, hY2, World.size_alloc, hX2]
        have x34 : X3 + 1 = X4 := by rw [hX4, hY3, World.size_alloc, hX3]
        have x45 : X4 + 1 = Y4.heap.size := by rw [hY4, World.size_alloc, hX4]
        rw [← hX0, x01, x12, x23, x34]
        try rw [x45]
        rw [← hY0, ← hY1, ← hY2, ← hY3, ← hY4]
        clear hX0 hY0 hX1 hY1 hX2 hY2 hX3 hY3 hX4 hY4 x01 x12 x23 x34 x45
        refine (pick_any R a n cap bs (q + 1 + 1) 5 _ j.r (by omega) (by omega) (by omega) (by omega)).mono ?_
        rintro e w6 ⟨i, j0, j1, rfl, t8, R8⟩
        replace j := j.pick t8 R8
        replace m0 := m0.touch t8 (by omega)
        replace m1 := m1.touch t8 (by omega)
        replace m2 := m2.touch t8 (by omega)
        replace m3 := m3.touch t8 (by omega)
        replace m4 := m4.touch t8 (by omega)
        replace m5 := m5.touch t8 n5
        clear t8 R8
        have PICK : ∃ (xa : Nat) (L : Nat) (Z : List Int), w6.cell? ⟨Y4.heap.size, i.toNat, none⟩ = some (.slice (some ⟨xa, 0, none⟩) L L) ∧ Ints w6 (some ⟨xa, 0, none⟩) L Z ∧ L ≤ 7 ∧ wL.heap.size ≤ xa ∧ xa ≠ TB := by
          rcases (show i = 0 ∨ i = 1 ∨ i = 2 ∨ i = 3 ∨ i = 4 from by omega) with rfl | rfl | rfl | rfl | rfl
          · exact ⟨X0, 7, [1, 2, 3, 4, 5, 6, 7], m5.cell 0, ints_lit m0, by omega, by omega, by (have := j.lT; omega)⟩
          · exact ⟨X1, 1, [999999999999], m5.cell 1, ints_lit m1, by omega, by omega, by (have := j.lT; omega)⟩
          · exact ⟨X2, 1, [-999999999999], m5.cell 2, ints_lit m2, by omega, by omega, by (have := j.lT; omega)⟩
          · exact ⟨X3, 1, [1000000000000], m5.cell 3, ints_lit m3, by omega, by omega, by (have := j.lT; omega)⟩
          · exact ⟨X4, 1, [-9223372036854775808], m5.cell 4, ints_lit m4, by omega, by omega, by (have := j.lT; omega)⟩
        obtain ⟨xa, L, Z, cx, iZ, L7, lx, nx⟩ := PICK
        have hi5 : i < 5 := by omega
        clear m0 m1 m2 m3 m4 m5
        have e1 := j.cb.cell 1
        have f1 := j.cb.free 1
        have lt := j.cb.lt
        simp only [List.getElem?_cons_zero, List.getElem?_cons_succ] at e1
        have T9 : Touch (fun x => x = R ∨ x = TB) wL (w6.setCell ⟨TB, 1, none⟩ (.slice (some ⟨xa, 0, none⟩) L L)) := Touch.setCell (S := fun x => x = R ∨ x = TB) j.t (Or.inr rfl) _
        have r9 := j.r.setNew (B := TB) (fun e => j.ne e) (fun h0 b o e => (j.lb h0 b o e).2) 1 (.slice (some ⟨xa, 0, none⟩) L L)
        have cb9 := j.cb.set 1 (.slice (some ⟨xa, 0, none⟩) L L)
        have i9 := iZ.setFar (B := TB) (fun b o e => by (simp only [Option.some.injEq, Addr.mk.injEq] at e; omega)) 1 (.slice (some ⟨xa, 0, none⟩) L L)
        clear j iZ
        go_upto_region 15 with fail
        clear cx e1 f1 lt
        obtain ⟨W9, hW9⟩ : ∃ W, W = w6.setCell ⟨TB, 1, none⟩ (.slice (some ⟨xa, 0, none⟩) L L) := ⟨_, rfl⟩
        rw [← hW9]
        rw [← hW9] at T9 r9 cb9 i9
        clear hW9
        have tw9 := (⟨T9.os.trans tw.os, T9.tape.trans tw.tape, T9.output.trans tw.output, Nat.le_trans tw.size T9.size, fun x hx hs => (T9.block x (Nat.lt_of_lt_of_le hx tw.size) (by omega)).trans (tw.block x hx hs)⟩ : Touch (fun x => x = R) w _)
        have rb9 := rb1.touch T9 (by omega)
        have hN : RsN w W9 R a n cap bs p (q + 1 + 1 + 1) (1 + r) (some ⟨xa, 0, none⟩) L Z := ⟨tw9, r9, i9, by omega, fun b o e => by (simp only [Option.some.injEq, Addr.mk.injEq] at e; omega), by omega, by omega⟩
        have hZ := fun v0 v1 => hN.fin hRl ha v0 v1
        have c0 := cb9.cell 0
        have c1 := cb9.cell 1
        have g0 := rb9.cell 0
        have g1 := rb9.cell 1
        have k0 := rb9.free 0
        have k1' := rb9.free 1
        have kl' := rb9.lt
        simp only [List.getElem?_cons_zero, List.getElem?_cons_succ] at c0 c1 g0 g1
        go_wp2
        exact bodyPost_ret (v := resP (1 + r) (some ⟨xa, 0, none⟩) L L) (by simp [results, Tryd.results51, go_sem, g0, g1]) rfl ⟨_, _, L, L, Z, q + 1 + 1 + 1, rfl, hZ _ _⟩

end Go.Proofs.YtfkcfjkojfnfnaaDoor
