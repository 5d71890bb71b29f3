/-
  For all bytes FnTrtKeeps returns true, and what came in reads behind the call as it did. No condition. (who keeps within a treaty)
-/
import Derived.Test.YtpnldfembbfgdaaJTrtKeepsA
import Derived.Test.YtpnldfembbfgdaaOpen
namespace Go.Proofs.Ytpnldfembbfgdaa.fnTrtKeeps
open Go.ChangeShapes Go.WideShapes Go.ChangeAt Go.RowKit
set_option linter.unusedVariables false
set_option maxRecDepth 100000

theorem open_bytesT {H : Type} {enc : TypeId × Value → H} {W : World} {r : Reach} {b0 : Nat} {v : Value} {d : DataW H} {p : List MemPlace}
    (hv : Value.okWide Try.prog W r b0 22 v) (h : DataW.Trod enc Try.prog W 0 (fun _ => true) true 22 v d p) : ∃ a n cap zs, v = .slice a n cap ∧ BInts W a n zs ∧ (n ≤ cap ∧ cap ≤ maxLen) := by
  obtain ⟨a0, len0, cap0, rfl⟩ := okWide_slice Try.underlying22 hv
  obtain ⟨fuel, hf⟩ := h
  rcases open_ints Try.underlying22 Try.underlying5 (by kernel_rfl) hf with ⟨hcs, _⟩ | ⟨x, l, c, zs, hcs, _, hl, hm, hz, _, hcell, hwz⟩
  · simp [Value.cells] at hcs
    obtain ⟨rfl, rfl, rfl⟩ := hcs
    exact ⟨none, 0, 0, [], rfl, ⟨rfl, fun i hi => by omega, fun i => by simp⟩, by omega, by unfold maxLen; omega⟩
  · simp [Value.cells] at hcs
    obtain ⟨rfl, rfl, rfl⟩ := hcs
    have hz' : zs.length = cap0 := by simpa using hz
    refine ⟨some x, len0, cap0, zs.take len0, rfl, ⟨by rw [List.length_take]; omega, fun i hi => ?_, fun i => ?_⟩, hl, hm⟩
    · obtain ⟨b, off, spot⟩ := x
      have hc0 := hcell 0 (by omega)
      have hspot : spot = none := by simpa [Addr.add] using World.cell?_spot hc0
      subst hspot
      refine ⟨b, off, rfl, ?_⟩
      have hc := hcell i (by omega)
      have : W.cell? ⟨b, off + i, none⟩ = some (.int .u8 (zs.getD i 0)) := by
        by_cases h0 : i = 0
        · subst h0; simpa [Addr.add] using hc
        · simpa [Addr.add, h0] using hc
      rw [this]
      simp [hi]
    · by_cases hi : i < (zs.take len0).length
      · rw [List.getElem?_eq_getElem hi]
        have := hwz _ (List.mem_of_mem_take (List.getElem_mem hi))
        simpa [Lit.wf, IntKind.min, IntKind.max, IntKind.signed, IntKind.bits] using this
      · rw [List.getElem?_eq_none (by omega)]
        simp

set_option maxHeartbeats 1600000 in
theorem wp_copyG {o : Oper} {a : Act} {K : Act → World → Prop} {Q : Exit → Act → World → Prop} {W : World} (s x : Operand) (ho : o.op = .call { callee := .builtin .append, args := #[s, x], argTypes := #[26, 26] }) (base L : Nat) (ad : Option Addr) (n cap : Nat) (zs : List Int)
    (hs : a.eval s = .slice (some ⟨L, 0, none⟩) 0 0) (hown : W.ownsRow base 3 1 (.slice (some ⟨L, 0, none⟩) 0 0) 0 []) (hx : a.eval x = .slice ad n cap) (hb : Ints W ad n zs) (h0 : 0 < n) (hn : n ≤ 1048576) (hbase : base ≤ W.heap.size) (hL : base ≤ L)
    (h : ∀ cap' B' W1, Below base W W1 → Touch (fun z => z = L) W W1 → OwnX W1 (some ⟨B', 0, none⟩) B' n zs → (base ≤ B' ∧ (B' = L ∨ W.heap.size ≤ B')) → K (a.put o.dst (.slice (some ⟨B', 0, none⟩) n cap')) W1) : o.wp Try.prog a W K Q := by
  obtain ⟨i0, hi, hz0, hz1, hz2⟩ := info_parts Try.infoInt
  obtain ⟨B, off, rfl, hcell⟩ := hb.pos h0
  have hl := hb.1
  have hcl : ∀ i, i < n → W.cell? ⟨B, off + i, none⟩ = some (.int .i64 (zs.getD i 0)) := fun i hi => by rw [hcell i hi]
  refine wp_append_lies _ s x 26 ho base 3 i0 (.int .i64 0) 1 8 Try.underlying26 hi hz0 hz1 hz2 rfl (by omega) _ 0 [] hs hown ⟨B, off, none⟩ n cap (zs.map (Value.int .i64)) hx (by rw [List.length_map, hl, Nat.mul_one]) (newsI hcl hl) (oneI _) h0 (by unfold maxLen; omega) (by omega) hbase _ rfl ?_
  intro g cp W1 ho1 hg hat hlt
  have hB : Below base W W1 := (Below.refl base W).grown hg hbase (fun z hz => by simp only [Value.ownBlock, Option.some.injEq] at hz; omega)
  simp only [Nat.zero_add]
  have hgb : base ≤ g ∧ (g = L ∨ W.heap.size ≤ g) := by
    rcases hat with e | e
    · simp only [Value.ownBlock, Option.some.injEq] at e; omega
    · omega
  refine h _ g W1 hB ⟨hB.os, hB.tape, hB.output, hB.size, fun C hC hne => ?_⟩ ?_ hgb
  · rw [hg.block C hC (by simp only [Value.ownBlock]; intro e; simp only [Option.some.injEq] at e; exact hne e)]
  · rcases ho1.2 with ⟨hv, _⟩ | ⟨g', cap', cur, hv, hg', hh, hl', _, hs', ht⟩
    · simp at hv
    · simp only [Value.slice.injEq, Option.some.injEq, Addr.mk.injEq, and_true, true_and] at hv
      obtain ⟨rfl, rfl⟩ := hv
      refine ⟨hl, .inr ⟨rfl, cur.toList, by unfold Cel; simpa using hh, fun i hi => ?_⟩⟩
      have h1 : (cur.toList.take ((0 + n) * 1))[i]? = (zs.map (Value.int .i64))[i]? := by rw [ht]; rfl
      rw [List.getElem?_take, if_pos (by omega)] at h1
      rw [h1]
      have hi2 : i < zs.length := by omega
      simp [hi2]
theorem ownx_cell {W : World} {B n i : Nat} {zs : List Int} (h : OwnX W (some ⟨B, 0, none⟩) B n zs) (hi : i < n) : W.cell? ⟨B, i, none⟩ = some (.int .i64 (zs[i]?.getD 0)) ∧ W.frozen? ⟨B, i, none⟩ = false := by
  rcases h.2 with h0 | ⟨_, cur, hc, hv⟩
  · omega
  · exact ⟨(hc.cell i).trans (hv i hi), hc.free i⟩
theorem ownx_put {W : World} {B n i : Nat} {zs : List Int} (h : OwnX W (some ⟨B, 0, none⟩) B n zs) (hi : i < n) (y : Int) : Ints (W.setCell ⟨B, i, none⟩ (.int .i64 y)) (some ⟨B, 0, none⟩) n (zs.set i y) := ints_set h.ints hi y
theorem dot_neg (xs ys : List Int) : ∀ k, dot xs (ys.map fun y => -y) k = -dot xs ys k
  | 0 => rfl
  | k + 1 => by
    have e : (ys.map fun y => -y)[k]?.getD 0 = -(ys[k]?.getD 0) := by
      rw [List.getElem?_map]
      cases ys[k]? <;> rfl
    simp only [dot, dot_neg xs ys k, e, Int.mul_neg]
    omega
theorem view_with {n m : Nat} {C D D' : List Int} {ss : List IV} {s : Int} {k : Nat} {E E' : List Int} (h : viewB n m C D ss s k E = true) (hD : betB 0 50 D' = true) (hE : allB 20000 E' = true) : viewB n m C D' ss s k E' = true := by
  unfold viewB trtB okN at h ⊢
  simp only [Bool.and_eq_true] at h ⊢
  obtain ⟨⟨h1, h2, h3⟩, h4, h5, h6, h7⟩ := h
  exact ⟨⟨h1, h2, hD⟩, h4, h5, h6, hE⟩
theorem allB_neg {M : Int} {E : List Int} (h : allB M E = true) : allB M (E.map fun y => -y) = true := by
  unfold allB at h ⊢
  rw [List.all_map, List.all_eq_true]
  rw [List.all_eq_true] at h
  intro x hx
  have := inB_iff.1 (h x hx)
  show inB (-x) (-M) M = true
  exact inB_iff.2 (by omega)
theorem view_parts {n m : Nat} {C D : List Int} {ss : List IV} {s : Int} {k : Nat} {E : List Int} (h : viewB n m C D ss s k E = true) : betB 0 50 D = true ∧ allB 20000 E = true := by
  unfold viewB trtB okN at h
  simp only [Bool.and_eq_true] at h
  exact ⟨h.1.2.2, h.2.2.2.2⟩
theorem keep_neg {n m : Nat} {C D : List Int} {ss : List IV} {s : Int} {k : Nat} {E : List Int} (h : keepB n m C D ss s k E = true) : keepB n m C D ss s k (E.map fun y => -y) = true := by
  unfold keepB at h ⊢
  simp only [Bool.and_eq_true] at h ⊢
  refine ⟨view_with h.1 (view_parts h.1).1 (allB_neg (view_parts h.1).2), ?_⟩
  have h2 := h.2
  unfold keepsB at h2 ⊢
  rw [List.all_eq_true] at h2 ⊢
  intro p hp
  have := inB_iff.1 (h2 p hp)
  rw [dot_neg]
  exact inB_iff.2 (by omega)
theorem keep_zero {n m : Nat} {C D : List Int} {ss : List IV} {s : Int} {k : Nat} {E : List Int} (h : keepB n m C D ss s k E = true) : keepB n m C D ss s k [0, 0, 0] = true := by
  have hg : 0 ≤ D[s.toNat]?.getD 0 := by
    by_cases hs : s.toNat < D.length
    · have hv : viewB n m C D ss s k E = true := by unfold keepB at h; simp only [Bool.and_eq_true] at h; exact h.1
      obtain ⟨_, _, _, _, _, _, _, _, _, hb⟩ := viewB_elim hv
      exact (hb _ hs).1
    · rw [List.getElem?_eq_none (by omega)]; simp
  unfold keepB at h ⊢
  simp only [Bool.and_eq_true] at h ⊢
  refine ⟨view_with h.1 (view_parts h.1).1 (by decide), ?_⟩
  unfold keepsB
  rw [List.all_eq_true]
  intro p hp
  have e : dot p.x [0, 0, 0] 3 = 0 := by simp [dot]
  rw [e]
  exact inB_iff.2 (by omega)
theorem keep_more {n m : Nat} {C D : List Int} {ss : List IV} {s : Int} {k : Nat} {E : List Int} (h : keepB n m C D ss s k E = true) (hl : s.toNat < D.length) (hm : D[s.toNat]?.getD 0 < 50) : keepB n m C (D.set s.toNat (D[s.toNat]?.getD 0 + 1)) ss s k E = true := by
  have hv : viewB n m C D ss s k E = true := by unfold keepB at h; simp only [Bool.and_eq_true] at h; exact h.1
  obtain ⟨_, _, _, _, _, _, _, _, _, hb⟩ := viewB_elim hv
  have h0 := (hb _ hl).1
  unfold keepB at h ⊢
  simp only [Bool.and_eq_true] at h ⊢
  refine ⟨view_with h.1 ?_ (view_parts h.1).2, ?_⟩
  · have hp := (view_parts h.1).1
    unfold betB at hp ⊢
    rw [List.all_eq_true] at hp ⊢
    intro x hx
    rcases List.mem_or_eq_of_mem_set hx with hx | rfl
    · exact hp x hx
    · exact inB_iff.2 (by omega)
  · have h2 := h.2
    unfold keepsB at h2 ⊢
    rw [List.all_eq_true] at h2 ⊢
    intro p hp
    have := inB_iff.1 (h2 p hp)
    rw [List.getElem?_set_self hl, Option.getD_some]
    exact inB_iff.2 (by omega)
theorem three_z {W : World} {B : Nat} (h : Cel W B [.int .i64 0, .int .i64 0, .int .i64 0] 3) : Ints W (some ⟨B, 0, none⟩) 3 [0, 0, 0] := ⟨rfl, fun i hi => ⟨B, 0, rfl, by
  rw [Nat.zero_add, h.cell i]
  match i, hi with
  | 0, _ => rfl
  | 1, _ => rfl
  | 2, _ => rfl⟩⟩
theorem one_z {W : World} {B : Nat} (h : Cel W B [.int .i64 0] 3) : Ints W (some ⟨B, 0, none⟩) 1 [0] := ⟨rfl, fun i hi => ⟨B, 0, rfl, by
  rw [Nat.zero_add, h.cell i]
  match i, hi with
  | 0, _ => rfl⟩⟩
theorem neg_take {E : List Int} {k : Nat} (hk : k < E.length) : (E.map fun y => -y).take (k + 1) = (E.map fun y => -y).take k ++ [-(E[k]?.getD 0)] := by
  rw [List.take_succ_eq_append_getElem (by simpa using hk), List.getElem_map, List.getElem?_eq_getElem hk]
  rfl

set_option maxHeartbeats 6400000 in
theorem walk (w : World) (a : Option Addr) (n cap : Nat) (A0 : List Int) (hA0 : BInts w a n A0) (hn : n ≤ cap ∧ cap ≤ maxLen) :
    Calls Try.prog 5 #[.slice a n cap] w fun e w' => e = .returned (.bool true) ∧ Below w.heap.size w w' := by
  obtain ⟨hn2, hn3⟩ := hn
  by_cases hn1 : n ≤ 1048576
  · go_enter Try.func5, Try.ntmps5
    go_wp2_with fail
    refine (dKeeps _ _ _ A0 _ hA0 hn2 hn1 hn3).mono ?_
    rintro ee w1 ⟨ba, bn, bc, ga, gn, gc, B, G, pa, pn, pc, ts, s, ea, en, ec, E, rfl, b1, hB, hG, hbn, hgn, hGb, hP, hpn, hpn1, hE, hen, hs0, hs3⟩
    have BB := b1
    clear b1
    have HP : Hid (ts.length = pn) := hpn
    clear hpn
    have al := (Below.refl (w1).heap.size (w1)).alloc (Nat.le_refl _) (.cells #[.slice ba bn bc, .slice ga gn gc] 45)
    replace BB := BB.trans (al.mono BB.size)
    replace hB := hB.below al
    replace hG := hG.below al
    replace hP := hP.below al
    replace hE := hE.below al
    clear al
    have q3 := Cel.new (w1) [.slice ba bn bc, .slice ga gn gc] 45
    have g3_0 := q3.cell 0
    have g3_1 := q3.cell 1
    simp only [List.getElem?_cons_zero, List.getElem?_cons_succ] at g3_0 g3_1
    go_wp2_with fail
    obtain ⟨W2, hW2⟩ : ∃ W, W = (w1).alloc (.cells #[.slice ba bn bc, .slice ga gn gc] 45) := ⟨_, rfl⟩
    rw [← hW2]
    rw [← hW2] at hB hG hP hE q3 BB g3_0 g3_1
    clear hW2
    obtain ⟨X3, hX3⟩ : ∃ x, x = w1.heap.size := ⟨_, rfl⟩
    rw [← hX3]
    rw [← hX3] at q3 g3_0 g3_1
    clear hX3
    refine (ikeep_any _ _ _ _ _ _ _ _ _ s _ _ _ B G E ts _ hB hG hE HP.out hP (by omega) (by omega) (by omega) (by omega)).mono ?_
    rintro ee w3 ⟨rfl, b2⟩
    clear g3_0 g3_1
    replace BB := BB.trans (b2.mono BB.size)
    replace hB := hB.below b2
    replace hG := hG.below b2
    replace hP := hP.below b2
    replace hE := hE.below b2
    replace q3 := q3.below b2
    clear b2
    have g3_0 := q3.cell 0
    have g3_1 := q3.cell 1
    simp only [List.getElem?_cons_zero, List.getElem?_cons_succ] at g3_0 g3_1
    go_wp2_with fail
    refine (skeep_any _ _ _ _ _ _ _ _ _ s _ _ _ B G E ts _ hB hG hE HP.out hP (by omega) (by omega) (by omega) (by omega)).mono ?_
    rintro ee w4 ⟨rfl, b3⟩
    clear g3_0 g3_1
    replace BB := BB.trans (b3.mono BB.size)
    replace hB := hB.below b3
    replace hG := hG.below b3
    replace hP := hP.below b3
    replace hE := hE.below b3
    replace q3 := q3.below b3
    clear b3
    cases hK0 : keepB bn gn B G ts s en E
    · clear hK0 hGb
      cases hT : trtB bn gn B G
      · have HT : Hid (trtB bn gn B G = false) := hT
        clear hT
        go_upto_region 8 with fail
        refine wp_region_ends (fun X => X.cell? ⟨X3, 0, none⟩ = some (.slice ba bn bc) ∧ X.cell? ⟨X3, 1, none⟩ = some (.slice ga gn gc)) (fun _ => True) 11 (by kernel_rfl) ?_
        have dr : Below w4.heap.size w4 w4.drew := (Below.refl _ _).drew
        replace BB := BB.trans (dr.mono BB.size)
        replace hB := hB.below dr
        replace hG := hG.below dr
        replace hP := hP.below dr
        replace hE := hE.below dr
        replace q3 := q3.below dr
        clear dr
        obtain ⟨V5, hV5⟩ : ∃ V, V = w4.drew := ⟨_, rfl⟩
        rw [← hV5]
        rw [← hV5] at hB hG hP hE q3 BB
        clear hV5
        have hSS : (V5.cell? ⟨X3, 0, none⟩ = some (.slice ba bn bc) ∧ V5.cell? ⟨X3, 1, none⟩ = some (.slice ga gn gc)) ∧ True := ⟨⟨q3.cell 0, q3.cell 1⟩, trivial⟩
        refine tkL (i := 0) rfl hSS ?_
        refine tkL (i := 2) rfl hSS ?_
        refine wpAnyE_one (i := 1) (by kernel_rfl) rfl (fun K hK => ?_)
        go_simp
        refine (itrt_any _ _ _ _ _ _ B G _ hB hG (by omega) (by omega)).mono ?_
        rintro ee w6 ⟨rfl, b9⟩
        rw [HT.out]
        replace BB := BB.trans (b9.mono BB.size)
        replace hB := hB.below b9
        replace hG := hG.below b9
        replace hP := hP.below b9
        replace hE := hE.below b9
        replace q3 := q3.below b9
        clear b9
        clear hSS
        have hSS : (w6.cell? ⟨X3, 0, none⟩ = some (.slice ba bn bc) ∧ w6.cell? ⟨X3, 1, none⟩ = some (.slice ga gn gc)) ∧ True := ⟨⟨q3.cell 0, q3.cell 1⟩, trivial⟩
        (try dsimp only)
        refine hK.out _ _ ⟨hSS.1, fun _ => trivial⟩ ?_
        clear hK K
        refine wpAnyE_one (i := 3) (by kernel_rfl) rfl (fun K hK => ?_)
        go_simp
        refine (strt_any _ _ _ _ _ _ B G _ hB hG (by omega) (by omega)).mono ?_
        rintro ee w7 ⟨rfl, b9⟩
        rw [HT.out]
        replace BB := BB.trans (b9.mono BB.size)
        replace hB := hB.below b9
        replace hG := hG.below b9
        replace hP := hP.below b9
        replace hE := hE.below b9
        replace q3 := q3.below b9
        clear b9
        clear hSS
        have hSS : (w7.cell? ⟨X3, 0, none⟩ = some (.slice ba bn bc) ∧ w7.cell? ⟨X3, 1, none⟩ = some (.slice ga gn gc)) ∧ True := ⟨⟨q3.cell 0, q3.cell 1⟩, trivial⟩
        (try dsimp only)
        refine hK.out _ _ ⟨hSS.1, fun _ => trivial⟩ ?_
        clear hK K
        refine tkL (i := 4) rfl hSS ?_
        refine tkL (i := 5) rfl hSS ?_
        refine wpAnyE_two (i := 6) (j := 7) (by kernel_rfl) rfl rfl (fun K hK => ?_) (fun K hK => ?_)
        · go_simp
          have al := (Below.refl w7.heap.size w7).alloc (Nat.le_refl _) (.cells #[.int .i64 0, .int .i64 0, .int .i64 0] 3)
          have l3 := Cel.new w7 [.int .i64 0, .int .i64 0, .int .i64 0] 3
          replace BB := BB.trans (al.mono BB.size)
          replace hB := hB.below al
          replace hG := hG.below al
          replace hP := hP.below al
          replace hE := hE.below al
          replace q3 := q3.below al
          clear al
          obtain ⟨V8, hV8⟩ : ∃ V, V = w7.alloc (.cells #[.int .i64 0, .int .i64 0, .int .i64 0] 3) := ⟨_, rfl⟩
          rw [← hV8]
          rw [← hV8] at hB hG hP hE l3 q3 BB
          clear hV8
          obtain ⟨xl3, hxl3⟩ : ∃ x, x = w7.heap.size := ⟨_, rfl⟩
          rw [← hxl3]
          rw [← hxl3] at l3
          clear hxl3
          clear hSS
          have hSS : (V8.cell? ⟨X3, 0, none⟩ = some (.slice ba bn bc) ∧ V8.cell? ⟨X3, 1, none⟩ = some (.slice ga gn gc)) ∧ True := ⟨⟨q3.cell 0, q3.cell 1⟩, trivial⟩
          refine hK.out _ _ ⟨hSS.1, fun _ => trivial⟩ ?_
          clear hK K
          refine wpAnyE_one (i := 7) (by kernel_rfl) rfl (fun K hK => ?_)
          go_simp
          have al := (Below.refl V8.heap.size V8).alloc (Nat.le_refl _) (.cells #[.int .i64 0] 3)
          have l1 := Cel.new V8 [.int .i64 0] 3
          replace BB := BB.trans (al.mono BB.size)
          replace hB := hB.below al
          replace hG := hG.below al
          replace hP := hP.below al
          replace hE := hE.below al
          replace l3 := l3.below al
          replace q3 := q3.below al
          clear al
          obtain ⟨V9, hV9⟩ : ∃ V, V = V8.alloc (.cells #[.int .i64 0] 3) := ⟨_, rfl⟩
          rw [← hV9]
          rw [← hV9] at hB hG hP hE l3 l1 q3 BB
          clear hV9
          obtain ⟨xl1, hxl1⟩ : ∃ x, x = V8.heap.size := ⟨_, rfl⟩
          rw [← hxl1]
          rw [← hxl1] at l1
          clear hxl1
          clear hSS
          have hSS : (V9.cell? ⟨X3, 0, none⟩ = some (.slice ba bn bc) ∧ V9.cell? ⟨X3, 1, none⟩ = some (.slice ga gn gc)) ∧ True := ⟨⟨q3.cell 0, q3.cell 1⟩, trivial⟩
          refine hK.out _ _ ⟨hSS.1, fun _ => trivial⟩ ?_
          clear hK K
          refine tkL (i := 8) rfl hSS ?_
          refine wpAnyE_one (i := 9) (by kernel_rfl) rfl (fun K hK => ?_)
          go_simp
          refine (itrt_any _ _ _ _ _ _ [0, 0, 0] [0] _ (three_z l3) (one_z l1) (by omega) (by omega)).mono ?_
          rintro ee w10 ⟨rfl, b9⟩
          rw [show trtB 3 1 [0, 0, 0] [0] = true from by decide]
          replace BB := BB.trans (b9.mono BB.size)
          replace hB := hB.below b9
          replace hG := hG.below b9
          replace hP := hP.below b9
          replace hE := hE.below b9
          replace l3 := l3.below b9
          replace l1 := l1.below b9
          replace q3 := q3.below b9
          clear b9
          clear hSS
          have hSS : (w10.cell? ⟨X3, 0, none⟩ = some (.slice ba bn bc) ∧ w10.cell? ⟨X3, 1, none⟩ = some (.slice ga gn gc)) ∧ True := ⟨⟨q3.cell 0, q3.cell 1⟩, trivial⟩
          (try dsimp only)
          refine hK.out _ _ ⟨hSS.1, fun _ => trivial⟩ ?_
          clear hK K
          refine tkL (i := 10) rfl hSS ?_
          refine wpAnyE_one (i := 11) (by kernel_rfl) rfl (fun K hK => ?_)
          go_simp
          refine hK.out _ _ ⟨hSS.1, fun _ => trivial⟩ ?_
          clear hK K
          refine wpAnyE_done (by kernel_rfl) ?_ _
          clear hSS
          go_wp2
          go_ret
          exact ⟨rfl, BB⟩
        · go_simp
          have al := (Below.refl w7.heap.size w7).alloc (Nat.le_refl _) (.cells #[.int .i64 0] 3)
          have l1 := Cel.new w7 [.int .i64 0] 3
          replace BB := BB.trans (al.mono BB.size)
          replace hB := hB.below al
          replace hG := hG.below al
          replace hP := hP.below al
          replace hE := hE.below al
          replace q3 := q3.below al
          clear al
          obtain ⟨V8, hV8⟩ : ∃ V, V = w7.alloc (.cells #[.int .i64 0] 3) := ⟨_, rfl⟩
          rw [← hV8]
          rw [← hV8] at hB hG hP hE l1 q3 BB
          clear hV8
          obtain ⟨xl1, hxl1⟩ : ∃ x, x = w7.heap.size := ⟨_, rfl⟩
          rw [← hxl1]
          rw [← hxl1] at l1
          clear hxl1
          clear hSS
          have hSS : (V8.cell? ⟨X3, 0, none⟩ = some (.slice ba bn bc) ∧ V8.cell? ⟨X3, 1, none⟩ = some (.slice ga gn gc)) ∧ True := ⟨⟨q3.cell 0, q3.cell 1⟩, trivial⟩
          refine hK.out _ _ ⟨hSS.1, fun _ => trivial⟩ ?_
          clear hK K
          refine wpAnyE_one (i := 6) (by kernel_rfl) rfl (fun K hK => ?_)
          go_simp
          have al := (Below.refl V8.heap.size V8).alloc (Nat.le_refl _) (.cells #[.int .i64 0, .int .i64 0, .int .i64 0] 3)
          have l3 := Cel.new V8 [.int .i64 0, .int .i64 0, .int .i64 0] 3
          replace BB := BB.trans (al.mono BB.size)
          replace hB := hB.below al
          replace hG := hG.below al
          replace hP := hP.below al
          replace hE := hE.below al
          replace l1 := l1.below al
          replace q3 := q3.below al
          clear al
          obtain ⟨V9, hV9⟩ : ∃ V, V = V8.alloc (.cells #[.int .i64 0, .int .i64 0, .int .i64 0] 3) := ⟨_, rfl⟩
          rw [← hV9]
          rw [← hV9] at hB hG hP hE l1 l3 q3 BB
          clear hV9
          obtain ⟨xl3, hxl3⟩ : ∃ x, x = V8.heap.size := ⟨_, rfl⟩
          rw [← hxl3]
          rw [← hxl3] at l3
          clear hxl3
          clear hSS
          have hSS : (V9.cell? ⟨X3, 0, none⟩ = some (.slice ba bn bc) ∧ V9.cell? ⟨X3, 1, none⟩ = some (.slice ga gn gc)) ∧ True := ⟨⟨q3.cell 0, q3.cell 1⟩, trivial⟩
          refine hK.out _ _ ⟨hSS.1, fun _ => trivial⟩ ?_
          clear hK K
          refine tkL (i := 8) rfl hSS ?_
          refine wpAnyE_one (i := 9) (by kernel_rfl) rfl (fun K hK => ?_)
          go_simp
          refine (itrt_any _ _ _ _ _ _ [0, 0, 0] [0] _ (three_z l3) (one_z l1) (by omega) (by omega)).mono ?_
          rintro ee w10 ⟨rfl, b9⟩
          rw [show trtB 3 1 [0, 0, 0] [0] = true from by decide]
          replace BB := BB.trans (b9.mono BB.size)
          replace hB := hB.below b9
          replace hG := hG.below b9
          replace hP := hP.below b9
          replace hE := hE.below b9
          replace l1 := l1.below b9
          replace l3 := l3.below b9
          replace q3 := q3.below b9
          clear b9
          clear hSS
          have hSS : (w10.cell? ⟨X3, 0, none⟩ = some (.slice ba bn bc) ∧ w10.cell? ⟨X3, 1, none⟩ = some (.slice ga gn gc)) ∧ True := ⟨⟨q3.cell 0, q3.cell 1⟩, trivial⟩
          (try dsimp only)
          refine hK.out _ _ ⟨hSS.1, fun _ => trivial⟩ ?_
          clear hK K
          refine tkL (i := 10) rfl hSS ?_
          refine wpAnyE_one (i := 11) (by kernel_rfl) rfl (fun K hK => ?_)
          go_simp
          refine hK.out _ _ ⟨hSS.1, fun _ => trivial⟩ ?_
          clear hK K
          refine wpAnyE_done (by kernel_rfl) ?_ _
          clear hSS
          go_wp2
          go_ret
          exact ⟨rfl, BB⟩
      · have HT : Hid (trtB bn gn B G = true) := hT
        clear hT
        go_upto_region 8 with fail
        refine wp_region_ends (fun X => X.cell? ⟨X3, 0, none⟩ = some (.slice ba bn bc) ∧ X.cell? ⟨X3, 1, none⟩ = some (.slice ga gn gc)) (fun _ => True) 11 (by kernel_rfl) ?_
        have dr : Below w4.heap.size w4 w4.drew := (Below.refl _ _).drew
        replace BB := BB.trans (dr.mono BB.size)
        replace hB := hB.below dr
        replace hG := hG.below dr
        replace hP := hP.below dr
        replace hE := hE.below dr
        replace q3 := q3.below dr
        clear dr
        obtain ⟨V5, hV5⟩ : ∃ V, V = w4.drew := ⟨_, rfl⟩
        rw [← hV5]
        rw [← hV5] at hB hG hP hE q3 BB
        clear hV5
        have hSS : (V5.cell? ⟨X3, 0, none⟩ = some (.slice ba bn bc) ∧ V5.cell? ⟨X3, 1, none⟩ = some (.slice ga gn gc)) ∧ True := ⟨⟨q3.cell 0, q3.cell 1⟩, trivial⟩
        refine tkL (i := 0) rfl hSS ?_
        refine tkL (i := 2) rfl hSS ?_
        refine wpAnyE_one (i := 1) (by kernel_rfl) rfl (fun K hK => ?_)
        go_simp
        refine (itrt_any _ _ _ _ _ _ B G _ hB hG (by omega) (by omega)).mono ?_
        rintro ee w6 ⟨rfl, b9⟩
        rw [HT.out]
        replace BB := BB.trans (b9.mono BB.size)
        replace hB := hB.below b9
        replace hG := hG.below b9
        replace hP := hP.below b9
        replace hE := hE.below b9
        replace q3 := q3.below b9
        clear b9
        clear hSS
        have hSS : (w6.cell? ⟨X3, 0, none⟩ = some (.slice ba bn bc) ∧ w6.cell? ⟨X3, 1, none⟩ = some (.slice ga gn gc)) ∧ True := ⟨⟨q3.cell 0, q3.cell 1⟩, trivial⟩
        (try dsimp only)
        refine hK.out _ _ ⟨hSS.1, fun _ => trivial⟩ ?_
        clear hK K
        refine wpAnyE_one (i := 3) (by kernel_rfl) rfl (fun K hK => ?_)
        go_simp
        refine (strt_any _ _ _ _ _ _ B G _ hB hG (by omega) (by omega)).mono ?_
        rintro ee w7 ⟨rfl, b9⟩
        rw [HT.out]
        replace BB := BB.trans (b9.mono BB.size)
        replace hB := hB.below b9
        replace hG := hG.below b9
        replace hP := hP.below b9
        replace hE := hE.below b9
        replace q3 := q3.below b9
        clear b9
        clear hSS
        have hSS : (w7.cell? ⟨X3, 0, none⟩ = some (.slice ba bn bc) ∧ w7.cell? ⟨X3, 1, none⟩ = some (.slice ga gn gc)) ∧ True := ⟨⟨q3.cell 0, q3.cell 1⟩, trivial⟩
        (try dsimp only)
        refine hK.out _ _ ⟨hSS.1, fun _ => trivial⟩ ?_
        clear hK K
        refine tkL (i := 4) rfl hSS ?_
        refine tkL (i := 5) rfl hSS ?_
        refine wpAnyE_two (i := 6) (j := 7) (by kernel_rfl) rfl rfl (fun K hK => ?_) (fun K hK => ?_)
        · go_simp
          have al := (Below.refl w7.heap.size w7).alloc (Nat.le_refl _) (.cells #[.int .i64 0, .int .i64 0, .int .i64 0] 3)
          have l3 := Cel.new w7 [.int .i64 0, .int .i64 0, .int .i64 0] 3
          replace BB := BB.trans (al.mono BB.size)
          replace hB := hB.below al
          replace hG := hG.below al
          replace hP := hP.below al
          replace hE := hE.below al
          replace q3 := q3.below al
          clear al
          obtain ⟨V8, hV8⟩ : ∃ V, V = w7.alloc (.cells #[.int .i64 0, .int .i64 0, .int .i64 0] 3) := ⟨_, rfl⟩
          rw [← hV8]
          rw [← hV8] at hB hG hP hE l3 q3 BB
          clear hV8
          obtain ⟨xl3, hxl3⟩ : ∃ x, x = w7.heap.size := ⟨_, rfl⟩
          rw [← hxl3]
          rw [← hxl3] at l3
          clear hxl3
          clear hSS
          have hSS : (V8.cell? ⟨X3, 0, none⟩ = some (.slice ba bn bc) ∧ V8.cell? ⟨X3, 1, none⟩ = some (.slice ga gn gc)) ∧ True := ⟨⟨q3.cell 0, q3.cell 1⟩, trivial⟩
          refine hK.out _ _ ⟨hSS.1, fun _ => trivial⟩ ?_
          clear hK K
          refine wpAnyE_one (i := 7) (by kernel_rfl) rfl (fun K hK => ?_)
          go_simp
          have al := (Below.refl V8.heap.size V8).alloc (Nat.le_refl _) (.cells #[.int .i64 0] 3)
          have l1 := Cel.new V8 [.int .i64 0] 3
          replace BB := BB.trans (al.mono BB.size)
          replace hB := hB.below al
          replace hG := hG.below al
          replace hP := hP.below al
          replace hE := hE.below al
          replace l3 := l3.below al
          replace q3 := q3.below al
          clear al
          obtain ⟨V9, hV9⟩ : ∃ V, V = V8.alloc (.cells #[.int .i64 0] 3) := ⟨_, rfl⟩
          rw [← hV9]
          rw [← hV9] at hB hG hP hE l3 l1 q3 BB
          clear hV9
          obtain ⟨xl1, hxl1⟩ : ∃ x, x = V8.heap.size := ⟨_, rfl⟩
          rw [← hxl1]
          rw [← hxl1] at l1
          clear hxl1
          clear hSS
          have hSS : (V9.cell? ⟨X3, 0, none⟩ = some (.slice ba bn bc) ∧ V9.cell? ⟨X3, 1, none⟩ = some (.slice ga gn gc)) ∧ True := ⟨⟨q3.cell 0, q3.cell 1⟩, trivial⟩
          refine hK.out _ _ ⟨hSS.1, fun _ => trivial⟩ ?_
          clear hK K
          refine tkL (i := 8) rfl hSS ?_
          refine wpAnyE_one (i := 9) (by kernel_rfl) rfl (fun K hK => ?_)
          go_simp
          refine (itrt_any _ _ _ _ _ _ [0, 0, 0] [0] _ (three_z l3) (one_z l1) (by omega) (by omega)).mono ?_
          rintro ee w10 ⟨rfl, b9⟩
          rw [show trtB 3 1 [0, 0, 0] [0] = true from by decide]
          replace BB := BB.trans (b9.mono BB.size)
          replace hB := hB.below b9
          replace hG := hG.below b9
          replace hP := hP.below b9
          replace hE := hE.below b9
          replace l3 := l3.below b9
          replace l1 := l1.below b9
          replace q3 := q3.below b9
          clear b9
          clear hSS
          have hSS : (w10.cell? ⟨X3, 0, none⟩ = some (.slice ba bn bc) ∧ w10.cell? ⟨X3, 1, none⟩ = some (.slice ga gn gc)) ∧ True := ⟨⟨q3.cell 0, q3.cell 1⟩, trivial⟩
          (try dsimp only)
          refine hK.out _ _ ⟨hSS.1, fun _ => trivial⟩ ?_
          clear hK K
          refine tkL (i := 10) rfl hSS ?_
          refine wpAnyE_one (i := 11) (by kernel_rfl) rfl (fun K hK => ?_)
          go_simp
          refine hK.out _ _ ⟨hSS.1, fun _ => trivial⟩ ?_
          clear hK K
          refine wpAnyE_done (by kernel_rfl) ?_ _
          clear hSS
          go_wp2
          go_ret
          exact ⟨rfl, BB⟩
        · go_simp
          have al := (Below.refl w7.heap.size w7).alloc (Nat.le_refl _) (.cells #[.int .i64 0] 3)
          have l1 := Cel.new w7 [.int .i64 0] 3
          replace BB := BB.trans (al.mono BB.size)
          replace hB := hB.below al
          replace hG := hG.below al
          replace hP := hP.below al
          replace hE := hE.below al
          replace q3 := q3.below al
          clear al
          obtain ⟨V8, hV8⟩ : ∃ V, V = w7.alloc (.cells #[.int .i64 0] 3) := ⟨_, rfl⟩
          rw [← hV8]
          rw [← hV8] at hB hG hP hE l1 q3 BB
          clear hV8
          obtain ⟨xl1, hxl1⟩ : ∃ x, x = w7.heap.size := ⟨_, rfl⟩
          rw [← hxl1]
          rw [← hxl1] at l1
          clear hxl1
          clear hSS
          have hSS : (V8.cell? ⟨X3, 0, none⟩ = some (.slice ba bn bc) ∧ V8.cell? ⟨X3, 1, none⟩ = some (.slice ga gn gc)) ∧ True := ⟨⟨q3.cell 0, q3.cell 1⟩, trivial⟩
          refine hK.out _ _ ⟨hSS.1, fun _ => trivial⟩ ?_
          clear hK K
          refine wpAnyE_one (i := 6) (by kernel_rfl) rfl (fun K hK => ?_)
          go_simp
          have al := (Below.refl V8.heap.size V8).alloc (Nat.le_refl _) (.cells #[.int .i64 0, .int .i64 0, .int .i64 0] 3)
          have l3 := Cel.new V8 [.int .i64 0, .int .i64 0, .int .i64 0] 3
          replace BB := BB.trans (al.mono BB.size)
          replace hB := hB.below al
          replace hG := hG.below al
          replace hP := hP.below al
          replace hE := hE.below al
          replace l1 := l1.below al
          replace q3 := q3.below al
          clear al
          obtain ⟨V9, hV9⟩ : ∃ V, V = V8.alloc (.cells #[.int .i64 0, .int .i64 0, .int .i64 0] 3) := ⟨_, rfl⟩
          rw [← hV9]
          rw [← hV9] at hB hG hP hE l1 l3 q3 BB
          clear hV9
          obtain ⟨xl3, hxl3⟩ : ∃ x, x = V8.heap.size := ⟨_, rfl⟩
          rw [← hxl3]
          rw [← hxl3] at l3
          clear hxl3
          clear hSS
          have hSS : (V9.cell? ⟨X3, 0, none⟩ = some (.slice ba bn bc) ∧ V9.cell? ⟨X3, 1, none⟩ = some (.slice ga gn gc)) ∧ True := ⟨⟨q3.cell 0, q3.cell 1⟩, trivial⟩
          refine hK.out _ _ ⟨hSS.1, fun _ => trivial⟩ ?_
          clear hK K
          refine tkL (i := 8) rfl hSS ?_
          refine wpAnyE_one (i := 9) (by kernel_rfl) rfl (fun K hK => ?_)
          go_simp
          refine (itrt_any _ _ _ _ _ _ [0, 0, 0] [0] _ (three_z l3) (one_z l1) (by omega) (by omega)).mono ?_
          rintro ee w10 ⟨rfl, b9⟩
          rw [show trtB 3 1 [0, 0, 0] [0] = true from by decide]
          replace BB := BB.trans (b9.mono BB.size)
          replace hB := hB.below b9
          replace hG := hG.below b9
          replace hP := hP.below b9
          replace hE := hE.below b9
          replace l1 := l1.below b9
          replace l3 := l3.below b9
          replace q3 := q3.below b9
          clear b9
          clear hSS
          have hSS : (w10.cell? ⟨X3, 0, none⟩ = some (.slice ba bn bc) ∧ w10.cell? ⟨X3, 1, none⟩ = some (.slice ga gn gc)) ∧ True := ⟨⟨q3.cell 0, q3.cell 1⟩, trivial⟩
          (try dsimp only)
          refine hK.out _ _ ⟨hSS.1, fun _ => trivial⟩ ?_
          clear hK K
          refine tkL (i := 10) rfl hSS ?_
          refine wpAnyE_one (i := 11) (by kernel_rfl) rfl (fun K hK => ?_)
          go_simp
          refine hK.out _ _ ⟨hSS.1, fun _ => trivial⟩ ?_
          clear hK K
          refine wpAnyE_done (by kernel_rfl) ?_ _
          clear hSS
          go_wp2
          go_ret
          exact ⟨rfl, BB⟩
    · have HK : Hid (keepB bn gn B G ts s en E = true) := hK0
      have hv : viewB bn gn B G ts s en E = true := by (have h := hK0; unfold keepB at h; simp only [Bool.and_eq_true] at h; exact h.1)
      obtain ⟨e1, _, e2, e3, _, e4, e5, e6, e8, e7⟩ := viewB_elim hv
      have HEb : Hid (bnd 20000 E) := e8
      clear e8
      have HE1 : Hid (bn = 3) := e1
      have HE6 : Hid (en = 3) := e6
      have en3 : 3 ≤ en := by omega
      clear hv hK0 e1 e6
      go_upto_region 9 with fail
      obtain ⟨u, rfl⟩ := Int.eq_ofNat_of_zero_le e4
      clear hs0 hs3
      have hGl := hG.1
      have hEl := hE.1
      have HGl : Hid (G.length = gn) := hGl
      have HEl : Hid (E.length = en) := hEl
      clear hGl hEl
      have hun : u < gn := by omega
      have HGb : Hid (0 ≤ G[u]?.getD 0 ∧ G[u]?.getD 0 ≤ 50) := e7 u (by rw [HGl.out]; exact hun)
      have e5' : (u : Int) < (gn : Int) := by omega
      clear e7 hGb
      go_cut [8] (fun v wx => ∃ P c8 B8, v = .pointer (some ⟨P, 0, none⟩) ∧ Cel wx P [.slice ba bn bc, .slice (some ⟨B8, 0, none⟩) gn c8] 45 ∧ OwnX wx (some ⟨B8, 0, none⟩) B8 gn G ∧ P ≠ B8 ∧ w4.heap.size ≤ P ∧ w4.heap.size ≤ B8 ∧ Below w4.heap.size w4 wx)
      case first =>
        clear hB hP hE BB HK HP HEl HGb
        have BV := Below.refl w4.heap.size w4
        have x3C := q3.lt
        refine wp_region_ends (fun X => X.cell? ⟨X3, 0, none⟩ = some (.slice ba bn bc) ∧ X.cell? ⟨X3, 1, none⟩ = some (.slice ga gn gc)) (fun _ => True) 8 (by kernel_rfl) ?_
        have dr : Below w4.heap.size w4 w4.drew := (Below.refl _ _).drew
        replace BV := BV.trans (dr.mono BV.size)
        replace hG := hG.below dr
        replace q3 := q3.below dr
        clear dr
        obtain ⟨V0, hV0⟩ : ∃ V, V = w4.drew := ⟨_, rfl⟩
        rw [← hV0]
        rw [← hV0] at hG q3 BV
        clear hV0
        have hSS : (V0.cell? ⟨X3, 0, none⟩ = some (.slice ba bn bc) ∧ V0.cell? ⟨X3, 1, none⟩ = some (.slice ga gn gc)) ∧ True := ⟨⟨q3.cell 0, q3.cell 1⟩, trivial⟩
        refine tkL (i := 0) rfl hSS ?_
        refine tkL (i := 3) rfl hSS ?_
        refine tkL (i := 1) rfl hSS ?_
        refine tkL (i := 4) rfl hSS ?_
        skip
        refine wpAnyE_two (i := 2) (j := 7) (by kernel_rfl) rfl rfl (fun K hK => ?_) (fun K hK => ?_)
        · go_simp
          have al := (Below.refl V0.heap.size V0).alloc (Nat.le_refl _) (.cells #[] 3)
          have y2 := BV.size
          have sz := al.size
          replace BV := BV.trans (al.mono BV.size)
          replace hG := hG.below al
          replace q3 := q3.below al
          have ol := World.ownsRow_lit (base := w4.heap.size) (e := 3) (size := 1) V0 #[] 0 y2 (by unfold maxLen; omega) rfl
          obtain ⟨V1, hV1⟩ : ∃ V, V = V0.alloc (.cells #[] 3) := ⟨_, rfl⟩
          rw [← hV1]
          have zV1 : V0.heap.size + 1 ≤ V1.heap.size := by rw [hV1, World.size_alloc]; omega
          rw [← hV1] at hG q3 BV ol
          clear hV1
          obtain ⟨L, hL⟩ : ∃ x, x = V0.heap.size := ⟨_, rfl⟩
          rw [← hL]
          rw [← hL] at ol
          have yL : w4.heap.size ≤ L := by omega
          have yL2 : L < V1.heap.size := by omega
          clear hL al sz y2
          clear hSS
          have hSS : (V1.cell? ⟨X3, 0, none⟩ = some (.slice ba bn bc) ∧ V1.cell? ⟨X3, 1, none⟩ = some (.slice ga gn gc)) ∧ True := ⟨⟨q3.cell 0, q3.cell 1⟩, trivial⟩
          refine hK.out _ _ ⟨hSS.1, fun _ => trivial⟩ ?_
          clear hK K
          refine wpAnyE_two (i := 5) (j := 7) (by kernel_rfl) rfl rfl (fun K hK => ?_) (fun K hK => ?_)
          · rw [if_pos (by rfl)]
            have y2 := BV.size
            refine wp_copyG (.tmp 48) (.tmp 50) rfl w4.heap.size L ga gn gc G (by rfl) ol (by rfl) hG (by omega) (by omega) y2 yL ?_
            intro c8 B8 V2 hBn hTn ox hor
            have sz := hTn.size
            replace BV := BV.trans hBn
            have q3' := q3.touch hTn (fun e => by omega)
            clear q3
            have q3 := q3'
            clear q3'
            have yB : w4.heap.size ≤ B8 := hor.1
            have yB2 : B8 < V2.heap.size := ox.lt (by omega)
            clear hG ol hBn hTn hor y2 sz
            clear hSS
            have hSS : (V2.cell? ⟨X3, 0, none⟩ = some (.slice ba bn bc) ∧ V2.cell? ⟨X3, 1, none⟩ = some (.slice ga gn gc)) ∧ True := ⟨⟨q3.cell 0, q3.cell 1⟩, trivial⟩
            refine hK.out _ _ ⟨hSS.1, fun _ => trivial⟩ ?_
            clear hK K
            refine tkL (i := 6) rfl hSS ?_
            refine wpAnyE_one (i := 7) (by kernel_rfl) rfl (fun K hK => ?_)
            go_simp
            have al := (Below.refl V2.heap.size V2).alloc (Nat.le_refl _) (.cells #[.slice none 0 0, .slice none 0 0] 45)
            have y2 := BV.size
            have sz := al.size
            replace BV := BV.trans (al.mono BV.size)
            replace q3 := q3.below al
            replace ox := ox.below al
            have qp := Cel.new V2 [.slice none 0 0, .slice none 0 0] 45
            obtain ⟨V3, hV3⟩ : ∃ V, V = V2.alloc (.cells #[.slice none 0 0, .slice none 0 0] 45) := ⟨_, rfl⟩
            rw [← hV3]
            have zV3 : V2.heap.size + 1 ≤ V3.heap.size := by rw [hV3, World.size_alloc]; omega
            rw [← hV3] at q3 BV ox qp
            clear hV3
            obtain ⟨P, hP⟩ : ∃ x, x = V2.heap.size := ⟨_, rfl⟩
            rw [← hP]
            rw [← hP] at qp
            have yP : w4.heap.size ≤ P := by omega
            have yP2 : P < V3.heap.size := by omega
            have yPB : P ≠ B8 := by omega
            clear hP al sz y2
            clear hSS
            have hSS : (V3.cell? ⟨X3, 0, none⟩ = some (.slice ba bn bc) ∧ V3.cell? ⟨X3, 1, none⟩ = some (.slice ga gn gc)) ∧ True := ⟨⟨q3.cell 0, q3.cell 1⟩, trivial⟩
            refine hK.out _ _ ⟨hSS.1, fun _ => trivial⟩ ?_
            clear hK K
            refine wpAnyE_one (i := 8) (by kernel_rfl) rfl (fun K hK => ?_)
            have g0 := qp.cell 0
            have g1 := qp.cell 1
            have h0 := qp.free 0
            have h1 := qp.free 1
            have lq := qp.lt
            simp only [List.getElem?_cons_zero, List.getElem?_cons_succ] at g0 g1
            go_simp
            clear g0 g1 h0 h1 lq hSS
            replace qp := qp.set 0 (.slice ba bn bc)
            replace q3 := q3.setOther (B' := P) (by omega) 0 (.slice ba bn bc)
            replace ox := ox.setOther (X := P) (fun _ => yPB) 0 (.slice ba bn bc)
            replace BV := BV.setCell (p := ⟨P, 0, none⟩) (by simp only []; omega) (.slice ba bn bc)
            replace qp := qp.set 1 (.slice (some ⟨B8, 0, none⟩) gn c8)
            replace q3 := q3.setOther (B' := P) (by omega) 1 (.slice (some ⟨B8, 0, none⟩) gn c8)
            replace ox := ox.setOther (X := P) (fun _ => yPB) 1 (.slice (some ⟨B8, 0, none⟩) gn c8)
            replace BV := BV.setCell (p := ⟨P, 1, none⟩) (by simp only []; omega) (.slice (some ⟨B8, 0, none⟩) gn c8)
            simp only [List.set_cons_succ, List.set_cons_zero] at qp
            have hSS : (World.cell? _ ⟨X3, 0, none⟩ = some (.slice ba bn bc) ∧ World.cell? _ ⟨X3, 1, none⟩ = some (.slice ga gn gc)) ∧ True := ⟨⟨q3.cell 0, q3.cell 1⟩, trivial⟩
            refine hK.out _ _ ⟨hSS.1, fun _ => trivial⟩ ?_
            clear hK K
            refine wpAnyE_done (by kernel_rfl) ?_ _
            clear hSS
            go_wp2_with fail
            go_meet
            case rel => exact ⟨P, c8, B8, rfl, qp, ox, yPB, yP, yB, BV⟩
          · go_simp
            have al := (Below.refl V1.heap.size V1).alloc (Nat.le_refl _) (.cells #[.slice none 0 0, .slice none 0 0] 45)
            have y2 := BV.size
            have sz := al.size
            replace BV := BV.trans (al.mono BV.size)
            replace hG := hG.below al
            replace q3 := q3.below al
            replace ol := own_belowL ol al
            have qp := Cel.new V1 [.slice none 0 0, .slice none 0 0] 45
            obtain ⟨V2, hV2⟩ : ∃ V, V = V1.alloc (.cells #[.slice none 0 0, .slice none 0 0] 45) := ⟨_, rfl⟩
            rw [← hV2]
            have zV2 : V1.heap.size + 1 ≤ V2.heap.size := by rw [hV2, World.size_alloc]; omega
            rw [← hV2] at hG q3 BV ol qp
            clear hV2
            obtain ⟨P, hP⟩ : ∃ x, x = V1.heap.size := ⟨_, rfl⟩
            rw [← hP]
            rw [← hP] at qp
            have yP : w4.heap.size ≤ P := by omega
            have yP2 : P < V2.heap.size := by omega
            have yPL : P ≠ L := by omega
            clear hP al sz y2
            clear hSS
            have hSS : (V2.cell? ⟨X3, 0, none⟩ = some (.slice ba bn bc) ∧ V2.cell? ⟨X3, 1, none⟩ = some (.slice ga gn gc)) ∧ True := ⟨⟨q3.cell 0, q3.cell 1⟩, trivial⟩
            refine hK.out _ _ ⟨hSS.1, fun _ => trivial⟩ ?_
            clear hK K
            refine wpAnyE_one (i := 5) (by kernel_rfl) rfl (fun K hK => ?_)
            rw [if_pos (by rfl)]
            have y2 := BV.size
            refine wp_copyG (.tmp 48) (.tmp 50) rfl w4.heap.size L ga gn gc G (by rfl) ol (by rfl) hG (by omega) (by omega) y2 yL ?_
            intro c8 B8 V3 hBn hTn ox hor
            have sz := hTn.size
            replace BV := BV.trans hBn
            have q3' := q3.touch hTn (fun e => by omega)
            clear q3
            have q3 := q3'
            clear q3'
            have yB : w4.heap.size ≤ B8 := hor.1
            have yB2 : B8 < V3.heap.size := ox.lt (by omega)
            replace qp := qp.touch hTn (fun e => by omega)
            have yPB : P ≠ B8 := by rcases hor.2 with h | h <;> omega
            clear hG ol hBn hTn hor y2 sz
            clear hSS
            have hSS : (V3.cell? ⟨X3, 0, none⟩ = some (.slice ba bn bc) ∧ V3.cell? ⟨X3, 1, none⟩ = some (.slice ga gn gc)) ∧ True := ⟨⟨q3.cell 0, q3.cell 1⟩, trivial⟩
            refine hK.out _ _ ⟨hSS.1, fun _ => trivial⟩ ?_
            clear hK K
            refine tkL (i := 6) rfl hSS ?_
            refine wpAnyE_one (i := 8) (by kernel_rfl) rfl (fun K hK => ?_)
            have g0 := qp.cell 0
            have g1 := qp.cell 1
            have h0 := qp.free 0
            have h1 := qp.free 1
            have lq := qp.lt
            simp only [List.getElem?_cons_zero, List.getElem?_cons_succ] at g0 g1
            go_simp
            clear g0 g1 h0 h1 lq hSS
            replace qp := qp.set 0 (.slice ba bn bc)
            replace q3 := q3.setOther (B' := P) (by omega) 0 (.slice ba bn bc)
            replace ox := ox.setOther (X := P) (fun _ => yPB) 0 (.slice ba bn bc)
            replace BV := BV.setCell (p := ⟨P, 0, none⟩) (by simp only []; omega) (.slice ba bn bc)
            replace qp := qp.set 1 (.slice (some ⟨B8, 0, none⟩) gn c8)
            replace q3 := q3.setOther (B' := P) (by omega) 1 (.slice (some ⟨B8, 0, none⟩) gn c8)
            replace ox := ox.setOther (X := P) (fun _ => yPB) 1 (.slice (some ⟨B8, 0, none⟩) gn c8)
            replace BV := BV.setCell (p := ⟨P, 1, none⟩) (by simp only []; omega) (.slice (some ⟨B8, 0, none⟩) gn c8)
            simp only [List.set_cons_succ, List.set_cons_zero] at qp
            have hSS : (World.cell? _ ⟨X3, 0, none⟩ = some (.slice ba bn bc) ∧ World.cell? _ ⟨X3, 1, none⟩ = some (.slice ga gn gc)) ∧ True := ⟨⟨q3.cell 0, q3.cell 1⟩, trivial⟩
            refine hK.out _ _ ⟨hSS.1, fun _ => trivial⟩ ?_
            clear hK K
            refine wpAnyE_done (by kernel_rfl) ?_ _
            clear hSS
            go_wp2_with fail
            go_meet
            case rel => exact ⟨P, c8, B8, rfl, qp, ox, yPB, yP, yB, BV⟩
        · go_simp
          have al := (Below.refl V0.heap.size V0).alloc (Nat.le_refl _) (.cells #[.slice none 0 0, .slice none 0 0] 45)
          have y2 := BV.size
          have sz := al.size
          replace BV := BV.trans (al.mono BV.size)
          replace hG := hG.below al
          replace q3 := q3.below al
          have qp := Cel.new V0 [.slice none 0 0, .slice none 0 0] 45
          obtain ⟨V1, hV1⟩ : ∃ V, V = V0.alloc (.cells #[.slice none 0 0, .slice none 0 0] 45) := ⟨_, rfl⟩
          rw [← hV1]
          have zV1 : V0.heap.size + 1 ≤ V1.heap.size := by rw [hV1, World.size_alloc]; omega
          rw [← hV1] at hG q3 BV qp
          clear hV1
          obtain ⟨P, hP⟩ : ∃ x, x = V0.heap.size := ⟨_, rfl⟩
          rw [← hP]
          rw [← hP] at qp
          have yP : w4.heap.size ≤ P := by omega
          have yP2 : P < V1.heap.size := by omega
          clear hP al sz y2
          clear hSS
          have hSS : (V1.cell? ⟨X3, 0, none⟩ = some (.slice ba bn bc) ∧ V1.cell? ⟨X3, 1, none⟩ = some (.slice ga gn gc)) ∧ True := ⟨⟨q3.cell 0, q3.cell 1⟩, trivial⟩
          refine hK.out _ _ ⟨hSS.1, fun _ => trivial⟩ ?_
          clear hK K
          refine wpAnyE_one (i := 2) (by kernel_rfl) rfl (fun K hK => ?_)
          go_simp
          have al := (Below.refl V1.heap.size V1).alloc (Nat.le_refl _) (.cells #[] 3)
          have y2 := BV.size
          have sz := al.size
          replace BV := BV.trans (al.mono BV.size)
          replace hG := hG.below al
          replace q3 := q3.below al
          replace qp := qp.below al
          have ol := World.ownsRow_lit (base := w4.heap.size) (e := 3) (size := 1) V1 #[] 0 y2 (by unfold maxLen; omega) rfl
          obtain ⟨V2, hV2⟩ : ∃ V, V = V1.alloc (.cells #[] 3) := ⟨_, rfl⟩
          rw [← hV2]
          have zV2 : V1.heap.size + 1 ≤ V2.heap.size := by rw [hV2, World.size_alloc]; omega
          rw [← hV2] at hG q3 BV ol qp
          clear hV2
          obtain ⟨L, hL⟩ : ∃ x, x = V1.heap.size := ⟨_, rfl⟩
          rw [← hL]
          rw [← hL] at ol
          have yL : w4.heap.size ≤ L := by omega
          have yL2 : L < V2.heap.size := by omega
          have yPL : P ≠ L := by omega
          clear hL al sz y2
          clear hSS
          have hSS : (V2.cell? ⟨X3, 0, none⟩ = some (.slice ba bn bc) ∧ V2.cell? ⟨X3, 1, none⟩ = some (.slice ga gn gc)) ∧ True := ⟨⟨q3.cell 0, q3.cell 1⟩, trivial⟩
          refine hK.out _ _ ⟨hSS.1, fun _ => trivial⟩ ?_
          clear hK K
          refine wpAnyE_one (i := 5) (by kernel_rfl) rfl (fun K hK => ?_)
          rw [if_pos (by rfl)]
          have y2 := BV.size
          refine wp_copyG (.tmp 48) (.tmp 50) rfl w4.heap.size L ga gn gc G (by rfl) ol (by rfl) hG (by omega) (by omega) y2 yL ?_
          intro c8 B8 V3 hBn hTn ox hor
          have sz := hTn.size
          replace BV := BV.trans hBn
          have q3' := q3.touch hTn (fun e => by omega)
          clear q3
          have q3 := q3'
          clear q3'
          have yB : w4.heap.size ≤ B8 := hor.1
          have yB2 : B8 < V3.heap.size := ox.lt (by omega)
          replace qp := qp.touch hTn (fun e => by omega)
          have yPB : P ≠ B8 := by rcases hor.2 with h | h <;> omega
          clear hG ol hBn hTn hor y2 sz
          clear hSS
          have hSS : (V3.cell? ⟨X3, 0, none⟩ = some (.slice ba bn bc) ∧ V3.cell? ⟨X3, 1, none⟩ = some (.slice ga gn gc)) ∧ True := ⟨⟨q3.cell 0, q3.cell 1⟩, trivial⟩
          refine hK.out _ _ ⟨hSS.1, fun _ => trivial⟩ ?_
          clear hK K
          refine tkL (i := 6) rfl hSS ?_
          refine wpAnyE_one (i := 8) (by kernel_rfl) rfl (fun K hK => ?_)
          have g0 := qp.cell 0
          have g1 := qp.cell 1
          have h0 := qp.free 0
          have h1 := qp.free 1
          have lq := qp.lt
          simp only [List.getElem?_cons_zero, List.getElem?_cons_succ] at g0 g1
          go_simp
          clear g0 g1 h0 h1 lq hSS
          replace qp := qp.set 0 (.slice ba bn bc)
          replace q3 := q3.setOther (B' := P) (by omega) 0 (.slice ba bn bc)
          replace ox := ox.setOther (X := P) (fun _ => yPB) 0 (.slice ba bn bc)
          replace BV := BV.setCell (p := ⟨P, 0, none⟩) (by simp only []; omega) (.slice ba bn bc)
          replace qp := qp.set 1 (.slice (some ⟨B8, 0, none⟩) gn c8)
          replace q3 := q3.setOther (B' := P) (by omega) 1 (.slice (some ⟨B8, 0, none⟩) gn c8)
          replace ox := ox.setOther (X := P) (fun _ => yPB) 1 (.slice (some ⟨B8, 0, none⟩) gn c8)
          replace BV := BV.setCell (p := ⟨P, 1, none⟩) (by simp only []; omega) (.slice (some ⟨B8, 0, none⟩) gn c8)
          simp only [List.set_cons_succ, List.set_cons_zero] at qp
          have hSS : (World.cell? _ ⟨X3, 0, none⟩ = some (.slice ba bn bc) ∧ World.cell? _ ⟨X3, 1, none⟩ = some (.slice ga gn gc)) ∧ True := ⟨⟨q3.cell 0, q3.cell 1⟩, trivial⟩
          refine hK.out _ _ ⟨hSS.1, fun _ => trivial⟩ ?_
          clear hK K
          refine wpAnyE_done (by kernel_rfl) ?_ _
          clear hSS
          go_wp2_with fail
          go_meet
          case rel => exact ⟨P, c8, B8, rfl, qp, ox, yPB, yP, yB, BV⟩
      case rest =>
        obtain ⟨P, c8, B8, rfl, qp, ox, yPB, yP, yB, b8⟩ := hcut
        obtain ⟨hy0, hy1⟩ := HGb.out
        have d1 := (ownx_cell ox hun).1
        have d2 := (ownx_cell ox hun).2
        have HKm : Hid (G[u]?.getD 0 < 50 → keepB bn gn B (G.set u (G[u]?.getD 0 + 1)) ts (u : Int) en E = true) := fun h => keep_more (s := (u : Int)) HK.out (by rw [HGl.out]; exact hun) h
        obtain ⟨y, hy⟩ : ∃ y, y = G[u]?.getD 0 := ⟨_, rfl⟩
        have HyG : Hid (y = G[u]?.getD 0) := hy
        rw [← hy] at hy0 hy1 d1 HKm
        clear hy HGb
        have p0 := qp.cell 0
        have p1 := qp.cell 1
        simp only [List.getElem?_cons_zero, List.getElem?_cons_succ] at p0 p1
        have lB := ox.lt (by omega)
        by_cases hlt0 : y < 50
        · have HKD : Hid (keepB bn gn B (G.set u (y + 1)) ts (u : Int) en E = true) := HKm.out hlt0
          clear HKm
          go_upto_region 11 with fail
          skip
          refine wp_region_ends (fun X => X.cell? ⟨P, 0, none⟩ = some (.slice ba bn bc) ∧ X.cell? ⟨P, 1, none⟩ = some (.slice (some ⟨B8, 0, none⟩) gn c8)) (fun X => X.cell? ⟨B8, u, none⟩ = some (.int .i64 y)) 10 (by kernel_rfl) ?_
          have dr : Below wc.heap.size wc wc.drew := (Below.refl _ _).drew
          replace b8 := b8.trans (dr.mono b8.size)
          replace qp := qp.below dr
          replace ox := ox.below dr
          clear d1 d2 p0 p1 dr lB
          obtain ⟨V0, hV0⟩ : ∃ V, V = wc.drew := ⟨_, rfl⟩
          rw [← hV0]
          rw [← hV0] at b8 qp ox
          clear hV0
          have d1 := (ownx_cell ox hun).1
          have d2 := (ownx_cell ox hun).2
          rw [← HyG.out] at d1
          have lB := ox.lt (by omega)
          have wy : IntKind.i64.wrap (y + 1) = y + 1 := wrap_id (by omega) (by omega)
          have hSS : (fun X : World => X.cell? ⟨P, 0, none⟩ = some (.slice ba bn bc) ∧ X.cell? ⟨P, 1, none⟩ = some (.slice (some ⟨B8, 0, none⟩) gn c8)) V0 ∧ (fun X : World => X.cell? ⟨B8, u, none⟩ = some (.int .i64 y)) V0 := ⟨⟨qp.cell 0, qp.cell 1⟩, d1⟩
          refine tkL (i := 0) rfl hSS ?_
          refine tkL (i := 1) rfl hSS ?_
          refine tkL (i := 2) rfl hSS ?_
          refine tkL (i := 3) rfl hSS ?_
          refine tkL (i := 4) rfl hSS ?_
          refine tkL (i := 5) rfl hSS ?_
          refine tkL (i := 6) rfl hSS ?_
          refine tkM (i := 7) rfl rfl hSS ?_
          refine tkL (i := 8) rfl hSS ?_
          refine wpAnyE_one (i := 9) (by kernel_rfl) rfl (fun K hK => ?_)
          go_simp
          refine hK.out _ _ ⟨hSS.1, fun _ => hSS.2⟩ ?_
          clear hK K hSS
          refine wpAnyE_one (i := 10) (by kernel_rfl) rfl (fun K hK => ?_)
          go_simp
          clear d1 d2
          have hD := ownx_put ox hun (y + 1)
          replace qp := qp.setOther (B' := B8) yPB u (.int .i64 (y + 1))
          replace b8 := b8.setCell (p := ⟨B8, u, none⟩) (by simp only []; omega) (.int .i64 (y + 1))
          refine hK.out _ _ ⟨⟨qp.cell 0, qp.cell 1⟩, fun h => absurd h (by decide)⟩ ?_
          clear hK K
          refine wpAnyE_done (by kernel_rfl) ?_ _
          clear ox lB
          obtain ⟨W9, hW9⟩ : ∃ V, V = V0.setCell ⟨B8, u, none⟩ (.int .i64 (y + 1)) := ⟨_, rfl⟩
          rw [← hW9]
          rw [← hW9] at hD qp b8
          clear hW9
          replace BB := BB.trans (b8.mono BB.size)
          replace hB := hB.below b8
          replace hG := hG.below b8
          replace hP := hP.below b8
          replace hE := hE.below b8
          replace q3 := q3.below b8
          clear b8
          obtain ⟨i0, hi, hz0, hz1, hz2⟩ := info_parts Try.infoInt
          go_upto_region 13 with fail
          go_wp2_with fail
          go_loopw [9, 10] (fun v i wr => ∃ (k : Nat) (xs : List Int), k ≤ en ∧ i = .int .i64 k ∧ xs = (E.map fun y => -y).take k ∧ JA W9 v xs wr) (fun _ i _ => en - (intOf i).toNat)
          case atStart => exact ⟨0, [], by omega, rfl, rfl, JA.lit _⟩
          case round =>
            obtain ⟨k, xs, hk, rfl, hxs, j⟩ := hrel
            have HX : Hid (xs = (E.map fun y => -y).take k) := hxs
            clear hxs
            have hb := j.b
            replace BB := BB.trans (hb.mono BB.size)
            replace hB := hB.below hb
            replace hG := hG.below hb
            replace hP := hP.below hb
            replace hE := hE.below hb
            replace hD := hD.below hb
            replace q3 := q3.below hb
            replace qp := qp.below hb
            clear hb
            by_cases hlt : k < en
            · have hk' : (k : Int) < (en : Int) := by omega
              obtain ⟨b5, o5, rfl, hcE⟩ := hE.pos (by omega)
              have dE : wr.cell? ⟨b5, o5 + k, none⟩ = some (.int .i64 (E[k]?.getD 0)) := hcE k hlt
              have be := HEb.out k
              have HXk : Hid ((E.map fun y => -y).take (k + 1) = (E.map fun y => -y).take k ++ [-(E[k]?.getD 0)]) := neg_take (by rw [HEl.out]; exact hlt)
              obtain ⟨y5, hy5⟩ : ∃ y, y = E[k]?.getD 0 := ⟨_, rfl⟩
              rw [← hy5] at dE be HXk
              obtain ⟨be1, be2⟩ := be
              have wy5 : IntKind.i64.wrap (-y5) = -y5 := wrap_id (by omega) (by omega)
              clear hcE hy5
              have hlen : xs.length = k := by (rw [HX.out, List.length_take, List.length_map, HEl.out]; omega)
              have HLen : Hid (xs.length = k) := hlen
              clear hlen hB hD hP hE q3 qp BB
              obtain ⟨va', cap9, e9, hle9, _, _⟩ := j.ints
              have hsz := j.b.size
              rw [HLen.out] at e9
              subst e9
              have ho := (j.alloc (.cells #[.int .i64 (-y5)] 3)).o
              rw [HLen.out] at ho
              go_wp2_with (at_builtin; refine wpList_append_lies _ rfl (.tmp 76) (.tmp 82) 26 rfl W9.heap.size 3 i0 _ 1 8 Try.underlying26 hi hz0 hz1 hz2 rfl (by omega) (.slice va' k cap9) k (xs.map (Value.int .i64)) (by rfl) ho ⟨wr.heap.size, 0, none⟩ 1 1 [.int .i64 (-y5)] (by rfl) (by rfl) (World.news_of_block (cs := #[.int .i64 (-y5)]) (t := 3) (fr := (0, 0)) (heap_alloc_new wr _)) (by simp [Value.oneCell']) (by omega) (by unfold maxLen; omega) (by omega) (by simp; omega) (wr.heap.size + 1) (by rw [World.size_alloc]) ?_)
              intro g9 cp w10 hown hgrow _ _
              have j10 := j.app HLen.out hown hgrow
              clear hown hgrow j
              go_wp2
              go_roundw
              case rel => exact ⟨k + 1, _, by omega, by go_num, by rw [HXk.out, HX.out], j10⟩
              case measure => simp [intOf]; omega
            · have hk' : ¬ (k : Int) < (en : Int) := by omega
              have hxs : xs = E.map fun y => -y := by (rw [HX.out, List.take_of_length_le (by rw [List.length_map, HEl.out]; omega)])
              subst hxs
              obtain ⟨va', cap9, e9, hle9, hI, _⟩ := j.ints
              have hln : (E.map fun y => -y).length = en := by rw [List.length_map]; exact HEl.out
              rw [hln] at e9 hI
              subst e9
              clear j HX hln hle9
              have g3_0 := q3.cell 0
              have g3_1 := q3.cell 1
              have g8_0 := qp.cell 0
              have g8_1 := qp.cell 1
              simp only [List.getElem?_cons_zero, List.getElem?_cons_succ] at g3_0 g3_1 g8_0 g8_1
              go_wp2_with fail
              refine (ikeep_any _ _ _ _ _ _ _ _ _ (u : Int) _ _ _ B (G.set u (y + 1)) E ts _ hB hD hE HP.out hP (by omega) (by omega) (by omega) (by omega)).mono ?_
              rintro ee w5 ⟨rfl, b9⟩
              rw [HKD.out]
              clear g3_0 g3_1 g8_0 g8_1
              replace BB := BB.trans (b9.mono BB.size)
              replace hB := hB.below b9
              replace hG := hG.below b9
              replace hP := hP.below b9
              replace hE := hE.below b9
              replace hD := hD.below b9
              replace hI := hI.below b9
              replace q3 := q3.below b9
              replace qp := qp.below b9
              clear b9
              have g3_0 := q3.cell 0
              have g3_1 := q3.cell 1
              have g8_0 := qp.cell 0
              have g8_1 := qp.cell 1
              simp only [List.getElem?_cons_zero, List.getElem?_cons_succ] at g3_0 g3_1 g8_0 g8_1
              go_wp2_with fail
              refine (ikeep_any _ _ _ _ _ _ _ _ _ (u : Int) _ _ _ B G (E.map fun y => -y) ts _ hB hG hI HP.out hP (by omega) (by omega) (by omega) (by omega)).mono ?_
              rintro ee w6 ⟨rfl, b9⟩
              rw [keep_neg HK.out]
              clear g3_0 g3_1 g8_0 g8_1
              replace BB := BB.trans (b9.mono BB.size)
              replace hB := hB.below b9
              replace hG := hG.below b9
              replace hP := hP.below b9
              replace hE := hE.below b9
              replace hD := hD.below b9
              replace hI := hI.below b9
              replace q3 := q3.below b9
              replace qp := qp.below b9
              clear b9
              have g3_0 := q3.cell 0
              have g3_1 := q3.cell 1
              have g8_0 := qp.cell 0
              have g8_1 := qp.cell 1
              simp only [List.getElem?_cons_zero, List.getElem?_cons_succ] at g3_0 g3_1 g8_0 g8_1
              go_wp2_with fail
              have al := (Below.refl w6.heap.size w6).alloc (Nat.le_refl _) (.cells #[.int .i64 0, .int .i64 0, .int .i64 0] 3)
              clear g3_0 g3_1 g8_0 g8_1
              replace BB := BB.trans (al.mono BB.size)
              replace hB := hB.below al
              replace hG := hG.below al
              replace hP := hP.below al
              replace hE := hE.below al
              replace hD := hD.below al
              replace hI := hI.below al
              replace q3 := q3.below al
              replace qp := qp.below al
              clear al
              have l3 := three_z (Cel.new w6 [.int .i64 0, .int .i64 0, .int .i64 0] 3)
              have HZ : Hid (keepB bn gn B G ts (u : Int) 3 [0, 0, 0] = true) := by (have h := keep_zero HK.out; rw [HE6.out] at h; exact h)
              refine (ikeep_any _ _ _ _ _ _ _ _ _ (u : Int) _ _ _ B G [0, 0, 0] ts _ hB hG l3 HP.out hP (by omega) (by omega) (by omega) (by omega)).mono ?_
              rintro ee w7 ⟨rfl, b9⟩
              rw [HZ.out]
              replace BB := BB.trans (b9.mono BB.size)
              replace hB := hB.below b9
              replace hG := hG.below b9
              replace hP := hP.below b9
              replace hE := hE.below b9
              replace hD := hD.below b9
              replace hI := hI.below b9
              replace q3 := q3.below b9
              replace qp := qp.below b9
              clear b9
              go_wp2
              go_ret
              exact ⟨rfl, BB⟩
        · have HKD : Hid (keepB bn gn B G ts (u : Int) en E = true) := HK.out
          clear HKm d2
          go_upto_region 12 with fail
          clear d1 p0 p1 lB
          have hD := ox.ints
          clear ox
          replace BB := BB.trans (b8.mono BB.size)
          replace hB := hB.below b8
          replace hG := hG.below b8
          replace hP := hP.below b8
          replace hE := hE.below b8
          replace q3 := q3.below b8
          clear b8
          obtain ⟨i0, hi, hz0, hz1, hz2⟩ := info_parts Try.infoInt
          go_upto_region 13 with fail
          go_wp2_with fail
          go_loopw [9, 10] (fun v i wr => ∃ (k : Nat) (xs : List Int), k ≤ en ∧ i = .int .i64 k ∧ xs = (E.map fun y => -y).take k ∧ JA wc v xs wr) (fun _ i _ => en - (intOf i).toNat)
          case atStart => exact ⟨0, [], by omega, rfl, rfl, JA.lit _⟩
          case round =>
            obtain ⟨k, xs, hk, rfl, hxs, j⟩ := hrel
            have HX : Hid (xs = (E.map fun y => -y).take k) := hxs
            clear hxs
            have hb := j.b
            replace BB := BB.trans (hb.mono BB.size)
            replace hB := hB.below hb
            replace hG := hG.below hb
            replace hP := hP.below hb
            replace hE := hE.below hb
            replace hD := hD.below hb
            replace q3 := q3.below hb
            replace qp := qp.below hb
            clear hb
            by_cases hlt : k < en
            · have hk' : (k : Int) < (en : Int) := by omega
              obtain ⟨b5, o5, rfl, hcE⟩ := hE.pos (by omega)
              have dE : wr.cell? ⟨b5, o5 + k, none⟩ = some (.int .i64 (E[k]?.getD 0)) := hcE k hlt
              have be := HEb.out k
              have HXk : Hid ((E.map fun y => -y).take (k + 1) = (E.map fun y => -y).take k ++ [-(E[k]?.getD 0)]) := neg_take (by rw [HEl.out]; exact hlt)
              obtain ⟨y5, hy5⟩ : ∃ y, y = E[k]?.getD 0 := ⟨_, rfl⟩
              rw [← hy5] at dE be HXk
              obtain ⟨be1, be2⟩ := be
              have wy5 : IntKind.i64.wrap (-y5) = -y5 := wrap_id (by omega) (by omega)
              clear hcE hy5
              have hlen : xs.length = k := by (rw [HX.out, List.length_take, List.length_map, HEl.out]; omega)
              have HLen : Hid (xs.length = k) := hlen
              clear hlen hB hD hP hE q3 qp BB
              obtain ⟨va', cap9, e9, hle9, _, _⟩ := j.ints
              have hsz := j.b.size
              rw [HLen.out] at e9
              subst e9
              have ho := (j.alloc (.cells #[.int .i64 (-y5)] 3)).o
              rw [HLen.out] at ho
              go_wp2_with (at_builtin; refine wpList_append_lies _ rfl (.tmp 76) (.tmp 82) 26 rfl wc.heap.size 3 i0 _ 1 8 Try.underlying26 hi hz0 hz1 hz2 rfl (by omega) (.slice va' k cap9) k (xs.map (Value.int .i64)) (by rfl) ho ⟨wr.heap.size, 0, none⟩ 1 1 [.int .i64 (-y5)] (by rfl) (by rfl) (World.news_of_block (cs := #[.int .i64 (-y5)]) (t := 3) (fr := (0, 0)) (heap_alloc_new wr _)) (by simp [Value.oneCell']) (by omega) (by unfold maxLen; omega) (by omega) (by simp; omega) (wr.heap.size + 1) (by rw [World.size_alloc]) ?_)
              intro g9 cp w10 hown hgrow _ _
              have j10 := j.app HLen.out hown hgrow
              clear hown hgrow j
              go_wp2
              go_roundw
              case rel => exact ⟨k + 1, _, by omega, by go_num, by rw [HXk.out, HX.out], j10⟩
              case measure => simp [intOf]; omega
            · have hk' : ¬ (k : Int) < (en : Int) := by omega
              have hxs : xs = E.map fun y => -y := by (rw [HX.out, List.take_of_length_le (by rw [List.length_map, HEl.out]; omega)])
              subst hxs
              obtain ⟨va', cap9, e9, hle9, hI, _⟩ := j.ints
              have hln : (E.map fun y => -y).length = en := by rw [List.length_map]; exact HEl.out
              rw [hln] at e9 hI
              subst e9
              clear j HX hln hle9
              have g3_0 := q3.cell 0
              have g3_1 := q3.cell 1
              have g8_0 := qp.cell 0
              have g8_1 := qp.cell 1
              simp only [List.getElem?_cons_zero, List.getElem?_cons_succ] at g3_0 g3_1 g8_0 g8_1
              go_wp2_with fail
              refine (ikeep_any _ _ _ _ _ _ _ _ _ (u : Int) _ _ _ B G E ts _ hB hD hE HP.out hP (by omega) (by omega) (by omega) (by omega)).mono ?_
              rintro ee w5 ⟨rfl, b9⟩
              rw [HKD.out]
              clear g3_0 g3_1 g8_0 g8_1
              replace BB := BB.trans (b9.mono BB.size)
              replace hB := hB.below b9
              replace hG := hG.below b9
              replace hP := hP.below b9
              replace hE := hE.below b9
              replace hD := hD.below b9
              replace hI := hI.below b9
              replace q3 := q3.below b9
              replace qp := qp.below b9
              clear b9
              have g3_0 := q3.cell 0
              have g3_1 := q3.cell 1
              have g8_0 := qp.cell 0
              have g8_1 := qp.cell 1
              simp only [List.getElem?_cons_zero, List.getElem?_cons_succ] at g3_0 g3_1 g8_0 g8_1
              go_wp2_with fail
              refine (ikeep_any _ _ _ _ _ _ _ _ _ (u : Int) _ _ _ B G (E.map fun y => -y) ts _ hB hG hI HP.out hP (by omega) (by omega) (by omega) (by omega)).mono ?_
              rintro ee w6 ⟨rfl, b9⟩
              rw [keep_neg HK.out]
              clear g3_0 g3_1 g8_0 g8_1
              replace BB := BB.trans (b9.mono BB.size)
              replace hB := hB.below b9
              replace hG := hG.below b9
              replace hP := hP.below b9
              replace hE := hE.below b9
              replace hD := hD.below b9
              replace hI := hI.below b9
              replace q3 := q3.below b9
              replace qp := qp.below b9
              clear b9
              have g3_0 := q3.cell 0
              have g3_1 := q3.cell 1
              have g8_0 := qp.cell 0
              have g8_1 := qp.cell 1
              simp only [List.getElem?_cons_zero, List.getElem?_cons_succ] at g3_0 g3_1 g8_0 g8_1
              go_wp2_with fail
              have al := (Below.refl w6.heap.size w6).alloc (Nat.le_refl _) (.cells #[.int .i64 0, .int .i64 0, .int .i64 0] 3)
              clear g3_0 g3_1 g8_0 g8_1
              replace BB := BB.trans (al.mono BB.size)
              replace hB := hB.below al
              replace hG := hG.below al
              replace hP := hP.below al
              replace hE := hE.below al
              replace hD := hD.below al
              replace hI := hI.below al
              replace q3 := q3.below al
              replace qp := qp.below al
              clear al
              have l3 := three_z (Cel.new w6 [.int .i64 0, .int .i64 0, .int .i64 0] 3)
              have HZ : Hid (keepB bn gn B G ts (u : Int) 3 [0, 0, 0] = true) := by (have h := keep_zero HK.out; rw [HE6.out] at h; exact h)
              refine (ikeep_any _ _ _ _ _ _ _ _ _ (u : Int) _ _ _ B G [0, 0, 0] ts _ hB hG l3 HP.out hP (by omega) (by omega) (by omega) (by omega)).mono ?_
              rintro ee w7 ⟨rfl, b9⟩
              rw [HZ.out]
              replace BB := BB.trans (b9.mono BB.size)
              replace hB := hB.below b9
              replace hG := hG.below b9
              replace hP := hP.below b9
              replace hE := hE.below b9
              replace hD := hD.below b9
              replace hI := hI.below b9
              replace q3 := q3.below b9
              replace qp := qp.below b9
              clear b9
              go_wp2
              go_ret
              exact ⟨rfl, BB⟩
  · go_enter Try.func5, Try.ntmps5
    go_wp2
    go_ret
    exact ⟨rfl, Below.refl _ _⟩

/-! ### The row's step -/
set_option maxRecDepth 100000 in
theorem lifted (os : Os) (started : os.Started) (H : Type) (enc : TypeId × Value → H) :
    ReturnsInHanded {} Try.checked os 5 .any (Rows.fnTrtKeepsSpec.pre6 enc Try.prog Try.f5 Rows.fnTrtKeepsRow.domain false) (Rows.fnTrtKeepsSpec.post enc Try.prog Try.f5 false true false false) := by
  refine returnsInHanded_of_change (C := Try.checked) own started (by kernel_rfl) Try.func5
    (ChangeSpec.witness6 (enc := enc) (C := Try.checked) false ⟨#[], #[.slice none 0 0], []⟩ 8 (by kernel_rfl) (by kernel_rfl) (by kernel_rfl) (by kernel_rfl)) ?_
  intro W base args ds gs before hval0 hW hcnd _
  have hval : ∀ (j : Nat) t v, Try.f5.params[j]? = some t → args[j]? = some v → Value.okWide Try.prog W .any base t v := hval0
  have hW' := hW
  obtain ⟨p, q, hA0, hV, rfl, hfz, hnd⟩ := hW
  have hA : DataW.TrodAll enc Try.prog W 0 (fun _ => true) true Try.f5.params.toList args.toList ds p := hA0
  rw [Try.params5] at hA hval
  obtain ⟨v0, vs0, d0, ds0, p0, q0, hargs, rfl, rfl, h0, r0⟩ := trodAll_cons hA
  obtain ⟨rfl, rfl, rfl⟩ := trodAll_nil r0
  obtain rfl : args = #[v0] := by cases args; simp_all
  obtain ⟨rfl, rfl⟩ := trodVars_none hV
  have k0 := h0
  have lt0 : ∀ x ∈ p0, x.block < W.heap.size := by obtain ⟨m, hm⟩ := k0; exact DataW.trod_lt m _ _ _ hm
  obtain ⟨a0, n0, cap0, C0, rfl, hC0, hn0⟩ := open_bytesT (hval 0 22 v0 rfl rfl) h0
  clear hA0 hval0
  refine (walk W a0 n0 cap0 C0 hC0 hn0).mono fun e W' ⟨he, bel⟩ => ?_
  subst he
  exact ⟨_, rfl, _, _, _, [], _, [], hW', trodAll_mk1 (shut_bool Try.underlying4 _), (trodAll_cons_mk (Below.trod laidOut (by kernel_rfl) (of_decide_eq_true (by kernel_rfl)) k0 bel lt0) trodAll_mk0), rfl, bel.frame _, fun h => by cases h⟩

theorem over : Rows.fnTrtKeepsRow.holds Try.pinned (OpenSpec.ofChange Rows.fnTrtKeepsSpec) :=
  OpenClaim.holds_of_wide 5 Try.f5 rfl rfl rfl rfl rfl rfl rfl ⟨rfl, rfl, rfl, rfl, rfl⟩ rfl rfl rfl rfl rfl (by kernel_rfl) Try.func5 (by kernel_rfl)
    (of_decide_eq_true (by kernel_rfl)) (by unfold Func.isWrapper; first | (rw [if_pos (by decide +kernel)]; kernel_rfl) | (rw [if_neg (by decide +kernel)]; exact ⟨rfl, rfl⟩))
    (fun os started H enc _ => lifted os started H enc)

end Go.Proofs.Ytpnldfembbfgdaa.fnTrtKeeps
namespace Go.Proofs.Ytpnldfembbfgdaa
/-- The statement. -/
theorem fnTrtKeeps_holds : Rows.FnTrtKeepsSaid := fnTrtKeeps.over
#print axioms fnTrtKeeps_holds
end Go.Proofs.Ytpnldfembbfgdaa
