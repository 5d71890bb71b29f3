/-
  For all bytes FnTrtAll returns true, and what came in reads behind the call as it did. No condition. (all keep within a treaty just if each does)
-/
import Derived.Test.YtpnldfembbfgdaaJTrtAllA
import Derived.Test.YtpnldfembbfgdaaOpen
namespace Go.Proofs.Ytpnldfembbfgdaa.fnTrtAll
open Go.ChangeShapes Go.WideShapes Go.ChangeAt Go.RowKit
set_option linter.unusedVariables false
set_option maxRecDepth 100000

theorem open_bytesT {H : Type} {enc : TypeId × Value → H} {W : World} {r : Reach} {b0 : Nat} {v : Value} {d : DataW H} {p : List MemPlace}
    (hv : Value.okWide Try.prog W r b0 22 v) (h : DataW.Trod enc Try.prog W 0 (fun _ => true) true 22 v d p) : ∃ a n cap zs, v = .slice a n cap ∧ BInts W a n zs ∧ (n ≤ cap ∧ cap ≤ maxLen) := by
  obtain ⟨a0, len0, cap0, rfl⟩ := okWide_slice Try.underlying22 hv
  obtain ⟨fuel, hf⟩ := h
  rcases open_ints Try.underlying22 Try.underlying5 (by kernel_rfl) hf with ⟨hcs, _⟩ | ⟨x, l, c, zs, hcs, _, hl, hm, hz, _, hcell, hwz⟩
  · simp [Value.cells] at hcs
    obtain ⟨rfl, rfl, rfl⟩ := hcs
    exact ⟨none, 0, 0, [], rfl, ⟨rfl, fun i hi => by omega, fun i => by simp⟩, by omega, by unfold maxLen; omega⟩
  · simp [Value.cells] at hcs
    obtain ⟨rfl, rfl, rfl⟩ := hcs
    have hz' : zs.length = cap0 := by simpa using hz
    refine ⟨some x, len0, cap0, zs.take len0, rfl, ⟨by rw [List.length_take]; omega, fun i hi => ?_, fun i => ?_⟩, hl, hm⟩
    · obtain ⟨b, off, spot⟩ := x
      have hc0 := hcell 0 (by omega)
      have hspot : spot = none := by simpa [Addr.add] using World.cell?_spot hc0
      subst hspot
      refine ⟨b, off, rfl, ?_⟩
      have hc := hcell i (by omega)
      have : W.cell? ⟨b, off + i, none⟩ = some (.int .u8 (zs.getD i 0)) := by
        by_cases h0 : i = 0
        · subst h0; simpa [Addr.add] using hc
        · simpa [Addr.add, h0] using hc
      rw [this]
      simp [hi]
    · by_cases hi : i < (zs.take len0).length
      · rw [List.getElem?_eq_getElem hi]
        have := hwz _ (List.mem_of_mem_take (List.getElem_mem hi))
        simpa [Lit.wf, IntKind.min, IntKind.max, IntKind.signed, IntKind.bits] using this
      · rw [List.getElem?_eq_none (by omega)]
        simp

theorem wpAnyE_three {P : Program} {md : Region.Mode} {ops : Array Oper} {Q : Exit → Act → World → Prop} {S0 S : World → Prop} {s : Nat} {i0 i1 i2 : Nat} {o0 o1 o2 : Oper} {fuel : Nat} {listed : Array Bool} {a : Act} {w : World} (hr : Region.ready md ops listed = [i0, i1, i2]) (e0 : ops[i0]? = some o0) (e1 : ops[i1]? = some o1) (e2 : ops[i2]? = some o2)
    (h0 : ∀ K' : Act → World → Prop, Shut (∀ a w, (S0 w ∧ ((listed.setIfInBounds i0 true).getD s true = false → S w)) → wpAnyE P md ops Q S0 S s fuel (listed.setIfInBounds i0 true) a w → K' a w) → if Region.wanted o0 (yielded ops a.tmps) = true then Oper.wp P o0 a w K' Q else K' (a.put o0.dst undef) w)
    (h1 : ∀ K' : Act → World → Prop, Shut (∀ a w, (S0 w ∧ ((listed.setIfInBounds i1 true).getD s true = false → S w)) → wpAnyE P md ops Q S0 S s fuel (listed.setIfInBounds i1 true) a w → K' a w) → if Region.wanted o1 (yielded ops a.tmps) = true then Oper.wp P o1 a w K' Q else K' (a.put o1.dst undef) w)
    (h2 : ∀ K' : Act → World → Prop, Shut (∀ a w, (S0 w ∧ ((listed.setIfInBounds i2 true).getD s true = false → S w)) → wpAnyE P md ops Q S0 S s fuel (listed.setIfInBounds i2 true) a w → K' a w) → if Region.wanted o2 (yielded ops a.tmps) = true then Oper.wp P o2 a w K' Q else K' (a.put o2.dst undef) w) : wpAnyE P md ops Q S0 S s (fuel + 1) listed a w := by
  refine ⟨fun h0 => (by rw [hr] at h0; cases h0), fun z hz => ?_⟩
  rw [hr] at hz
  simp only [List.mem_cons, List.not_mem_nil, or_false] at hz
  rcases hz with rfl | rfl | rfl
  · exact wpOp_step e0 (fun K' hK => h0 K' (fun a w hS hW => hK a w ⟨hS, hW⟩))
  · exact wpOp_step e1 (fun K' hK => h1 K' (fun a w hS hW => hK a w ⟨hS, hW⟩))
  · exact wpOp_step e2 (fun K' hK => h2 K' (fun a w hS hW => hK a w ⟨hS, hW⟩))
theorem wpAnyE_four {P : Program} {md : Region.Mode} {ops : Array Oper} {Q : Exit → Act → World → Prop} {S0 S : World → Prop} {s : Nat} {i0 i1 i2 i3 : Nat} {o0 o1 o2 o3 : Oper} {fuel : Nat} {listed : Array Bool} {a : Act} {w : World} (hr : Region.ready md ops listed = [i0, i1, i2, i3]) (e0 : ops[i0]? = some o0) (e1 : ops[i1]? = some o1) (e2 : ops[i2]? = some o2) (e3 : ops[i3]? = some o3)
    (h0 : ∀ K' : Act → World → Prop, Shut (∀ a w, (S0 w ∧ ((listed.setIfInBounds i0 true).getD s true = false → S w)) → wpAnyE P md ops Q S0 S s fuel (listed.setIfInBounds i0 true) a w → K' a w) → if Region.wanted o0 (yielded ops a.tmps) = true then Oper.wp P o0 a w K' Q else K' (a.put o0.dst undef) w)
    (h1 : ∀ K' : Act → World → Prop, Shut (∀ a w, (S0 w ∧ ((listed.setIfInBounds i1 true).getD s true = false → S w)) → wpAnyE P md ops Q S0 S s fuel (listed.setIfInBounds i1 true) a w → K' a w) → if Region.wanted o1 (yielded ops a.tmps) = true then Oper.wp P o1 a w K' Q else K' (a.put o1.dst undef) w)
    (h2 : ∀ K' : Act → World → Prop, Shut (∀ a w, (S0 w ∧ ((listed.setIfInBounds i2 true).getD s true = false → S w)) → wpAnyE P md ops Q S0 S s fuel (listed.setIfInBounds i2 true) a w → K' a w) → if Region.wanted o2 (yielded ops a.tmps) = true then Oper.wp P o2 a w K' Q else K' (a.put o2.dst undef) w)
    (h3 : ∀ K' : Act → World → Prop, Shut (∀ a w, (S0 w ∧ ((listed.setIfInBounds i3 true).getD s true = false → S w)) → wpAnyE P md ops Q S0 S s fuel (listed.setIfInBounds i3 true) a w → K' a w) → if Region.wanted o3 (yielded ops a.tmps) = true then Oper.wp P o3 a w K' Q else K' (a.put o3.dst undef) w) : wpAnyE P md ops Q S0 S s (fuel + 1) listed a w := by
  refine ⟨fun h0 => (by rw [hr] at h0; cases h0), fun z hz => ?_⟩
  rw [hr] at hz
  simp only [List.mem_cons, List.not_mem_nil, or_false] at hz
  rcases hz with rfl | rfl | rfl | rfl
  · exact wpOp_step e0 (fun K' hK => h0 K' (fun a w hS hW => hK a w ⟨hS, hW⟩))
  · exact wpOp_step e1 (fun K' hK => h1 K' (fun a w hS hW => hK a w ⟨hS, hW⟩))
  · exact wpOp_step e2 (fun K' hK => h2 K' (fun a w hS hW => hK a w ⟨hS, hW⟩))
  · exact wpOp_step e3 (fun K' hK => h3 K' (fun a w hS hW => hK a w ⟨hS, hW⟩))
/-- A cell of memory. -/
def Pl (W : World) (b o : Nat) (v : Value) : Prop := W.cell? ⟨b, o, none⟩ = some v
theorem Pl.below {W W' : World} {b o : Nat} {v : Value} (h : Pl W b o v) (c : Below W.heap.size W W') : Pl W' b o v := by
  unfold Pl at h ⊢
  rw [c.cell (p := ⟨b, o, none⟩) (block_lt h)]
  exact h
/-- The first k keep within the treaty. -/
def allK (n m : Nat) (C D : List Int) (ss ls : List IV) (L k : Nat) : Bool := trtB n m C D && (decide ((L : Int) = m) && keepAll n m C D ss ls k)
theorem allK_end (n m : Nat) (C D : List Int) (ss ls : List IV) (L : Nat) : allKeepB n m C D ss ls L = allK n m C D ss ls L L := rfl
theorem allK_no {n m : Nat} {C D : List Int} {ss ls : List IV} {L : Nat} : ∀ {k : Nat}, allK n m C D ss ls L k = false → ∀ j, k ≤ j → allK n m C D ss ls L j = false := fun {k} h j hj => by
  induction hj with
  | refl => exact h
  | step _ ih =>
    unfold allK at ih ⊢
    rw [keepAll]
    generalize trtB n m C D = x at *
    generalize decide ((L : Int) = m) = y at *
    cases x <;> cases y <;> simp_all
theorem allK_succ (n m : Nat) (C D : List Int) (ss ls : List IV) (L k : Nat) (h : allK n m C D ss ls L k = true) : allK n m C D ss ls L (k + 1) = keepB n m C D ss (k : Int) (ls[k]?.getD noI).n (ls[k]?.getD noI).x := by
  unfold allK at h ⊢
  simp only [Bool.and_eq_true] at h
  rw [keepAll, h.1, h.2.1, h.2.2]
  simp
theorem allK_fin {n m : Nat} {C D : List Int} {ss ls : List IV} {L k : Nat} (h : (decide (k < L) && allK n m C D ss ls L k) = false) (hk : k ≤ L) : allKeepB n m C D ss ls L = allK n m C D ss ls L k := by
  rw [allK_end]
  by_cases hlt : k < L
  · rw [decide_eq_true hlt, Bool.true_and] at h
    rw [h]
    exact allK_no h L hk
  · have e : k = L := by omega
    rw [e]
theorem lit_all {W : World} {B1 B2 B4 B5 : Nat} (l1 : Cel W B1 [.int .i64 0, .int .i64 0, .int .i64 0] 3) (l2 : Cel W B2 [.int .i64 0] 3) (l4 : Cel W B4 [.int .i64 0, .int .i64 0, .int .i64 0] 3) (l5 : Cel W B5 [.slice (some ⟨B4, 0, none⟩) 3 3] 26) : Ints W (some ⟨B1, 0, none⟩) 3 [0, 0, 0] ∧ Ints W (some ⟨B2, 0, none⟩) 1 [0] ∧ ISG W (some ⟨B5, 0, none⟩) [⟨some ⟨B4, 0, none⟩, 3, 3, [0, 0, 0]⟩] := by
  refine ⟨three_zz l1, ⟨rfl, fun i hi => ⟨B2, 0, rfl, ?_⟩⟩, fun i hi => ⟨B5, 0, rfl, ?_, ?_⟩⟩
  · rw [Nat.zero_add, l2.cell i]
    obtain rfl : i = 0 := by omega
    rfl
  · obtain rfl : i = 0 := by simpa using hi
    exact l5.cell 0
  · obtain rfl : i = 0 := by simpa using hi
    exact ⟨three_zz l4, by show 3 ≤ 1048576; omega⟩
theorem newLit (W : World) (vs : List Value) (ty : TypeId) : ∃ V X, V = W.alloc (.cells vs.toArray ty) ∧ X = W.heap.size ∧ Below W.heap.size W V ∧ Cel V X vs ty := ⟨_, _, rfl, rfl, (Below.refl _ _).alloc (Nat.le_refl _) _, Cel.new W vs ty⟩
theorem isg_nil (W : World) (a : Option Addr) : ISG W a [] := fun i hi => by simp at hi
theorem leafC {W : World} {B1 B2 B4 B5 : Nat} {p : Option Addr} {c1 c2 c3 c5 : Nat} (l1 : Cel W B1 [.int .i64 0, .int .i64 0, .int .i64 0] 3) (l2 : Cel W B2 [.int .i64 0] 3) (l4 : Cel W B4 [.int .i64 0, .int .i64 0, .int .i64 0] 3) (l5 : Cel W B5 [.slice (some ⟨B4, 0, none⟩) 3 3] 26) :
    Calls Try.prog 29 #[treV (some ⟨B1, 0, none⟩) 3 c1 (some ⟨B2, 0, none⟩) 1 c2, .slice p 0 c3, .slice (some ⟨B5, 0, none⟩) 1 c5] W fun r w' => r = .returned (.bool true) ∧ Below W.heap.size W w' := by
  obtain ⟨k1, k2, k3⟩ := lit_all l1 l2 l4 l5
  exact iall_any _ _ _ _ _ _ _ _ _ _ _ _ [0, 0, 0] [0] [] [⟨some ⟨B4, 0, none⟩, 3, 3, [0, 0, 0]⟩] _ k1 k2 rfl (isg_nil _ _) rfl k3 (by omega) (by omega) (by omega) (by omega)

set_option maxHeartbeats 51200000 in
theorem walk (w : World) (a : Option Addr) (n cap : Nat) (A0 : List Int) (hA0 : BInts w a n A0) (hn : n ≤ cap ∧ cap ≤ maxLen) :
    Calls Try.prog 6 #[.slice a n cap] w fun e w' => e = .returned (.bool true) ∧ Below w.heap.size w w' := by
  obtain ⟨hn2, hn3⟩ := hn
  by_cases hn1 : n ≤ 1048576
  · go_enter Try.func6, Try.ntmps6
    go_wp2_with fail
    refine (dAll _ _ _ A0 _ hA0 hn2 hn1 hn3).mono ?_
    rintro ee w1 ⟨ba, bn, bc, ga, gn, gc, B, G, pa, pn, pc, ts, ea, en, ec, es, rfl, b1, hB, hG, hbn, hgn, hP, hpn, hpn1, hE, hen, hen4⟩
    have BB := b1
    clear b1
    have HP : Hid (ts.length = pn) := hpn
    have HE : Hid (es.length = en) := hen
    clear hpn hen
    have al := (Below.refl (w1).heap.size (w1)).alloc (Nat.le_refl _) (.cells #[.slice ba bn bc, .slice ga gn gc] 45)
    replace BB := BB.trans (al.mono BB.size)
    replace hB := hB.below al
    replace hG := hG.below al
    replace hP := hP.below al
    replace hE := hE.below al
    clear al
    have q3 := Cel.new (w1) [.slice ba bn bc, .slice ga gn gc] 45
    go_upto_region 4 with fail
    obtain ⟨W2, hW2⟩ : ∃ W, W = (w1).alloc (.cells #[.slice ba bn bc, .slice ga gn gc] 45) := ⟨_, rfl⟩
    rw [← hW2]
    rw [← hW2] at hB hG hP hE q3 BB
    clear hW2
    obtain ⟨X3, hX3⟩ : ∃ x, x = w1.heap.size := ⟨_, rfl⟩
    rw [← hX3]
    rw [← hX3] at q3
    clear hX3
    go_cut [6] (fun v wx => v = .bool (allK bn gn B G ts es en 0) ∧ Below W2.heap.size W2 wx)
    case first =>
      have BC := Below.refl W2.heap.size W2
      have g3_0 := q3.cell 0
      have g3_1 := q3.cell 1
      simp only [List.getElem?_cons_zero, List.getElem?_cons_succ] at g3_0 g3_1
      go_wp2_with fail
      refine (itrt_any _ _ _ _ _ _ B G _ hB hG (by omega) (by omega)).mono ?_
      rintro ee w3 ⟨rfl, b2⟩
      clear g3_0 g3_1
      replace BB := BB.trans (b2.mono BB.size)
      replace BC := BC.trans (b2.mono BC.size)
      replace hB := hB.below b2
      replace hG := hG.below b2
      replace hP := hP.below b2
      replace hE := hE.below b2
      replace q3 := q3.below b2
      clear b2
      cases hT : trtB bn gn B G
      · have HT : Hid (allK bn gn B G ts es en 0 = false) := by (show (allK bn gn B G ts es en 0) = false; unfold allK; rw [hT]; rfl)
        clear hT
        have g3_0 := q3.cell 0
        have g3_1 := q3.cell 1
        simp only [List.getElem?_cons_zero, List.getElem?_cons_succ] at g3_0 g3_1
        go_wp2
        go_meet
        case rel => exact ⟨by rw [HT.out], BC⟩
      · by_cases he : (en : Int) = (gn : Int)
        · have e0 : ((en : Int) == (gn : Int)) = true := by rw [he]; simp
          have HT : Hid (allK bn gn B G ts es en 0 = true) := by (show (allK bn gn B G ts es en 0) = true; unfold allK; rw [hT, decide_eq_true he]; rfl)
          clear hT he
          have g3_0 := q3.cell 0
          have g3_1 := q3.cell 1
          simp only [List.getElem?_cons_zero, List.getElem?_cons_succ] at g3_0 g3_1
          go_wp2
          go_meet
          case rel => exact ⟨by rw [HT.out], BC⟩
        · have e0 : ((en : Int) == (gn : Int)) = false := by simpa using he
          have HT : Hid (allK bn gn B G ts es en 0 = false) := by (show (allK bn gn B G ts es en 0) = false; unfold allK; rw [hT, decide_eq_false he]; rfl)
          clear hT he
          have g3_0 := q3.cell 0
          have g3_1 := q3.cell 1
          simp only [List.getElem?_cons_zero, List.getElem?_cons_succ] at g3_0 g3_1
          go_wp2
          go_meet
          case rel => exact ⟨by rw [HT.out], BC⟩
    case rest =>
      obtain ⟨rfl, b3⟩ := hcut
      replace BB := BB.trans (b3.mono BB.size)
      replace hB := hB.below b3
      replace hG := hG.below b3
      replace hP := hP.below b3
      replace hE := hE.below b3
      replace q3 := q3.below b3
      clear b3
      go_wp2_with fail
      go_loopw [6, 7] (fun v i wr => ∃ k : Nat, k ≤ en ∧ i = .int .i64 k ∧ v = .bool (allK bn gn B G ts es en k) ∧ Below wc.heap.size wc wr) (fun _ i _ => en - (intOf i).toNat)
      case atStart => exact ⟨0, by omega, rfl, rfl, Below.refl _ _⟩
      case round =>
        obtain ⟨k, hk, rfl, rfl, hb⟩ := hrel
        have hb0 := hb
        replace BB := BB.trans (hb.mono BB.size)
        replace hB := hB.below hb
        replace hG := hG.below hb
        replace hP := hP.below hb
        replace hE := hE.below hb
        replace q3 := q3.below hb
        clear hb
        go_upto_region 6 with fail
        go_cut [33] from 27 to 43 (fun v wx => v = .bool (decide (k < en) && allK bn gn B G ts es en k) ∧ wx = wr)
        case first =>
          clear hB hG hP hE q3 BB
          by_cases hlt : k < en
          · have hlt' : (k : Int) < (en : Int) := by omega
            have HD : Hid (decide (k < en) = true) := decide_eq_true hlt
            go_wp2
            go_meet
            case rel => exact ⟨by rw [HD.out, Bool.true_and], rfl⟩
          · have hlt' : ¬ (k : Int) < (en : Int) := by omega
            have HD : Hid (decide (k < en) = false) := decide_eq_false hlt
            go_wp2
            go_meet
            case rel => exact ⟨by rw [HD.out]; rfl, rfl⟩
        case rest =>
          obtain ⟨rfl, rfl⟩ := hcut
          cases hgo : (decide (k < en) && allK bn gn B G ts es en k)
          · have HZ : Hid (allKeepB bn gn B G ts es en = allK bn gn B G ts es en k) := allK_fin hgo hk
            clear hgo hb0
            generalize allK bn gn B G ts es en k = z at HZ ⊢
            have hz : (z == z) = true := by cases z <;> rfl
            have hz2 : decide (z = z) = true := by cases z <;> rfl
            go_upto_region 9 with fail
            refine wp_region_ends (fun X => X.cell? ⟨X3, 0, none⟩ = some (.slice ba bn bc) ∧ X.cell? ⟨X3, 1, none⟩ = some (.slice ga gn gc)) (fun _ => True) 26 (by kernel_rfl) ?_
            have dr : Below wc.heap.size wc wc.drew := (Below.refl _ _).drew
            replace BB := BB.trans (dr.mono BB.size)
            replace hB := hB.below dr
            replace hG := hG.below dr
            replace hP := hP.below dr
            replace hE := hE.below dr
            replace q3 := q3.below dr
            clear dr
            obtain ⟨V0, hV0⟩ : ∃ V, V = wc.drew := ⟨_, rfl⟩
            rw [← hV0]
            rw [← hV0] at hB hG hP hE q3 BB
            clear hV0
            have hSS : (V0.cell? ⟨X3, 0, none⟩ = some (.slice ba bn bc) ∧ V0.cell? ⟨X3, 1, none⟩ = some (.slice ga gn gc)) ∧ True := ⟨⟨q3.cell 0, q3.cell 1⟩, trivial⟩
            refine tkL (i := 0) rfl hSS ?_
            refine tkL (i := 1) rfl hSS ?_
            refine tkL (i := 2) rfl hSS ?_
            simp only [Act.put, List.setIfInBounds_toArray, List.set_cons_succ, List.set_cons_zero, List.getElem_toArray, List.getElem_cons_succ, List.getElem_cons_zero]
            refine tkL (i := 4) rfl hSS ?_
            refine wpAnyE_one (i := 3) (by kernel_rfl) rfl (fun Kn hK => ?_)
            go_simp
            refine (iall_any _ _ _ _ _ _ _ _ _ _ _ _ B G ts es _ hB hG HP.out hP HE.out hE (by omega) (by omega) (by omega) (by omega)).mono ?_
            rintro ee w3 ⟨rfl, b9⟩
            rw [HZ.out]
            replace BB := BB.trans (b9.mono BB.size)
            replace hB := hB.below b9
            replace hG := hG.below b9
            replace hP := hP.below b9
            replace hE := hE.below b9
            replace q3 := q3.below b9
            clear b9
            clear hSS
            have hSS : (w3.cell? ⟨X3, 0, none⟩ = some (.slice ba bn bc) ∧ w3.cell? ⟨X3, 1, none⟩ = some (.slice ga gn gc)) ∧ True := ⟨⟨q3.cell 0, q3.cell 1⟩, trivial⟩
            (try dsimp only)
            refine hK.out _ _ ⟨hSS.1, fun _ => trivial⟩ ?_
            clear hK
            refine tkL (i := 5) rfl hSS ?_
            refine tkL (i := 6) rfl hSS ?_
            refine tkL (i := 7) rfl hSS ?_
            simp only [Act.put, List.setIfInBounds_toArray, List.set_cons_succ, List.set_cons_zero, List.getElem_toArray, List.getElem_cons_succ, List.getElem_cons_zero]
            refine tkL (i := 8) rfl hSS ?_
            refine tkL (i := 9) rfl hSS ?_
            refine tkL (i := 11) rfl hSS ?_
            simp only [Act.put, List.setIfInBounds_toArray, List.set_cons_succ, List.set_cons_zero, List.getElem_toArray, List.getElem_cons_succ, List.getElem_cons_zero]
            refine tkL (i := 12) rfl hSS ?_
            refine tkL (i := 13) rfl hSS ?_
            refine wpAnyE_one (i := 10) (by kernel_rfl) rfl (fun Kn hK => ?_)
            go_simp
            refine (iall_any _ _ _ _ _ _ _ _ _ _ _ _ B G ts es _ hB hG HP.out hP HE.out hE (by omega) (by omega) (by omega) (by omega)).mono ?_
            rintro ee w4 ⟨rfl, b9⟩
            rw [HZ.out]
            replace BB := BB.trans (b9.mono BB.size)
            replace hB := hB.below b9
            replace hG := hG.below b9
            replace hP := hP.below b9
            replace hE := hE.below b9
            replace q3 := q3.below b9
            clear b9
            clear hSS
            have hSS : (w4.cell? ⟨X3, 0, none⟩ = some (.slice ba bn bc) ∧ w4.cell? ⟨X3, 1, none⟩ = some (.slice ga gn gc)) ∧ True := ⟨⟨q3.cell 0, q3.cell 1⟩, trivial⟩
            (try dsimp only)
            refine hK.out _ _ ⟨hSS.1, fun _ => trivial⟩ ?_
            clear hK
            refine wpAnyE_one (i := 14) (by kernel_rfl) rfl (fun Kn hK => ?_)
            go_simp
            refine (sall_any _ _ _ _ _ _ _ _ _ _ _ _ B G ts es _ hB hG HP.out hP HE.out hE (by omega) (by omega) (by omega) (by omega)).mono ?_
            rintro ee w5 ⟨rfl, b9⟩
            rw [HZ.out]
            replace BB := BB.trans (b9.mono BB.size)
            replace hB := hB.below b9
            replace hG := hG.below b9
            replace hP := hP.below b9
            replace hE := hE.below b9
            replace q3 := q3.below b9
            clear b9
            clear hSS
            have hSS : (w5.cell? ⟨X3, 0, none⟩ = some (.slice ba bn bc) ∧ w5.cell? ⟨X3, 1, none⟩ = some (.slice ga gn gc)) ∧ True := ⟨⟨q3.cell 0, q3.cell 1⟩, trivial⟩
            (try dsimp only)
            refine hK.out _ _ ⟨hSS.1, fun _ => trivial⟩ ?_
            clear hK
            refine tkL (i := 15) rfl hSS ?_
            refine tkL (i := 16) rfl hSS ?_
            refine tkL (i := 17) rfl hSS ?_
            simp only [Act.put, List.setIfInBounds_toArray, List.set_cons_succ, List.set_cons_zero, List.getElem_toArray, List.getElem_cons_succ, List.getElem_cons_zero]
            clear hB hG hP hE HZ hz hz2
            clear hSS
            refine wpAnyE_four (i0 := 18) (i1 := 19) (i2 := 21) (i3 := 22) (by kernel_rfl) rfl rfl rfl rfl (fun Kn hK => ?_) (fun Kn hK => ?_) (fun Kn hK => ?_) (fun Kn hK => ?_)
            · go_simp
              obtain ⟨V6, Xl1, hV, hX, al, l1⟩ := newLit w5 [.int .i64 0, .int .i64 0, .int .i64 0] 3
              rw [← hV, ← hX]
              replace BB := BB.trans (al.mono BB.size); replace q3 := q3.below al
              refine hK.out _ _ ⟨⟨q3.cell 0, q3.cell 1⟩, fun _ => trivial⟩ ?_
              clear hK hV hX al
              refine wpAnyE_three (i0 := 19) (i1 := 21) (i2 := 22) (by kernel_rfl) rfl rfl rfl (fun Kn hK => ?_) (fun Kn hK => ?_) (fun Kn hK => ?_)
              · go_simp
                obtain ⟨V7, Xl2, hV, hX, al, l2⟩ := newLit V6 [.int .i64 0] 3
                rw [← hV, ← hX]
                replace BB := BB.trans (al.mono BB.size); replace l1 := l1.below al; replace q3 := q3.below al
                refine hK.out _ _ ⟨⟨q3.cell 0, q3.cell 1⟩, fun _ => trivial⟩ ?_
                clear hK hV hX al
                have hSS : (V7.cell? ⟨X3, 0, none⟩ = some (.slice ba bn bc) ∧ V7.cell? ⟨X3, 1, none⟩ = some (.slice ga gn gc)) ∧ True := ⟨⟨q3.cell 0, q3.cell 1⟩, trivial⟩
                refine tkL (i := 20) rfl hSS ?_
                clear hSS
                refine wpAnyE_two (i := 21) (j := 22) (by kernel_rfl) rfl rfl (fun Kn hK => ?_) (fun Kn hK => ?_)
                · go_simp
                  obtain ⟨V8, Xl3, hV, hX, al, l3⟩ := newLit V7 [] 26
                  rw [← hV, ← hX]
                  replace BB := BB.trans (al.mono BB.size); replace l1 := l1.below al; replace l2 := l2.below al; replace q3 := q3.below al
                  refine hK.out _ _ ⟨⟨q3.cell 0, q3.cell 1⟩, fun _ => trivial⟩ ?_
                  clear hK hV hX al
                  refine wpAnyE_one (i := 22) (by kernel_rfl) rfl (fun Kn hK => ?_)
                  go_simp
                  obtain ⟨V9, Xl4, hV, hX, al, l4⟩ := newLit V8 [.int .i64 0, .int .i64 0, .int .i64 0] 3
                  rw [← hV, ← hX]
                  replace BB := BB.trans (al.mono BB.size); replace l1 := l1.below al; replace l2 := l2.below al; replace l3 := l3.below al; replace q3 := q3.below al
                  refine hK.out _ _ ⟨⟨q3.cell 0, q3.cell 1⟩, fun _ => trivial⟩ ?_
                  clear hK hV hX al
                  refine wpAnyE_one (i := 23) (by kernel_rfl) rfl (fun Kn hK => ?_)
                  go_simp
                  obtain ⟨V10, Xl5, hV, hX, al, l5⟩ := newLit V9 [.slice (some ⟨Xl4, 0, none⟩) 3 3] 26
                  rw [← hV, ← hX]
                  replace BB := BB.trans (al.mono BB.size); replace l1 := l1.below al; replace l2 := l2.below al; replace l3 := l3.below al; replace l4 := l4.below al; replace q3 := q3.below al
                  refine hK.out _ _ ⟨⟨q3.cell 0, q3.cell 1⟩, fun _ => trivial⟩ ?_
                  clear hK hV hX al
                  refine wpAnyE_one (i := 24) (by kernel_rfl) rfl (fun Kn hK => ?_)
                  go_simp
                  refine (leafC l1 l2 l4 l5).mono ?_
                  rintro ee wz ⟨rfl, b9⟩
                  replace BB := BB.trans (b9.mono BB.size); replace q3 := q3.below b9; clear l1 l2 l3 l4 l5
                  have hSS : (fun X : World => X.cell? ⟨X3, 0, none⟩ = some (.slice ba bn bc) ∧ X.cell? ⟨X3, 1, none⟩ = some (.slice ga gn gc)) wz ∧ True := ⟨⟨q3.cell 0, q3.cell 1⟩, trivial⟩
                  (try dsimp only)
                  refine hK.out _ _ ⟨hSS.1, fun _ => trivial⟩ ?_
                  clear hK
                  refine tkL (i := 25) rfl hSS ?_
                  refine wpAnyE_one (i := 26) (by kernel_rfl) rfl (fun Kn hK => ?_)
                  go_simp
                  refine hK.out _ _ ⟨hSS.1, fun _ => trivial⟩ ?_
                  refine wpAnyE_done (by kernel_rfl) ?_ _
                  clear hSS hK
                  go_wp2
                  go_ret
                  exact ⟨rfl, BB⟩
                · go_simp
                  obtain ⟨V8, Xl4, hV, hX, al, l4⟩ := newLit V7 [.int .i64 0, .int .i64 0, .int .i64 0] 3
                  rw [← hV, ← hX]
                  replace BB := BB.trans (al.mono BB.size); replace l1 := l1.below al; replace l2 := l2.below al; replace q3 := q3.below al
                  refine hK.out _ _ ⟨⟨q3.cell 0, q3.cell 1⟩, fun _ => trivial⟩ ?_
                  clear hK hV hX al
                  refine wpAnyE_two (i := 21) (j := 23) (by kernel_rfl) rfl rfl (fun Kn hK => ?_) (fun Kn hK => ?_)
                  · go_simp
                    obtain ⟨V9, Xl3, hV, hX, al, l3⟩ := newLit V8 [] 26
                    rw [← hV, ← hX]
                    replace BB := BB.trans (al.mono BB.size); replace l1 := l1.below al; replace l2 := l2.below al; replace l4 := l4.below al; replace q3 := q3.below al
                    refine hK.out _ _ ⟨⟨q3.cell 0, q3.cell 1⟩, fun _ => trivial⟩ ?_
                    clear hK hV hX al
                    refine wpAnyE_one (i := 23) (by kernel_rfl) rfl (fun Kn hK => ?_)
                    go_simp
                    obtain ⟨V10, Xl5, hV, hX, al, l5⟩ := newLit V9 [.slice (some ⟨Xl4, 0, none⟩) 3 3] 26
                    rw [← hV, ← hX]
                    replace BB := BB.trans (al.mono BB.size); replace l1 := l1.below al; replace l2 := l2.below al; replace l4 := l4.below al; replace l3 := l3.below al; replace q3 := q3.below al
                    refine hK.out _ _ ⟨⟨q3.cell 0, q3.cell 1⟩, fun _ => trivial⟩ ?_
                    clear hK hV hX al
                    refine wpAnyE_one (i := 24) (by kernel_rfl) rfl (fun Kn hK => ?_)
                    go_simp
                    refine (leafC l1 l2 l4 l5).mono ?_
                    rintro ee wz ⟨rfl, b9⟩
                    replace BB := BB.trans (b9.mono BB.size); replace q3 := q3.below b9; clear l1 l2 l3 l4 l5
                    have hSS : (fun X : World => X.cell? ⟨X3, 0, none⟩ = some (.slice ba bn bc) ∧ X.cell? ⟨X3, 1, none⟩ = some (.slice ga gn gc)) wz ∧ True := ⟨⟨q3.cell 0, q3.cell 1⟩, trivial⟩
                    (try dsimp only)
                    refine hK.out _ _ ⟨hSS.1, fun _ => trivial⟩ ?_
                    clear hK
                    refine tkL (i := 25) rfl hSS ?_
                    refine wpAnyE_one (i := 26) (by kernel_rfl) rfl (fun Kn hK => ?_)
                    go_simp
                    refine hK.out _ _ ⟨hSS.1, fun _ => trivial⟩ ?_
                    refine wpAnyE_done (by kernel_rfl) ?_ _
                    clear hSS hK
                    go_wp2
                    go_ret
                    exact ⟨rfl, BB⟩
                  · go_simp
                    obtain ⟨V9, Xl5, hV, hX, al, l5⟩ := newLit V8 [.slice (some ⟨Xl4, 0, none⟩) 3 3] 26
                    rw [← hV, ← hX]
                    replace BB := BB.trans (al.mono BB.size); replace l1 := l1.below al; replace l2 := l2.below al; replace l4 := l4.below al; replace q3 := q3.below al
                    refine hK.out _ _ ⟨⟨q3.cell 0, q3.cell 1⟩, fun _ => trivial⟩ ?_
                    clear hK hV hX al
                    refine wpAnyE_one (i := 21) (by kernel_rfl) rfl (fun Kn hK => ?_)
                    go_simp
                    obtain ⟨V10, Xl3, hV, hX, al, l3⟩ := newLit V9 [] 26
                    rw [← hV, ← hX]
                    replace BB := BB.trans (al.mono BB.size); replace l1 := l1.below al; replace l2 := l2.below al; replace l4 := l4.below al; replace l5 := l5.below al; replace q3 := q3.below al
                    refine hK.out _ _ ⟨⟨q3.cell 0, q3.cell 1⟩, fun _ => trivial⟩ ?_
                    clear hK hV hX al
                    refine wpAnyE_one (i := 24) (by kernel_rfl) rfl (fun Kn hK => ?_)
                    go_simp
                    refine (leafC l1 l2 l4 l5).mono ?_
                    rintro ee wz ⟨rfl, b9⟩
                    replace BB := BB.trans (b9.mono BB.size); replace q3 := q3.below b9; clear l1 l2 l3 l4 l5
                    have hSS : (fun X : World => X.cell? ⟨X3, 0, none⟩ = some (.slice ba bn bc) ∧ X.cell? ⟨X3, 1, none⟩ = some (.slice ga gn gc)) wz ∧ True := ⟨⟨q3.cell 0, q3.cell 1⟩, trivial⟩
                    (try dsimp only)
                    refine hK.out _ _ ⟨hSS.1, fun _ => trivial⟩ ?_
                    clear hK
                    refine tkL (i := 25) rfl hSS ?_
                    refine wpAnyE_one (i := 26) (by kernel_rfl) rfl (fun Kn hK => ?_)
                    go_simp
                    refine hK.out _ _ ⟨hSS.1, fun _ => trivial⟩ ?_
                    refine wpAnyE_done (by kernel_rfl) ?_ _
                    clear hSS hK
                    go_wp2
                    go_ret
                    exact ⟨rfl, BB⟩
              · go_simp
                obtain ⟨V7, Xl3, hV, hX, al, l3⟩ := newLit V6 [] 26
                rw [← hV, ← hX]
                replace BB := BB.trans (al.mono BB.size); replace l1 := l1.below al; replace q3 := q3.below al
                refine hK.out _ _ ⟨⟨q3.cell 0, q3.cell 1⟩, fun _ => trivial⟩ ?_
                clear hK hV hX al
                refine wpAnyE_two (i := 19) (j := 22) (by kernel_rfl) rfl rfl (fun Kn hK => ?_) (fun Kn hK => ?_)
                · go_simp
                  obtain ⟨V8, Xl2, hV, hX, al, l2⟩ := newLit V7 [.int .i64 0] 3
                  rw [← hV, ← hX]
                  replace BB := BB.trans (al.mono BB.size); replace l1 := l1.below al; replace l3 := l3.below al; replace q3 := q3.below al
                  refine hK.out _ _ ⟨⟨q3.cell 0, q3.cell 1⟩, fun _ => trivial⟩ ?_
                  clear hK hV hX al
                  have hSS : (V8.cell? ⟨X3, 0, none⟩ = some (.slice ba bn bc) ∧ V8.cell? ⟨X3, 1, none⟩ = some (.slice ga gn gc)) ∧ True := ⟨⟨q3.cell 0, q3.cell 1⟩, trivial⟩
                  refine tkL (i := 20) rfl hSS ?_
                  clear hSS
                  refine wpAnyE_one (i := 22) (by kernel_rfl) rfl (fun Kn hK => ?_)
                  go_simp
                  obtain ⟨V9, Xl4, hV, hX, al, l4⟩ := newLit V8 [.int .i64 0, .int .i64 0, .int .i64 0] 3
                  rw [← hV, ← hX]
                  replace BB := BB.trans (al.mono BB.size); replace l1 := l1.below al; replace l3 := l3.below al; replace l2 := l2.below al; replace q3 := q3.below al
                  refine hK.out _ _ ⟨⟨q3.cell 0, q3.cell 1⟩, fun _ => trivial⟩ ?_
                  clear hK hV hX al
                  refine wpAnyE_one (i := 23) (by kernel_rfl) rfl (fun Kn hK => ?_)
                  go_simp
                  obtain ⟨V10, Xl5, hV, hX, al, l5⟩ := newLit V9 [.slice (some ⟨Xl4, 0, none⟩) 3 3] 26
                  rw [← hV, ← hX]
                  replace BB := BB.trans (al.mono BB.size); replace l1 := l1.below al; replace l3 := l3.below al; replace l2 := l2.below al; replace l4 := l4.below al; replace q3 := q3.below al
                  refine hK.out _ _ ⟨⟨q3.cell 0, q3.cell 1⟩, fun _ => trivial⟩ ?_
                  clear hK hV hX al
                  refine wpAnyE_one (i := 24) (by kernel_rfl) rfl (fun Kn hK => ?_)
                  go_simp
                  refine (leafC l1 l2 l4 l5).mono ?_
                  rintro ee wz ⟨rfl, b9⟩
                  replace BB := BB.trans (b9.mono BB.size); replace q3 := q3.below b9; clear l1 l2 l3 l4 l5
                  have hSS : (fun X : World => X.cell? ⟨X3, 0, none⟩ = some (.slice ba bn bc) ∧ X.cell? ⟨X3, 1, none⟩ = some (.slice ga gn gc)) wz ∧ True := ⟨⟨q3.cell 0, q3.cell 1⟩, trivial⟩
                  (try dsimp only)
                  refine hK.out _ _ ⟨hSS.1, fun _ => trivial⟩ ?_
                  clear hK
                  refine tkL (i := 25) rfl hSS ?_
                  refine wpAnyE_one (i := 26) (by kernel_rfl) rfl (fun Kn hK => ?_)
                  go_simp
                  refine hK.out _ _ ⟨hSS.1, fun _ => trivial⟩ ?_
                  refine wpAnyE_done (by kernel_rfl) ?_ _
                  clear hSS hK
                  go_wp2
                  go_ret
                  exact ⟨rfl, BB⟩
                · go_simp
                  obtain ⟨V8, Xl4, hV, hX, al, l4⟩ := newLit V7 [.int .i64 0, .int .i64 0, .int .i64 0] 3
                  rw [← hV, ← hX]
                  replace BB := BB.trans (al.mono BB.size); replace l1 := l1.below al; replace l3 := l3.below al; replace q3 := q3.below al
                  refine hK.out _ _ ⟨⟨q3.cell 0, q3.cell 1⟩, fun _ => trivial⟩ ?_
                  clear hK hV hX al
                  refine wpAnyE_two (i := 19) (j := 23) (by kernel_rfl) rfl rfl (fun Kn hK => ?_) (fun Kn hK => ?_)
                  · go_simp
                    obtain ⟨V9, Xl2, hV, hX, al, l2⟩ := newLit V8 [.int .i64 0] 3
                    rw [← hV, ← hX]
                    replace BB := BB.trans (al.mono BB.size); replace l1 := l1.below al; replace l3 := l3.below al; replace l4 := l4.below al; replace q3 := q3.below al
                    refine hK.out _ _ ⟨⟨q3.cell 0, q3.cell 1⟩, fun _ => trivial⟩ ?_
                    clear hK hV hX al
                    have hSS : (V9.cell? ⟨X3, 0, none⟩ = some (.slice ba bn bc) ∧ V9.cell? ⟨X3, 1, none⟩ = some (.slice ga gn gc)) ∧ True := ⟨⟨q3.cell 0, q3.cell 1⟩, trivial⟩
                    refine tkL (i := 20) rfl hSS ?_
                    clear hSS
                    refine wpAnyE_one (i := 23) (by kernel_rfl) rfl (fun Kn hK => ?_)
                    go_simp
                    obtain ⟨V10, Xl5, hV, hX, al, l5⟩ := newLit V9 [.slice (some ⟨Xl4, 0, none⟩) 3 3] 26
                    rw [← hV, ← hX]
                    replace BB := BB.trans (al.mono BB.size); replace l1 := l1.below al; replace l3 := l3.below al; replace l4 := l4.below al; replace l2 := l2.below al; replace q3 := q3.below al
                    refine hK.out _ _ ⟨⟨q3.cell 0, q3.cell 1⟩, fun _ => trivial⟩ ?_
                    clear hK hV hX al
                    refine wpAnyE_one (i := 24) (by kernel_rfl) rfl (fun Kn hK => ?_)
                    go_simp
                    refine (leafC l1 l2 l4 l5).mono ?_
                    rintro ee wz ⟨rfl, b9⟩
                    replace BB := BB.trans (b9.mono BB.size); replace q3 := q3.below b9; clear l1 l2 l3 l4 l5
                    have hSS : (fun X : World => X.cell? ⟨X3, 0, none⟩ = some (.slice ba bn bc) ∧ X.cell? ⟨X3, 1, none⟩ = some (.slice ga gn gc)) wz ∧ True := ⟨⟨q3.cell 0, q3.cell 1⟩, trivial⟩
                    (try dsimp only)
                    refine hK.out _ _ ⟨hSS.1, fun _ => trivial⟩ ?_
                    clear hK
                    refine tkL (i := 25) rfl hSS ?_
                    refine wpAnyE_one (i := 26) (by kernel_rfl) rfl (fun Kn hK => ?_)
                    go_simp
                    refine hK.out _ _ ⟨hSS.1, fun _ => trivial⟩ ?_
                    refine wpAnyE_done (by kernel_rfl) ?_ _
                    clear hSS hK
                    go_wp2
                    go_ret
                    exact ⟨rfl, BB⟩
                  · go_simp
                    obtain ⟨V9, Xl5, hV, hX, al, l5⟩ := newLit V8 [.slice (some ⟨Xl4, 0, none⟩) 3 3] 26
                    rw [← hV, ← hX]
                    replace BB := BB.trans (al.mono BB.size); replace l1 := l1.below al; replace l3 := l3.below al; replace l4 := l4.below al; replace q3 := q3.below al
                    refine hK.out _ _ ⟨⟨q3.cell 0, q3.cell 1⟩, fun _ => trivial⟩ ?_
                    clear hK hV hX al
                    refine wpAnyE_one (i := 19) (by kernel_rfl) rfl (fun Kn hK => ?_)
                    go_simp
                    obtain ⟨V10, Xl2, hV, hX, al, l2⟩ := newLit V9 [.int .i64 0] 3
                    rw [← hV, ← hX]
                    replace BB := BB.trans (al.mono BB.size); replace l1 := l1.below al; replace l3 := l3.below al; replace l4 := l4.below al; replace l5 := l5.below al; replace q3 := q3.below al
                    refine hK.out _ _ ⟨⟨q3.cell 0, q3.cell 1⟩, fun _ => trivial⟩ ?_
                    clear hK hV hX al
                    have hSS : (V10.cell? ⟨X3, 0, none⟩ = some (.slice ba bn bc) ∧ V10.cell? ⟨X3, 1, none⟩ = some (.slice ga gn gc)) ∧ True := ⟨⟨q3.cell 0, q3.cell 1⟩, trivial⟩
                    refine tkL (i := 20) rfl hSS ?_
                    clear hSS
                    refine wpAnyE_one (i := 24) (by kernel_rfl) rfl (fun Kn hK => ?_)
                    go_simp
                    refine (leafC l1 l2 l4 l5).mono ?_
                    rintro ee wz ⟨rfl, b9⟩
                    replace BB := BB.trans (b9.mono BB.size); replace q3 := q3.below b9; clear l1 l2 l3 l4 l5
                    have hSS : (fun X : World => X.cell? ⟨X3, 0, none⟩ = some (.slice ba bn bc) ∧ X.cell? ⟨X3, 1, none⟩ = some (.slice ga gn gc)) wz ∧ True := ⟨⟨q3.cell 0, q3.cell 1⟩, trivial⟩
                    (try dsimp only)
                    refine hK.out _ _ ⟨hSS.1, fun _ => trivial⟩ ?_
                    clear hK
                    refine tkL (i := 25) rfl hSS ?_
                    refine wpAnyE_one (i := 26) (by kernel_rfl) rfl (fun Kn hK => ?_)
                    go_simp
                    refine hK.out _ _ ⟨hSS.1, fun _ => trivial⟩ ?_
                    refine wpAnyE_done (by kernel_rfl) ?_ _
                    clear hSS hK
                    go_wp2
                    go_ret
                    exact ⟨rfl, BB⟩
              · go_simp
                obtain ⟨V7, Xl4, hV, hX, al, l4⟩ := newLit V6 [.int .i64 0, .int .i64 0, .int .i64 0] 3
                rw [← hV, ← hX]
                replace BB := BB.trans (al.mono BB.size); replace l1 := l1.below al; replace q3 := q3.below al
                refine hK.out _ _ ⟨⟨q3.cell 0, q3.cell 1⟩, fun _ => trivial⟩ ?_
                clear hK hV hX al
                refine wpAnyE_three (i0 := 19) (i1 := 21) (i2 := 23) (by kernel_rfl) rfl rfl rfl (fun Kn hK => ?_) (fun Kn hK => ?_) (fun Kn hK => ?_)
                · go_simp
                  obtain ⟨V8, Xl2, hV, hX, al, l2⟩ := newLit V7 [.int .i64 0] 3
                  rw [← hV, ← hX]
                  replace BB := BB.trans (al.mono BB.size); replace l1 := l1.below al; replace l4 := l4.below al; replace q3 := q3.below al
                  refine hK.out _ _ ⟨⟨q3.cell 0, q3.cell 1⟩, fun _ => trivial⟩ ?_
                  clear hK hV hX al
                  have hSS : (V8.cell? ⟨X3, 0, none⟩ = some (.slice ba bn bc) ∧ V8.cell? ⟨X3, 1, none⟩ = some (.slice ga gn gc)) ∧ True := ⟨⟨q3.cell 0, q3.cell 1⟩, trivial⟩
                  refine tkL (i := 20) rfl hSS ?_
                  clear hSS
                  refine wpAnyE_two (i := 21) (j := 23) (by kernel_rfl) rfl rfl (fun Kn hK => ?_) (fun Kn hK => ?_)
                  · go_simp
                    obtain ⟨V9, Xl3, hV, hX, al, l3⟩ := newLit V8 [] 26
                    rw [← hV, ← hX]
                    replace BB := BB.trans (al.mono BB.size); replace l1 := l1.below al; replace l4 := l4.below al; replace l2 := l2.below al; replace q3 := q3.below al
                    refine hK.out _ _ ⟨⟨q3.cell 0, q3.cell 1⟩, fun _ => trivial⟩ ?_
                    clear hK hV hX al
                    refine wpAnyE_one (i := 23) (by kernel_rfl) rfl (fun Kn hK => ?_)
                    go_simp
                    obtain ⟨V10, Xl5, hV, hX, al, l5⟩ := newLit V9 [.slice (some ⟨Xl4, 0, none⟩) 3 3] 26
                    rw [← hV, ← hX]
                    replace BB := BB.trans (al.mono BB.size); replace l1 := l1.below al; replace l4 := l4.below al; replace l2 := l2.below al; replace l3 := l3.below al; replace q3 := q3.below al
                    refine hK.out _ _ ⟨⟨q3.cell 0, q3.cell 1⟩, fun _ => trivial⟩ ?_
                    clear hK hV hX al
                    refine wpAnyE_one (i := 24) (by kernel_rfl) rfl (fun Kn hK => ?_)
                    go_simp
                    refine (leafC l1 l2 l4 l5).mono ?_
                    rintro ee wz ⟨rfl, b9⟩
                    replace BB := BB.trans (b9.mono BB.size); replace q3 := q3.below b9; clear l1 l2 l3 l4 l5
                    have hSS : (fun X : World => X.cell? ⟨X3, 0, none⟩ = some (.slice ba bn bc) ∧ X.cell? ⟨X3, 1, none⟩ = some (.slice ga gn gc)) wz ∧ True := ⟨⟨q3.cell 0, q3.cell 1⟩, trivial⟩
                    (try dsimp only)
                    refine hK.out _ _ ⟨hSS.1, fun _ => trivial⟩ ?_
                    clear hK
                    refine tkL (i := 25) rfl hSS ?_
                    refine wpAnyE_one (i := 26) (by kernel_rfl) rfl (fun Kn hK => ?_)
                    go_simp
                    refine hK.out _ _ ⟨hSS.1, fun _ => trivial⟩ ?_
                    refine wpAnyE_done (by kernel_rfl) ?_ _
                    clear hSS hK
                    go_wp2
                    go_ret
                    exact ⟨rfl, BB⟩
                  · go_simp
                    obtain ⟨V9, Xl5, hV, hX, al, l5⟩ := newLit V8 [.slice (some ⟨Xl4, 0, none⟩) 3 3] 26
                    rw [← hV, ← hX]
                    replace BB := BB.trans (al.mono BB.size); replace l1 := l1.below al; replace l4 := l4.below al; replace l2 := l2.below al; replace q3 := q3.below al
                    refine hK.out _ _ ⟨⟨q3.cell 0, q3.cell 1⟩, fun _ => trivial⟩ ?_
                    clear hK hV hX al
                    refine wpAnyE_one (i := 21) (by kernel_rfl) rfl (fun Kn hK => ?_)
                    go_simp
                    obtain ⟨V10, Xl3, hV, hX, al, l3⟩ := newLit V9 [] 26
                    rw [← hV, ← hX]
                    replace BB := BB.trans (al.mono BB.size); replace l1 := l1.below al; replace l4 := l4.below al; replace l2 := l2.below al; replace l5 := l5.below al; replace q3 := q3.below al
                    refine hK.out _ _ ⟨⟨q3.cell 0, q3.cell 1⟩, fun _ => trivial⟩ ?_
                    clear hK hV hX al
                    refine wpAnyE_one (i := 24) (by kernel_rfl) rfl (fun Kn hK => ?_)
                    go_simp
                    refine (leafC l1 l2 l4 l5).mono ?_
                    rintro ee wz ⟨rfl, b9⟩
                    replace BB := BB.trans (b9.mono BB.size); replace q3 := q3.below b9; clear l1 l2 l3 l4 l5
                    have hSS : (fun X : World => X.cell? ⟨X3, 0, none⟩ = some (.slice ba bn bc) ∧ X.cell? ⟨X3, 1, none⟩ = some (.slice ga gn gc)) wz ∧ True := ⟨⟨q3.cell 0, q3.cell 1⟩, trivial⟩
                    (try dsimp only)
                    refine hK.out _ _ ⟨hSS.1, fun _ => trivial⟩ ?_
                    clear hK
                    refine tkL (i := 25) rfl hSS ?_
                    refine wpAnyE_one (i := 26) (by kernel_rfl) rfl (fun Kn hK => ?_)
                    go_simp
                    refine hK.out _ _ ⟨hSS.1, fun _ => trivial⟩ ?_
                    refine wpAnyE_done (by kernel_rfl) ?_ _
                    clear hSS hK
                    go_wp2
                    go_ret
                    exact ⟨rfl, BB⟩
                · go_simp
                  obtain ⟨V8, Xl3, hV, hX, al, l3⟩ := newLit V7 [] 26
                  rw [← hV, ← hX]
                  replace BB := BB.trans (al.mono BB.size); replace l1 := l1.below al; replace l4 := l4.below al; replace q3 := q3.below al
                  refine hK.out _ _ ⟨⟨q3.cell 0, q3.cell 1⟩, fun _ => trivial⟩ ?_
                  clear hK hV hX al
                  refine wpAnyE_two (i := 19) (j := 23) (by kernel_rfl) rfl rfl (fun Kn hK => ?_) (fun Kn hK => ?_)
                  · go_simp
                    obtain ⟨V9, Xl2, hV, hX, al, l2⟩ := newLit V8 [.int .i64 0] 3
                    rw [← hV, ← hX]
                    replace BB := BB.trans (al.mono BB.size); replace l1 := l1.below al; replace l4 := l4.below al; replace l3 := l3.below al; replace q3 := q3.below al
                    refine hK.out _ _ ⟨⟨q3.cell 0, q3.cell 1⟩, fun _ => trivial⟩ ?_
                    clear hK hV hX al
                    have hSS : (V9.cell? ⟨X3, 0, none⟩ = some (.slice ba bn bc) ∧ V9.cell? ⟨X3, 1, none⟩ = some (.slice ga gn gc)) ∧ True := ⟨⟨q3.cell 0, q3.cell 1⟩, trivial⟩
                    refine tkL (i := 20) rfl hSS ?_
                    clear hSS
                    refine wpAnyE_one (i := 23) (by kernel_rfl) rfl (fun Kn hK => ?_)
                    go_simp
                    obtain ⟨V10, Xl5, hV, hX, al, l5⟩ := newLit V9 [.slice (some ⟨Xl4, 0, none⟩) 3 3] 26
                    rw [← hV, ← hX]
                    replace BB := BB.trans (al.mono BB.size); replace l1 := l1.below al; replace l4 := l4.below al; replace l3 := l3.below al; replace l2 := l2.below al; replace q3 := q3.below al
                    refine hK.out _ _ ⟨⟨q3.cell 0, q3.cell 1⟩, fun _ => trivial⟩ ?_
                    clear hK hV hX al
                    refine wpAnyE_one (i := 24) (by kernel_rfl) rfl (fun Kn hK => ?_)
                    go_simp
                    refine (leafC l1 l2 l4 l5).mono ?_
                    rintro ee wz ⟨rfl, b9⟩
                    replace BB := BB.trans (b9.mono BB.size); replace q3 := q3.below b9; clear l1 l2 l3 l4 l5
                    have hSS : (fun X : World => X.cell? ⟨X3, 0, none⟩ = some (.slice ba bn bc) ∧ X.cell? ⟨X3, 1, none⟩ = some (.slice ga gn gc)) wz ∧ True := ⟨⟨q3.cell 0, q3.cell 1⟩, trivial⟩
                    (try dsimp only)
                    refine hK.out _ _ ⟨hSS.1, fun _ => trivial⟩ ?_
                    clear hK
                    refine tkL (i := 25) rfl hSS ?_
                    refine wpAnyE_one (i := 26) (by kernel_rfl) rfl (fun Kn hK => ?_)
                    go_simp
                    refine hK.out _ _ ⟨hSS.1, fun _ => trivial⟩ ?_
                    refine wpAnyE_done (by kernel_rfl) ?_ _
                    clear hSS hK
                    go_wp2
                    go_ret
                    exact ⟨rfl, BB⟩
                  · go_simp
                    obtain ⟨V9, Xl5, hV, hX, al, l5⟩ := newLit V8 [.slice (some ⟨Xl4, 0, none⟩) 3 3] 26
                    rw [← hV, ← hX]
                    replace BB := BB.trans (al.mono BB.size); replace l1 := l1.below al; replace l4 := l4.below al; replace l3 := l3.below al; replace q3 := q3.below al
                    refine hK.out _ _ ⟨⟨q3.cell 0, q3.cell 1⟩, fun _ => trivial⟩ ?_
                    clear hK hV hX al
                    refine wpAnyE_one (i := 19) (by kernel_rfl) rfl (fun Kn hK => ?_)
                    go_simp
                    obtain ⟨V10, Xl2, hV, hX, al, l2⟩ := newLit V9 [.int .i64 0] 3
                    rw [← hV, ← hX]
                    replace BB := BB.trans (al.mono BB.size); replace l1 := l1.below al; replace l4 := l4.below al; replace l3 := l3.below al; replace l5 := l5.below al; replace q3 := q3.below al
                    refine hK.out _ _ ⟨⟨q3.cell 0, q3.cell 1⟩, fun _ => trivial⟩ ?_
                    clear hK hV hX al
                    have hSS : (V10.cell? ⟨X3, 0, none⟩ = some (.slice ba bn bc) ∧ V10.cell? ⟨X3, 1, none⟩ = some (.slice ga gn gc)) ∧ True := ⟨⟨q3.cell 0, q3.cell 1⟩, trivial⟩
                    refine tkL (i := 20) rfl hSS ?_
                    clear hSS
                    refine wpAnyE_one (i := 24) (by kernel_rfl) rfl (fun Kn hK => ?_)
                    go_simp
                    refine (leafC l1 l2 l4 l5).mono ?_
                    rintro ee wz ⟨rfl, b9⟩
                    replace BB := BB.trans (b9.mono BB.size); replace q3 := q3.below b9; clear l1 l2 l3 l4 l5
                    have hSS : (fun X : World => X.cell? ⟨X3, 0, none⟩ = some (.slice ba bn bc) ∧ X.cell? ⟨X3, 1, none⟩ = some (.slice ga gn gc)) wz ∧ True := ⟨⟨q3.cell 0, q3.cell 1⟩, trivial⟩
                    (try dsimp only)
                    refine hK.out _ _ ⟨hSS.1, fun _ => trivial⟩ ?_
                    clear hK
                    refine tkL (i := 25) rfl hSS ?_
                    refine wpAnyE_one (i := 26) (by kernel_rfl) rfl (fun Kn hK => ?_)
                    go_simp
                    refine hK.out _ _ ⟨hSS.1, fun _ => trivial⟩ ?_
                    refine wpAnyE_done (by kernel_rfl) ?_ _
                    clear hSS hK
                    go_wp2
                    go_ret
                    exact ⟨rfl, BB⟩
                · go_simp
                  obtain ⟨V8, Xl5, hV, hX, al, l5⟩ := newLit V7 [.slice (some ⟨Xl4, 0, none⟩) 3 3] 26
                  rw [← hV, ← hX]
                  replace BB := BB.trans (al.mono BB.size); replace l1 := l1.below al; replace l4 := l4.below al; replace q3 := q3.below al
                  refine hK.out _ _ ⟨⟨q3.cell 0, q3.cell 1⟩, fun _ => trivial⟩ ?_
                  clear hK hV hX al
                  refine wpAnyE_two (i := 19) (j := 21) (by kernel_rfl) rfl rfl (fun Kn hK => ?_) (fun Kn hK => ?_)
                  · go_simp
                    obtain ⟨V9, Xl2, hV, hX, al, l2⟩ := newLit V8 [.int .i64 0] 3
                    rw [← hV, ← hX]
                    replace BB := BB.trans (al.mono BB.size); replace l1 := l1.below al; replace l4 := l4.below al; replace l5 := l5.below al; replace q3 := q3.below al
                    refine hK.out _ _ ⟨⟨q3.cell 0, q3.cell 1⟩, fun _ => trivial⟩ ?_
                    clear hK hV hX al
                    have hSS : (V9.cell? ⟨X3, 0, none⟩ = some (.slice ba bn bc) ∧ V9.cell? ⟨X3, 1, none⟩ = some (.slice ga gn gc)) ∧ True := ⟨⟨q3.cell 0, q3.cell 1⟩, trivial⟩
                    refine tkL (i := 20) rfl hSS ?_
                    clear hSS
                    refine wpAnyE_one (i := 21) (by kernel_rfl) rfl (fun Kn hK => ?_)
                    go_simp
                    obtain ⟨V10, Xl3, hV, hX, al, l3⟩ := newLit V9 [] 26
                    rw [← hV, ← hX]
                    replace BB := BB.trans (al.mono BB.size); replace l1 := l1.below al; replace l4 := l4.below al; replace l5 := l5.below al; replace l2 := l2.below al; replace q3 := q3.below al
                    refine hK.out _ _ ⟨⟨q3.cell 0, q3.cell 1⟩, fun _ => trivial⟩ ?_
                    clear hK hV hX al
                    refine wpAnyE_one (i := 24) (by kernel_rfl) rfl (fun Kn hK => ?_)
                    go_simp
                    refine (leafC l1 l2 l4 l5).mono ?_
                    rintro ee wz ⟨rfl, b9⟩
                    replace BB := BB.trans (b9.mono BB.size); replace q3 := q3.below b9; clear l1 l2 l3 l4 l5
                    have hSS : (fun X : World => X.cell? ⟨X3, 0, none⟩ = some (.slice ba bn bc) ∧ X.cell? ⟨X3, 1, none⟩ = some (.slice ga gn gc)) wz ∧ True := ⟨⟨q3.cell 0, q3.cell 1⟩, trivial⟩
                    (try dsimp only)
                    refine hK.out _ _ ⟨hSS.1, fun _ => trivial⟩ ?_
                    clear hK
                    refine tkL (i := 25) rfl hSS ?_
                    refine wpAnyE_one (i := 26) (by kernel_rfl) rfl (fun Kn hK => ?_)
                    go_simp
                    refine hK.out _ _ ⟨hSS.1, fun _ => trivial⟩ ?_
                    refine wpAnyE_done (by kernel_rfl) ?_ _
                    clear hSS hK
                    go_wp2
                    go_ret
                    exact ⟨rfl, BB⟩
                  · go_simp
                    obtain ⟨V9, Xl3, hV, hX, al, l3⟩ := newLit V8 [] 26
                    rw [← hV, ← hX]
                    replace BB := BB.trans (al.mono BB.size); replace l1 := l1.below al; replace l4 := l4.below al; replace l5 := l5.below al; replace q3 := q3.below al
                    refine hK.out _ _ ⟨⟨q3.cell 0, q3.cell 1⟩, fun _ => trivial⟩ ?_
                    clear hK hV hX al
                    refine wpAnyE_one (i := 19) (by kernel_rfl) rfl (fun Kn hK => ?_)
                    go_simp
                    obtain ⟨V10, Xl2, hV, hX, al, l2⟩ := newLit V9 [.int .i64 0] 3
                    rw [← hV, ← hX]
                    replace BB := BB.trans (al.mono BB.size); replace l1 := l1.below al; replace l4 := l4.below al; replace l5 := l5.below al; replace l3 := l3.below al; replace q3 := q3.below al
                    refine hK.out _ _ ⟨⟨q3.cell 0, q3.cell 1⟩, fun _ => trivial⟩ ?_
                    clear hK hV hX al
                    have hSS : (V10.cell? ⟨X3, 0, none⟩ = some (.slice ba bn bc) ∧ V10.cell? ⟨X3, 1, none⟩ = some (.slice ga gn gc)) ∧ True := ⟨⟨q3.cell 0, q3.cell 1⟩, trivial⟩
                    refine tkL (i := 20) rfl hSS ?_
                    clear hSS
                    refine wpAnyE_one (i := 24) (by kernel_rfl) rfl (fun Kn hK => ?_)
                    go_simp
                    refine (leafC l1 l2 l4 l5).mono ?_
                    rintro ee wz ⟨rfl, b9⟩
                    replace BB := BB.trans (b9.mono BB.size); replace q3 := q3.below b9; clear l1 l2 l3 l4 l5
                    have hSS : (fun X : World => X.cell? ⟨X3, 0, none⟩ = some (.slice ba bn bc) ∧ X.cell? ⟨X3, 1, none⟩ = some (.slice ga gn gc)) wz ∧ True := ⟨⟨q3.cell 0, q3.cell 1⟩, trivial⟩
                    (try dsimp only)
                    refine hK.out _ _ ⟨hSS.1, fun _ => trivial⟩ ?_
                    clear hK
                    refine tkL (i := 25) rfl hSS ?_
                    refine wpAnyE_one (i := 26) (by kernel_rfl) rfl (fun Kn hK => ?_)
                    go_simp
                    refine hK.out _ _ ⟨hSS.1, fun _ => trivial⟩ ?_
                    refine wpAnyE_done (by kernel_rfl) ?_ _
                    clear hSS hK
                    go_wp2
                    go_ret
                    exact ⟨rfl, BB⟩
            · go_simp
              obtain ⟨V6, Xl2, hV, hX, al, l2⟩ := newLit w5 [.int .i64 0] 3
              rw [← hV, ← hX]
              replace BB := BB.trans (al.mono BB.size); replace q3 := q3.below al
              refine hK.out _ _ ⟨⟨q3.cell 0, q3.cell 1⟩, fun _ => trivial⟩ ?_
              clear hK hV hX al
              refine wpAnyE_three (i0 := 18) (i1 := 21) (i2 := 22) (by kernel_rfl) rfl rfl rfl (fun Kn hK => ?_) (fun Kn hK => ?_) (fun Kn hK => ?_)
              · go_simp
                obtain ⟨V7, Xl1, hV, hX, al, l1⟩ := newLit V6 [.int .i64 0, .int .i64 0, .int .i64 0] 3
                rw [← hV, ← hX]
                replace BB := BB.trans (al.mono BB.size); replace l2 := l2.below al; replace q3 := q3.below al
                refine hK.out _ _ ⟨⟨q3.cell 0, q3.cell 1⟩, fun _ => trivial⟩ ?_
                clear hK hV hX al
                have hSS : (V7.cell? ⟨X3, 0, none⟩ = some (.slice ba bn bc) ∧ V7.cell? ⟨X3, 1, none⟩ = some (.slice ga gn gc)) ∧ True := ⟨⟨q3.cell 0, q3.cell 1⟩, trivial⟩
                refine tkL (i := 20) rfl hSS ?_
                clear hSS
                refine wpAnyE_two (i := 21) (j := 22) (by kernel_rfl) rfl rfl (fun Kn hK => ?_) (fun Kn hK => ?_)
                · go_simp
                  obtain ⟨V8, Xl3, hV, hX, al, l3⟩ := newLit V7 [] 26
                  rw [← hV, ← hX]
                  replace BB := BB.trans (al.mono BB.size); replace l2 := l2.below al; replace l1 := l1.below al; replace q3 := q3.below al
                  refine hK.out _ _ ⟨⟨q3.cell 0, q3.cell 1⟩, fun _ => trivial⟩ ?_
                  clear hK hV hX al
                  refine wpAnyE_one (i := 22) (by kernel_rfl) rfl (fun Kn hK => ?_)
                  go_simp
                  obtain ⟨V9, Xl4, hV, hX, al, l4⟩ := newLit V8 [.int .i64 0, .int .i64 0, .int .i64 0] 3
                  rw [← hV, ← hX]
                  replace BB := BB.trans (al.mono BB.size); replace l2 := l2.below al; replace l1 := l1.below al; replace l3 := l3.below al; replace q3 := q3.below al
                  refine hK.out _ _ ⟨⟨q3.cell 0, q3.cell 1⟩, fun _ => trivial⟩ ?_
                  clear hK hV hX al
                  refine wpAnyE_one (i := 23) (by kernel_rfl) rfl (fun Kn hK => ?_)
                  go_simp
                  obtain ⟨V10, Xl5, hV, hX, al, l5⟩ := newLit V9 [.slice (some ⟨Xl4, 0, none⟩) 3 3] 26
                  rw [← hV, ← hX]
                  replace BB := BB.trans (al.mono BB.size); replace l2 := l2.below al; replace l1 := l1.below al; replace l3 := l3.below al; replace l4 := l4.below al; replace q3 := q3.below al
                  refine hK.out _ _ ⟨⟨q3.cell 0, q3.cell 1⟩, fun _ => trivial⟩ ?_
                  clear hK hV hX al
                  refine wpAnyE_one (i := 24) (by kernel_rfl) rfl (fun Kn hK => ?_)
                  go_simp
                  refine (leafC l1 l2 l4 l5).mono ?_
                  rintro ee wz ⟨rfl, b9⟩
                  replace BB := BB.trans (b9.mono BB.size); replace q3 := q3.below b9; clear l1 l2 l3 l4 l5
                  have hSS : (fun X : World => X.cell? ⟨X3, 0, none⟩ = some (.slice ba bn bc) ∧ X.cell? ⟨X3, 1, none⟩ = some (.slice ga gn gc)) wz ∧ True := ⟨⟨q3.cell 0, q3.cell 1⟩, trivial⟩
                  (try dsimp only)
                  refine hK.out _ _ ⟨hSS.1, fun _ => trivial⟩ ?_
                  clear hK
                  refine tkL (i := 25) rfl hSS ?_
                  refine wpAnyE_one (i := 26) (by kernel_rfl) rfl (fun Kn hK => ?_)
                  go_simp
                  refine hK.out _ _ ⟨hSS.1, fun _ => trivial⟩ ?_
                  refine wpAnyE_done (by kernel_rfl) ?_ _
                  clear hSS hK
                  go_wp2
                  go_ret
                  exact ⟨rfl, BB⟩
                · go_simp
                  obtain ⟨V8, Xl4, hV, hX, al, l4⟩ := newLit V7 [.int .i64 0, .int .i64 0, .int .i64 0] 3
                  rw [← hV, ← hX]
                  replace BB := BB.trans (al.mono BB.size); replace l2 := l2.below al; replace l1 := l1.below al; replace q3 := q3.below al
                  refine hK.out _ _ ⟨⟨q3.cell 0, q3.cell 1⟩, fun _ => trivial⟩ ?_
                  clear hK hV hX al
                  refine wpAnyE_two (i := 21) (j := 23) (by kernel_rfl) rfl rfl (fun Kn hK => ?_) (fun Kn hK => ?_)
                  · go_simp
                    obtain ⟨V9, Xl3, hV, hX, al, l3⟩ := newLit V8 [] 26
                    rw [← hV, ← hX]
                    replace BB := BB.trans (al.mono BB.size); replace l2 := l2.below al; replace l1 := l1.below al; replace l4 := l4.below al; replace q3 := q3.below al
                    refine hK.out _ _ ⟨⟨q3.cell 0, q3.cell 1⟩, fun _ => trivial⟩ ?_
                    clear hK hV hX al
                    refine wpAnyE_one (i := 23) (by kernel_rfl) rfl (fun Kn hK => ?_)
                    go_simp
                    obtain ⟨V10, Xl5, hV, hX, al, l5⟩ := newLit V9 [.slice (some ⟨Xl4, 0, none⟩) 3 3] 26
                    rw [← hV, ← hX]
                    replace BB := BB.trans (al.mono BB.size); replace l2 := l2.below al; replace l1 := l1.below al; replace l4 := l4.below al; replace l3 := l3.below al; replace q3 := q3.below al
                    refine hK.out _ _ ⟨⟨q3.cell 0, q3.cell 1⟩, fun _ => trivial⟩ ?_
                    clear hK hV hX al
                    refine wpAnyE_one (i := 24) (by kernel_rfl) rfl (fun Kn hK => ?_)
                    go_simp
                    refine (leafC l1 l2 l4 l5).mono ?_
                    rintro ee wz ⟨rfl, b9⟩
                    replace BB := BB.trans (b9.mono BB.size); replace q3 := q3.below b9; clear l1 l2 l3 l4 l5
                    have hSS : (fun X : World => X.cell? ⟨X3, 0, none⟩ = some (.slice ba bn bc) ∧ X.cell? ⟨X3, 1, none⟩ = some (.slice ga gn gc)) wz ∧ True := ⟨⟨q3.cell 0, q3.cell 1⟩, trivial⟩
                    (try dsimp only)
                    refine hK.out _ _ ⟨hSS.1, fun _ => trivial⟩ ?_
                    clear hK
                    refine tkL (i := 25) rfl hSS ?_
                    refine wpAnyE_one (i := 26) (by kernel_rfl) rfl (fun Kn hK => ?_)
                    go_simp
                    refine hK.out _ _ ⟨hSS.1, fun _ => trivial⟩ ?_
                    refine wpAnyE_done (by kernel_rfl) ?_ _
                    clear hSS hK
                    go_wp2
                    go_ret
                    exact ⟨rfl, BB⟩
                  · go_simp
                    obtain ⟨V9, Xl5, hV, hX, al, l5⟩ := newLit V8 [.slice (some ⟨Xl4, 0, none⟩) 3 3] 26
                    rw [← hV, ← hX]
                    replace BB := BB.trans (al.mono BB.size); replace l2 := l2.below al; replace l1 := l1.below al; replace l4 := l4.below al; replace q3 := q3.below al
                    refine hK.out _ _ ⟨⟨q3.cell 0, q3.cell 1⟩, fun _ => trivial⟩ ?_
                    clear hK hV hX al
                    refine wpAnyE_one (i := 21) (by kernel_rfl) rfl (fun Kn hK => ?_)
                    go_simp
                    obtain ⟨V10, Xl3, hV, hX, al, l3⟩ := newLit V9 [] 26
                    rw [← hV, ← hX]
                    replace BB := BB.trans (al.mono BB.size); replace l2 := l2.below al; replace l1 := l1.below al; replace l4 := l4.below al; replace l5 := l5.below al; replace q3 := q3.below al
                    refine hK.out _ _ ⟨⟨q3.cell 0, q3.cell 1⟩, fun _ => trivial⟩ ?_
                    clear hK hV hX al
                    refine wpAnyE_one (i := 24) (by kernel_rfl) rfl (fun Kn hK => ?_)
                    go_simp
                    refine (leafC l1 l2 l4 l5).mono ?_
                    rintro ee wz ⟨rfl, b9⟩
                    replace BB := BB.trans (b9.mono BB.size); replace q3 := q3.below b9; clear l1 l2 l3 l4 l5
                    have hSS : (fun X : World => X.cell? ⟨X3, 0, none⟩ = some (.slice ba bn bc) ∧ X.cell? ⟨X3, 1, none⟩ = some (.slice ga gn gc)) wz ∧ True := ⟨⟨q3.cell 0, q3.cell 1⟩, trivial⟩
                    (try dsimp only)
                    refine hK.out _ _ ⟨hSS.1, fun _ => trivial⟩ ?_
                    clear hK
                    refine tkL (i := 25) rfl hSS ?_
                    refine wpAnyE_one (i := 26) (by kernel_rfl) rfl (fun Kn hK => ?_)
                    go_simp
                    refine hK.out _ _ ⟨hSS.1, fun _ => trivial⟩ ?_
                    refine wpAnyE_done (by kernel_rfl) ?_ _
                    clear hSS hK
                    go_wp2
                    go_ret
                    exact ⟨rfl, BB⟩
              · go_simp
                obtain ⟨V7, Xl3, hV, hX, al, l3⟩ := newLit V6 [] 26
                rw [← hV, ← hX]
                replace BB := BB.trans (al.mono BB.size); replace l2 := l2.below al; replace q3 := q3.below al
                refine hK.out _ _ ⟨⟨q3.cell 0, q3.cell 1⟩, fun _ => trivial⟩ ?_
                clear hK hV hX al
                refine wpAnyE_two (i := 18) (j := 22) (by kernel_rfl) rfl rfl (fun Kn hK => ?_) (fun Kn hK => ?_)
                · go_simp
                  obtain ⟨V8, Xl1, hV, hX, al, l1⟩ := newLit V7 [.int .i64 0, .int .i64 0, .int .i64 0] 3
                  rw [← hV, ← hX]
                  replace BB := BB.trans (al.mono BB.size); replace l2 := l2.below al; replace l3 := l3.below al; replace q3 := q3.below al
                  refine hK.out _ _ ⟨⟨q3.cell 0, q3.cell 1⟩, fun _ => trivial⟩ ?_
                  clear hK hV hX al
                  have hSS : (V8.cell? ⟨X3, 0, none⟩ = some (.slice ba bn bc) ∧ V8.cell? ⟨X3, 1, none⟩ = some (.slice ga gn gc)) ∧ True := ⟨⟨q3.cell 0, q3.cell 1⟩, trivial⟩
                  refine tkL (i := 20) rfl hSS ?_
                  clear hSS
                  refine wpAnyE_one (i := 22) (by kernel_rfl) rfl (fun Kn hK => ?_)
                  go_simp
                  obtain ⟨V9, Xl4, hV, hX, al, l4⟩ := newLit V8 [.int .i64 0, .int .i64 0, .int .i64 0] 3
                  rw [← hV, ← hX]
                  replace BB := BB.trans (al.mono BB.size); replace l2 := l2.below al; replace l3 := l3.below al; replace l1 := l1.below al; replace q3 := q3.below al
                  refine hK.out _ _ ⟨⟨q3.cell 0, q3.cell 1⟩, fun _ => trivial⟩ ?_
                  clear hK hV hX al
                  refine wpAnyE_one (i := 23) (by kernel_rfl) rfl (fun Kn hK => ?_)
                  go_simp
                  obtain ⟨V10, Xl5, hV, hX, al, l5⟩ := newLit V9 [.slice (some ⟨Xl4, 0, none⟩) 3 3] 26
                  rw [← hV, ← hX]
                  replace BB := BB.trans (al.mono BB.size); replace l2 := l2.below al; replace l3 := l3.below al; replace l1 := l1.below al; replace l4 := l4.below al; replace q3 := q3.below al
                  refine hK.out _ _ ⟨⟨q3.cell 0, q3.cell 1⟩, fun _ => trivial⟩ ?_
                  clear hK hV hX al
                  refine wpAnyE_one (i := 24) (by kernel_rfl) rfl (fun Kn hK => ?_)
                  go_simp
                  refine (leafC l1 l2 l4 l5).mono ?_
                  rintro ee wz ⟨rfl, b9⟩
                  replace BB := BB.trans (b9.mono BB.size); replace q3 := q3.below b9; clear l1 l2 l3 l4 l5
                  have hSS : (fun X : World => X.cell? ⟨X3, 0, none⟩ = some (.slice ba bn bc) ∧ X.cell? ⟨X3, 1, none⟩ = some (.slice ga gn gc)) wz ∧ True := ⟨⟨q3.cell 0, q3.cell 1⟩, trivial⟩
                  (try dsimp only)
                  refine hK.out _ _ ⟨hSS.1, fun _ => trivial⟩ ?_
                  clear hK
                  refine tkL (i := 25) rfl hSS ?_
                  refine wpAnyE_one (i := 26) (by kernel_rfl) rfl (fun Kn hK => ?_)
                  go_simp
                  refine hK.out _ _ ⟨hSS.1, fun _ => trivial⟩ ?_
                  refine wpAnyE_done (by kernel_rfl) ?_ _
                  clear hSS hK
                  go_wp2
                  go_ret
                  exact ⟨rfl, BB⟩
                · go_simp
                  obtain ⟨V8, Xl4, hV, hX, al, l4⟩ := newLit V7 [.int .i64 0, .int .i64 0, .int .i64 0] 3
                  rw [← hV, ← hX]
                  replace BB := BB.trans (al.mono BB.size); replace l2 := l2.below al; replace l3 := l3.below al; replace q3 := q3.below al
                  refine hK.out _ _ ⟨⟨q3.cell 0, q3.cell 1⟩, fun _ => trivial⟩ ?_
                  clear hK hV hX al
                  refine wpAnyE_two (i := 18) (j := 23) (by kernel_rfl) rfl rfl (fun Kn hK => ?_) (fun Kn hK => ?_)
                  · go_simp
                    obtain ⟨V9, Xl1, hV, hX, al, l1⟩ := newLit V8 [.int .i64 0, .int .i64 0, .int .i64 0] 3
                    rw [← hV, ← hX]
                    replace BB := BB.trans (al.mono BB.size); replace l2 := l2.below al; replace l3 := l3.below al; replace l4 := l4.below al; replace q3 := q3.below al
                    refine hK.out _ _ ⟨⟨q3.cell 0, q3.cell 1⟩, fun _ => trivial⟩ ?_
                    clear hK hV hX al
                    have hSS : (V9.cell? ⟨X3, 0, none⟩ = some (.slice ba bn bc) ∧ V9.cell? ⟨X3, 1, none⟩ = some (.slice ga gn gc)) ∧ True := ⟨⟨q3.cell 0, q3.cell 1⟩, trivial⟩
                    refine tkL (i := 20) rfl hSS ?_
                    clear hSS
                    refine wpAnyE_one (i := 23) (by kernel_rfl) rfl (fun Kn hK => ?_)
                    go_simp
                    obtain ⟨V10, Xl5, hV, hX, al, l5⟩ := newLit V9 [.slice (some ⟨Xl4, 0, none⟩) 3 3] 26
                    rw [← hV, ← hX]
                    replace BB := BB.trans (al.mono BB.size); replace l2 := l2.below al; replace l3 := l3.below al; replace l4 := l4.below al; replace l1 := l1.below al; replace q3 := q3.below al
                    refine hK.out _ _ ⟨⟨q3.cell 0, q3.cell 1⟩, fun _ => trivial⟩ ?_
                    clear hK hV hX al
                    refine wpAnyE_one (i := 24) (by kernel_rfl) rfl (fun Kn hK => ?_)
                    go_simp
                    refine (leafC l1 l2 l4 l5).mono ?_
                    rintro ee wz ⟨rfl, b9⟩
                    replace BB := BB.trans (b9.mono BB.size); replace q3 := q3.below b9; clear l1 l2 l3 l4 l5
                    have hSS : (fun X : World => X.cell? ⟨X3, 0, none⟩ = some (.slice ba bn bc) ∧ X.cell? ⟨X3, 1, none⟩ = some (.slice ga gn gc)) wz ∧ True := ⟨⟨q3.cell 0, q3.cell 1⟩, trivial⟩
                    (try dsimp only)
                    refine hK.out _ _ ⟨hSS.1, fun _ => trivial⟩ ?_
                    clear hK
                    refine tkL (i := 25) rfl hSS ?_
                    refine wpAnyE_one (i := 26) (by kernel_rfl) rfl (fun Kn hK => ?_)
                    go_simp
                    refine hK.out _ _ ⟨hSS.1, fun _ => trivial⟩ ?_
                    refine wpAnyE_done (by kernel_rfl) ?_ _
                    clear hSS hK
                    go_wp2
                    go_ret
                    exact ⟨rfl, BB⟩
                  · go_simp
                    obtain ⟨V9, Xl5, hV, hX, al, l5⟩ := newLit V8 [.slice (some ⟨Xl4, 0, none⟩) 3 3] 26
                    rw [← hV, ← hX]
                    replace BB := BB.trans (al.mono BB.size); replace l2 := l2.below al; replace l3 := l3.below al; replace l4 := l4.below al; replace q3 := q3.below al
                    refine hK.out _ _ ⟨⟨q3.cell 0, q3.cell 1⟩, fun _ => trivial⟩ ?_
                    clear hK hV hX al
                    refine wpAnyE_one (i := 18) (by kernel_rfl) rfl (fun Kn hK => ?_)
                    go_simp
                    obtain ⟨V10, Xl1, hV, hX, al, l1⟩ := newLit V9 [.int .i64 0, .int .i64 0, .int .i64 0] 3
                    rw [← hV, ← hX]
                    replace BB := BB.trans (al.mono BB.size); replace l2 := l2.below al; replace l3 := l3.below al; replace l4 := l4.below al; replace l5 := l5.below al; replace q3 := q3.below al
                    refine hK.out _ _ ⟨⟨q3.cell 0, q3.cell 1⟩, fun _ => trivial⟩ ?_
                    clear hK hV hX al
                    have hSS : (V10.cell? ⟨X3, 0, none⟩ = some (.slice ba bn bc) ∧ V10.cell? ⟨X3, 1, none⟩ = some (.slice ga gn gc)) ∧ True := ⟨⟨q3.cell 0, q3.cell 1⟩, trivial⟩
                    refine tkL (i := 20) rfl hSS ?_
                    clear hSS
                    refine wpAnyE_one (i := 24) (by kernel_rfl) rfl (fun Kn hK => ?_)
                    go_simp
                    refine (leafC l1 l2 l4 l5).mono ?_
                    rintro ee wz ⟨rfl, b9⟩
                    replace BB := BB.trans (b9.mono BB.size); replace q3 := q3.below b9; clear l1 l2 l3 l4 l5
                    have hSS : (fun X : World => X.cell? ⟨X3, 0, none⟩ = some (.slice ba bn bc) ∧ X.cell? ⟨X3, 1, none⟩ = some (.slice ga gn gc)) wz ∧ True := ⟨⟨q3.cell 0, q3.cell 1⟩, trivial⟩
                    (try dsimp only)
                    refine hK.out _ _ ⟨hSS.1, fun _ => trivial⟩ ?_
                    clear hK
                    refine tkL (i := 25) rfl hSS ?_
                    refine wpAnyE_one (i := 26) (by kernel_rfl) rfl (fun Kn hK => ?_)
                    go_simp
                    refine hK.out _ _ ⟨hSS.1, fun _ => trivial⟩ ?_
                    refine wpAnyE_done (by kernel_rfl) ?_ _
                    clear hSS hK
                    go_wp2
                    go_ret
                    exact ⟨rfl, BB⟩
              · go_simp
                obtain ⟨V7, Xl4, hV, hX, al, l4⟩ := newLit V6 [.int .i64 0, .int .i64 0, .int .i64 0] 3
                rw [← hV, ← hX]
                replace BB := BB.trans (al.mono BB.size); replace l2 := l2.below al; replace q3 := q3.below al
                refine hK.out _ _ ⟨⟨q3.cell 0, q3.cell 1⟩, fun _ => trivial⟩ ?_
                clear hK hV hX al
                refine wpAnyE_three (i0 := 18) (i1 := 21) (i2 := 23) (by kernel_rfl) rfl rfl rfl (fun Kn hK => ?_) (fun Kn hK => ?_) (fun Kn hK => ?_)
                · go_simp
                  obtain ⟨V8, Xl1, hV, hX, al, l1⟩ := newLit V7 [.int .i64 0, .int .i64 0, .int .i64 0] 3
                  rw [← hV, ← hX]
                  replace BB := BB.trans (al.mono BB.size); replace l2 := l2.below al; replace l4 := l4.below al; replace q3 := q3.below al
                  refine hK.out _ _ ⟨⟨q3.cell 0, q3.cell 1⟩, fun _ => trivial⟩ ?_
                  clear hK hV hX al
                  have hSS : (V8.cell? ⟨X3, 0, none⟩ = some (.slice ba bn bc) ∧ V8.cell? ⟨X3, 1, none⟩ = some (.slice ga gn gc)) ∧ True := ⟨⟨q3.cell 0, q3.cell 1⟩, trivial⟩
                  refine tkL (i := 20) rfl hSS ?_
                  clear hSS
                  refine wpAnyE_two (i := 21) (j := 23) (by kernel_rfl) rfl rfl (fun Kn hK => ?_) (fun Kn hK => ?_)
                  · go_simp
                    obtain ⟨V9, Xl3, hV, hX, al, l3⟩ := newLit V8 [] 26
                    rw [← hV, ← hX]
                    replace BB := BB.trans (al.mono BB.size); replace l2 := l2.below al; replace l4 := l4.below al; replace l1 := l1.below al; replace q3 := q3.below al
                    refine hK.out _ _ ⟨⟨q3.cell 0, q3.cell 1⟩, fun _ => trivial⟩ ?_
                    clear hK hV hX al
                    refine wpAnyE_one (i := 23) (by kernel_rfl) rfl (fun Kn hK => ?_)
                    go_simp
                    obtain ⟨V10, Xl5, hV, hX, al, l5⟩ := newLit V9 [.slice (some ⟨Xl4, 0, none⟩) 3 3] 26
                    rw [← hV, ← hX]
                    replace BB := BB.trans (al.mono BB.size); replace l2 := l2.below al; replace l4 := l4.below al; replace l1 := l1.below al; replace l3 := l3.below al; replace q3 := q3.below al
                    refine hK.out _ _ ⟨⟨q3.cell 0, q3.cell 1⟩, fun _ => trivial⟩ ?_
                    clear hK hV hX al
                    refine wpAnyE_one (i := 24) (by kernel_rfl) rfl (fun Kn hK => ?_)
                    go_simp
                    refine (leafC l1 l2 l4 l5).mono ?_
                    rintro ee wz ⟨rfl, b9⟩
                    replace BB := BB.trans (b9.mono BB.size); replace q3 := q3.below b9; clear l1 l2 l3 l4 l5
                    have hSS : (fun X : World => X.cell? ⟨X3, 0, none⟩ = some (.slice ba bn bc) ∧ X.cell? ⟨X3, 1, none⟩ = some (.slice ga gn gc)) wz ∧ True := ⟨⟨q3.cell 0, q3.cell 1⟩, trivial⟩
                    (try dsimp only)
                    refine hK.out _ _ ⟨hSS.1, fun _ => trivial⟩ ?_
                    clear hK
                    refine tkL (i := 25) rfl hSS ?_
                    refine wpAnyE_one (i := 26) (by kernel_rfl) rfl (fun Kn hK => ?_)
                    go_simp
                    refine hK.out _ _ ⟨hSS.1, fun _ => trivial⟩ ?_
                    refine wpAnyE_done (by kernel_rfl) ?_ _
                    clear hSS hK
                    go_wp2
                    go_ret
                    exact ⟨rfl, BB⟩
                  · go_simp
                    obtain ⟨V9, Xl5, hV, hX, al, l5⟩ := newLit V8 [.slice (some ⟨Xl4, 0, none⟩) 3 3] 26
                    rw [← hV, ← hX]
                    replace BB := BB.trans (al.mono BB.size); replace l2 := l2.below al; replace l4 := l4.below al; replace l1 := l1.below al; replace q3 := q3.below al
                    refine hK.out _ _ ⟨⟨q3.cell 0, q3.cell 1⟩, fun _ => trivial⟩ ?_
                    clear hK hV hX al
                    refine wpAnyE_one (i := 21) (by kernel_rfl) rfl (fun Kn hK => ?_)
                    go_simp
                    obtain ⟨V10, Xl3, hV, hX, al, l3⟩ := newLit V9 [] 26
                    rw [← hV, ← hX]
                    replace BB := BB.trans (al.mono BB.size); replace l2 := l2.below al; replace l4 := l4.below al; replace l1 := l1.below al; replace l5 := l5.below al; replace q3 := q3.below al
                    refine hK.out _ _ ⟨⟨q3.cell 0, q3.cell 1⟩, fun _ => trivial⟩ ?_
                    clear hK hV hX al
                    refine wpAnyE_one (i := 24) (by kernel_rfl) rfl (fun Kn hK => ?_)
                    go_simp
                    refine (leafC l1 l2 l4 l5).mono ?_
                    rintro ee wz ⟨rfl, b9⟩
                    replace BB := BB.trans (b9.mono BB.size); replace q3 := q3.below b9; clear l1 l2 l3 l4 l5
                    have hSS : (fun X : World => X.cell? ⟨X3, 0, none⟩ = some (.slice ba bn bc) ∧ X.cell? ⟨X3, 1, none⟩ = some (.slice ga gn gc)) wz ∧ True := ⟨⟨q3.cell 0, q3.cell 1⟩, trivial⟩
                    (try dsimp only)
                    refine hK.out _ _ ⟨hSS.1, fun _ => trivial⟩ ?_
                    clear hK
                    refine tkL (i := 25) rfl hSS ?_
                    refine wpAnyE_one (i := 26) (by kernel_rfl) rfl (fun Kn hK => ?_)
                    go_simp
                    refine hK.out _ _ ⟨hSS.1, fun _ => trivial⟩ ?_
                    refine wpAnyE_done (by kernel_rfl) ?_ _
                    clear hSS hK
                    go_wp2
                    go_ret
                    exact ⟨rfl, BB⟩
                · go_simp
                  obtain ⟨V8, Xl3, hV, hX, al, l3⟩ := newLit V7 [] 26
                  rw [← hV, ← hX]
                  replace BB := BB.trans (al.mono BB.size); replace l2 := l2.below al; replace l4 := l4.below al; replace q3 := q3.below al
                  refine hK.out _ _ ⟨⟨q3.cell 0, q3.cell 1⟩, fun _ => trivial⟩ ?_
                  clear hK hV hX al
                  refine wpAnyE_two (i := 18) (j := 23) (by kernel_rfl) rfl rfl (fun Kn hK => ?_) (fun Kn hK => ?_)
                  · go_simp
                    obtain ⟨V9, Xl1, hV, hX, al, l1⟩ := newLit V8 [.int .i64 0, .int .i64 0, .int .i64 0] 3
                    rw [← hV, ← hX]
                    replace BB := BB.trans (al.mono BB.size); replace l2 := l2.below al; replace l4 := l4.below al; replace l3 := l3.below al; replace q3 := q3.below al
                    refine hK.out _ _ ⟨⟨q3.cell 0, q3.cell 1⟩, fun _ => trivial⟩ ?_
                    clear hK hV hX al
                    have hSS : (V9.cell? ⟨X3, 0, none⟩ = some (.slice ba bn bc) ∧ V9.cell? ⟨X3, 1, none⟩ = some (.slice ga gn gc)) ∧ True := ⟨⟨q3.cell 0, q3.cell 1⟩, trivial⟩
                    refine tkL (i := 20) rfl hSS ?_
                    clear hSS
                    refine wpAnyE_one (i := 23) (by kernel_rfl) rfl (fun Kn hK => ?_)
                    go_simp
                    obtain ⟨V10, Xl5, hV, hX, al, l5⟩ := newLit V9 [.slice (some ⟨Xl4, 0, none⟩) 3 3] 26
                    rw [← hV, ← hX]
                    replace BB := BB.trans (al.mono BB.size); replace l2 := l2.below al; replace l4 := l4.below al; replace l3 := l3.below al; replace l1 := l1.below al; replace q3 := q3.below al
                    refine hK.out _ _ ⟨⟨q3.cell 0, q3.cell 1⟩, fun _ => trivial⟩ ?_
                    clear hK hV hX al
                    refine wpAnyE_one (i := 24) (by kernel_rfl) rfl (fun Kn hK => ?_)
                    go_simp
                    refine (leafC l1 l2 l4 l5).mono ?_
                    rintro ee wz ⟨rfl, b9⟩
                    replace BB := BB.trans (b9.mono BB.size); replace q3 := q3.below b9; clear l1 l2 l3 l4 l5
                    have hSS : (fun X : World => X.cell? ⟨X3, 0, none⟩ = some (.slice ba bn bc) ∧ X.cell? ⟨X3, 1, none⟩ = some (.slice ga gn gc)) wz ∧ True := ⟨⟨q3.cell 0, q3.cell 1⟩, trivial⟩
                    (try dsimp only)
                    refine hK.out _ _ ⟨hSS.1, fun _ => trivial⟩ ?_
                    clear hK
                    refine tkL (i := 25) rfl hSS ?_
                    refine wpAnyE_one (i := 26) (by kernel_rfl) rfl (fun Kn hK => ?_)
                    go_simp
                    refine hK.out _ _ ⟨hSS.1, fun _ => trivial⟩ ?_
                    refine wpAnyE_done (by kernel_rfl) ?_ _
                    clear hSS hK
                    go_wp2
                    go_ret
                    exact ⟨rfl, BB⟩
                  · go_simp
                    obtain ⟨V9, Xl5, hV, hX, al, l5⟩ := newLit V8 [.slice (some ⟨Xl4, 0, none⟩) 3 3] 26
                    rw [← hV, ← hX]
                    replace BB := BB.trans (al.mono BB.size); replace l2 := l2.below al; replace l4 := l4.below al; replace l3 := l3.below al; replace q3 := q3.below al
                    refine hK.out _ _ ⟨⟨q3.cell 0, q3.cell 1⟩, fun _ => trivial⟩ ?_
                    clear hK hV hX al
                    refine wpAnyE_one (i := 18) (by kernel_rfl) rfl (fun Kn hK => ?_)
                    go_simp
                    obtain ⟨V10, Xl1, hV, hX, al, l1⟩ := newLit V9 [.int .i64 0, .int .i64 0, .int .i64 0] 3
                    rw [← hV, ← hX]
                    replace BB := BB.trans (al.mono BB.size); replace l2 := l2.below al; replace l4 := l4.below al; replace l3 := l3.below al; replace l5 := l5.below al; replace q3 := q3.below al
                    refine hK.out _ _ ⟨⟨q3.cell 0, q3.cell 1⟩, fun _ => trivial⟩ ?_
                    clear hK hV hX al
                    have hSS : (V10.cell? ⟨X3, 0, none⟩ = some (.slice ba bn bc) ∧ V10.cell? ⟨X3, 1, none⟩ = some (.slice ga gn gc)) ∧ True := ⟨⟨q3.cell 0, q3.cell 1⟩, trivial⟩
                    refine tkL (i := 20) rfl hSS ?_
                    clear hSS
                    refine wpAnyE_one (i := 24) (by kernel_rfl) rfl (fun Kn hK => ?_)
                    go_simp
                    refine (leafC l1 l2 l4 l5).mono ?_
                    rintro ee wz ⟨rfl, b9⟩
                    replace BB := BB.trans (b9.mono BB.size); replace q3 := q3.below b9; clear l1 l2 l3 l4 l5
                    have hSS : (fun X : World => X.cell? ⟨X3, 0, none⟩ = some (.slice ba bn bc) ∧ X.cell? ⟨X3, 1, none⟩ = some (.slice ga gn gc)) wz ∧ True := ⟨⟨q3.cell 0, q3.cell 1⟩, trivial⟩
                    (try dsimp only)
                    refine hK.out _ _ ⟨hSS.1, fun _ => trivial⟩ ?_
                    clear hK
                    refine tkL (i := 25) rfl hSS ?_
                    refine wpAnyE_one (i := 26) (by kernel_rfl) rfl (fun Kn hK => ?_)
                    go_simp
                    refine hK.out _ _ ⟨hSS.1, fun _ => trivial⟩ ?_
                    refine wpAnyE_done (by kernel_rfl) ?_ _
                    clear hSS hK
                    go_wp2
                    go_ret
                    exact ⟨rfl, BB⟩
                · go_simp
                  obtain ⟨V8, Xl5, hV, hX, al, l5⟩ := newLit V7 [.slice (some ⟨Xl4, 0, none⟩) 3 3] 26
                  rw [← hV, ← hX]
                  replace BB := BB.trans (al.mono BB.size); replace l2 := l2.below al; replace l4 := l4.below al; replace q3 := q3.below al
                  refine hK.out _ _ ⟨⟨q3.cell 0, q3.cell 1⟩, fun _ => trivial⟩ ?_
                  clear hK hV hX al
                  refine wpAnyE_two (i := 18) (j := 21) (by kernel_rfl) rfl rfl (fun Kn hK => ?_) (fun Kn hK => ?_)
                  · go_simp
                    obtain ⟨V9, Xl1, hV, hX, al, l1⟩ := newLit V8 [.int .i64 0, .int .i64 0, .int .i64 0] 3
                    rw [← hV, ← hX]
                    replace BB := BB.trans (al.mono BB.size); replace l2 := l2.below al; replace l4 := l4.below al; replace l5 := l5.below al; replace q3 := q3.below al
                    refine hK.out _ _ ⟨⟨q3.cell 0, q3.cell 1⟩, fun _ => trivial⟩ ?_
                    clear hK hV hX al
                    have hSS : (V9.cell? ⟨X3, 0, none⟩ = some (.slice ba bn bc) ∧ V9.cell? ⟨X3, 1, none⟩ = some (.slice ga gn gc)) ∧ True := ⟨⟨q3.cell 0, q3.cell 1⟩, trivial⟩
                    refine tkL (i := 20) rfl hSS ?_
                    clear hSS
                    refine wpAnyE_one (i := 21) (by kernel_rfl) rfl (fun Kn hK => ?_)
                    go_simp
                    obtain ⟨V10, Xl3, hV, hX, al, l3⟩ := newLit V9 [] 26
                    rw [← hV, ← hX]
                    replace BB := BB.trans (al.mono BB.size); replace l2 := l2.below al; replace l4 := l4.below al; replace l5 := l5.below al; replace l1 := l1.below al; replace q3 := q3.below al
                    refine hK.out _ _ ⟨⟨q3.cell 0, q3.cell 1⟩, fun _ => trivial⟩ ?_
                    clear hK hV hX al
                    refine wpAnyE_one (i := 24) (by kernel_rfl) rfl (fun Kn hK => ?_)
                    go_simp
                    refine (leafC l1 l2 l4 l5).mono ?_
                    rintro ee wz ⟨rfl, b9⟩
                    replace BB := BB.trans (b9.mono BB.size); replace q3 := q3.below b9; clear l1 l2 l3 l4 l5
                    have hSS : (fun X : World => X.cell? ⟨X3, 0, none⟩ = some (.slice ba bn bc) ∧ X.cell? ⟨X3, 1, none⟩ = some (.slice ga gn gc)) wz ∧ True := ⟨⟨q3.cell 0, q3.cell 1⟩, trivial⟩
                    (try dsimp only)
                    refine hK.out _ _ ⟨hSS.1, fun _ => trivial⟩ ?_
                    clear hK
                    refine tkL (i := 25) rfl hSS ?_
                    refine wpAnyE_one (i := 26) (by kernel_rfl) rfl (fun Kn hK => ?_)
                    go_simp
                    refine hK.out _ _ ⟨hSS.1, fun _ => trivial⟩ ?_
                    refine wpAnyE_done (by kernel_rfl) ?_ _
                    clear hSS hK
                    go_wp2
                    go_ret
                    exact ⟨rfl, BB⟩
                  · go_simp
                    obtain ⟨V9, Xl3, hV, hX, al, l3⟩ := newLit V8 [] 26
                    rw [← hV, ← hX]
                    replace BB := BB.trans (al.mono BB.size); replace l2 := l2.below al; replace l4 := l4.below al; replace l5 := l5.below al; replace q3 := q3.below al
                    refine hK.out _ _ ⟨⟨q3.cell 0, q3.cell 1⟩, fun _ => trivial⟩ ?_
                    clear hK hV hX al
                    refine wpAnyE_one (i := 18) (by kernel_rfl) rfl (fun Kn hK => ?_)
                    go_simp
                    obtain ⟨V10, Xl1, hV, hX, al, l1⟩ := newLit V9 [.int .i64 0, .int .i64 0, .int .i64 0] 3
                    rw [← hV, ← hX]
                    replace BB := BB.trans (al.mono BB.size); replace l2 := l2.below al; replace l4 := l4.below al; replace l5 := l5.below al; replace l3 := l3.below al; replace q3 := q3.below al
                    refine hK.out _ _ ⟨⟨q3.cell 0, q3.cell 1⟩, fun _ => trivial⟩ ?_
                    clear hK hV hX al
                    have hSS : (V10.cell? ⟨X3, 0, none⟩ = some (.slice ba bn bc) ∧ V10.cell? ⟨X3, 1, none⟩ = some (.slice ga gn gc)) ∧ True := ⟨⟨q3.cell 0, q3.cell 1⟩, trivial⟩
                    refine tkL (i := 20) rfl hSS ?_
                    clear hSS
                    refine wpAnyE_one (i := 24) (by kernel_rfl) rfl (fun Kn hK => ?_)
                    go_simp
                    refine (leafC l1 l2 l4 l5).mono ?_
                    rintro ee wz ⟨rfl, b9⟩
                    replace BB := BB.trans (b9.mono BB.size); replace q3 := q3.below b9; clear l1 l2 l3 l4 l5
                    have hSS : (fun X : World => X.cell? ⟨X3, 0, none⟩ = some (.slice ba bn bc) ∧ X.cell? ⟨X3, 1, none⟩ = some (.slice ga gn gc)) wz ∧ True := ⟨⟨q3.cell 0, q3.cell 1⟩, trivial⟩
                    (try dsimp only)
                    refine hK.out _ _ ⟨hSS.1, fun _ => trivial⟩ ?_
                    clear hK
                    refine tkL (i := 25) rfl hSS ?_
                    refine wpAnyE_one (i := 26) (by kernel_rfl) rfl (fun Kn hK => ?_)
                    go_simp
                    refine hK.out _ _ ⟨hSS.1, fun _ => trivial⟩ ?_
                    refine wpAnyE_done (by kernel_rfl) ?_ _
                    clear hSS hK
                    go_wp2
                    go_ret
                    exact ⟨rfl, BB⟩
            · go_simp
              obtain ⟨V6, Xl3, hV, hX, al, l3⟩ := newLit w5 [] 26
              rw [← hV, ← hX]
              replace BB := BB.trans (al.mono BB.size); replace q3 := q3.below al
              refine hK.out _ _ ⟨⟨q3.cell 0, q3.cell 1⟩, fun _ => trivial⟩ ?_
              clear hK hV hX al
              refine wpAnyE_three (i0 := 18) (i1 := 19) (i2 := 22) (by kernel_rfl) rfl rfl rfl (fun Kn hK => ?_) (fun Kn hK => ?_) (fun Kn hK => ?_)
              · go_simp
                obtain ⟨V7, Xl1, hV, hX, al, l1⟩ := newLit V6 [.int .i64 0, .int .i64 0, .int .i64 0] 3
                rw [← hV, ← hX]
                replace BB := BB.trans (al.mono BB.size); replace l3 := l3.below al; replace q3 := q3.below al
                refine hK.out _ _ ⟨⟨q3.cell 0, q3.cell 1⟩, fun _ => trivial⟩ ?_
                clear hK hV hX al
                refine wpAnyE_two (i := 19) (j := 22) (by kernel_rfl) rfl rfl (fun Kn hK => ?_) (fun Kn hK => ?_)
                · go_simp
                  obtain ⟨V8, Xl2, hV, hX, al, l2⟩ := newLit V7 [.int .i64 0] 3
                  rw [← hV, ← hX]
                  replace BB := BB.trans (al.mono BB.size); replace l3 := l3.below al; replace l1 := l1.below al; replace q3 := q3.below al
                  refine hK.out _ _ ⟨⟨q3.cell 0, q3.cell 1⟩, fun _ => trivial⟩ ?_
                  clear hK hV hX al
                  have hSS : (V8.cell? ⟨X3, 0, none⟩ = some (.slice ba bn bc) ∧ V8.cell? ⟨X3, 1, none⟩ = some (.slice ga gn gc)) ∧ True := ⟨⟨q3.cell 0, q3.cell 1⟩, trivial⟩
                  refine tkL (i := 20) rfl hSS ?_
                  clear hSS
                  refine wpAnyE_one (i := 22) (by kernel_rfl) rfl (fun Kn hK => ?_)
                  go_simp
                  obtain ⟨V9, Xl4, hV, hX, al, l4⟩ := newLit V8 [.int .i64 0, .int .i64 0, .int .i64 0] 3
                  rw [← hV, ← hX]
                  replace BB := BB.trans (al.mono BB.size); replace l3 := l3.below al; replace l1 := l1.below al; replace l2 := l2.below al; replace q3 := q3.below al
                  refine hK.out _ _ ⟨⟨q3.cell 0, q3.cell 1⟩, fun _ => trivial⟩ ?_
                  clear hK hV hX al
                  refine wpAnyE_one (i := 23) (by kernel_rfl) rfl (fun Kn hK => ?_)
                  go_simp
                  obtain ⟨V10, Xl5, hV, hX, al, l5⟩ := newLit V9 [.slice (some ⟨Xl4, 0, none⟩) 3 3] 26
                  rw [← hV, ← hX]
                  replace BB := BB.trans (al.mono BB.size); replace l3 := l3.below al; replace l1 := l1.below al; replace l2 := l2.below al; replace l4 := l4.below al; replace q3 := q3.below al
                  refine hK.out _ _ ⟨⟨q3.cell 0, q3.cell 1⟩, fun _ => trivial⟩ ?_
                  clear hK hV hX al
                  refine wpAnyE_one (i := 24) (by kernel_rfl) rfl (fun Kn hK => ?_)
                  go_simp
                  refine (leafC l1 l2 l4 l5).mono ?_
                  rintro ee wz ⟨rfl, b9⟩
                  replace BB := BB.trans (b9.mono BB.size); replace q3 := q3.below b9; clear l1 l2 l3 l4 l5
                  have hSS : (fun X : World => X.cell? ⟨X3, 0, none⟩ = some (.slice ba bn bc) ∧ X.cell? ⟨X3, 1, none⟩ = some (.slice ga gn gc)) wz ∧ True := ⟨⟨q3.cell 0, q3.cell 1⟩, trivial⟩
                  (try dsimp only)
                  refine hK.out _ _ ⟨hSS.1, fun _ => trivial⟩ ?_
                  clear hK
                  refine tkL (i := 25) rfl hSS ?_
                  refine wpAnyE_one (i := 26) (by kernel_rfl) rfl (fun Kn hK => ?_)
                  go_simp
                  refine hK.out _ _ ⟨hSS.1, fun _ => trivial⟩ ?_
                  refine wpAnyE_done (by kernel_rfl) ?_ _
                  clear hSS hK
                  go_wp2
                  go_ret
                  exact ⟨rfl, BB⟩
                · go_simp
                  obtain ⟨V8, Xl4, hV, hX, al, l4⟩ := newLit V7 [.int .i64 0, .int .i64 0, .int .i64 0] 3
                  rw [← hV, ← hX]
                  replace BB := BB.trans (al.mono BB.size); replace l3 := l3.below al; replace l1 := l1.below al; replace q3 := q3.below al
                  refine hK.out _ _ ⟨⟨q3.cell 0, q3.cell 1⟩, fun _ => trivial⟩ ?_
                  clear hK hV hX al
                  refine wpAnyE_two (i := 19) (j := 23) (by kernel_rfl) rfl rfl (fun Kn hK => ?_) (fun Kn hK => ?_)
                  · go_simp
                    obtain ⟨V9, Xl2, hV, hX, al, l2⟩ := newLit V8 [.int .i64 0] 3
                    rw [← hV, ← hX]
                    replace BB := BB.trans (al.mono BB.size); replace l3 := l3.below al; replace l1 := l1.below al; replace l4 := l4.below al; replace q3 := q3.below al
                    refine hK.out _ _ ⟨⟨q3.cell 0, q3.cell 1⟩, fun _ => trivial⟩ ?_
                    clear hK hV hX al
                    have hSS : (V9.cell? ⟨X3, 0, none⟩ = some (.slice ba bn bc) ∧ V9.cell? ⟨X3, 1, none⟩ = some (.slice ga gn gc)) ∧ True := ⟨⟨q3.cell 0, q3.cell 1⟩, trivial⟩
                    refine tkL (i := 20) rfl hSS ?_
                    clear hSS
                    refine wpAnyE_one (i := 23) (by kernel_rfl) rfl (fun Kn hK => ?_)
                    go_simp
                    obtain ⟨V10, Xl5, hV, hX, al, l5⟩ := newLit V9 [.slice (some ⟨Xl4, 0, none⟩) 3 3] 26
                    rw [← hV, ← hX]
                    replace BB := BB.trans (al.mono BB.size); replace l3 := l3.below al; replace l1 := l1.below al; replace l4 := l4.below al; replace l2 := l2.below al; replace q3 := q3.below al
                    refine hK.out _ _ ⟨⟨q3.cell 0, q3.cell 1⟩, fun _ => trivial⟩ ?_
                    clear hK hV hX al
                    refine wpAnyE_one (i := 24) (by kernel_rfl) rfl (fun Kn hK => ?_)
                    go_simp
                    refine (leafC l1 l2 l4 l5).mono ?_
                    rintro ee wz ⟨rfl, b9⟩
                    replace BB := BB.trans (b9.mono BB.size); replace q3 := q3.below b9; clear l1 l2 l3 l4 l5
                    have hSS : (fun X : World => X.cell? ⟨X3, 0, none⟩ = some (.slice ba bn bc) ∧ X.cell? ⟨X3, 1, none⟩ = some (.slice ga gn gc)) wz ∧ True := ⟨⟨q3.cell 0, q3.cell 1⟩, trivial⟩
                    (try dsimp only)
                    refine hK.out _ _ ⟨hSS.1, fun _ => trivial⟩ ?_
                    clear hK
                    refine tkL (i := 25) rfl hSS ?_
                    refine wpAnyE_one (i := 26) (by kernel_rfl) rfl (fun Kn hK => ?_)
                    go_simp
                    refine hK.out _ _ ⟨hSS.1, fun _ => trivial⟩ ?_
                    refine wpAnyE_done (by kernel_rfl) ?_ _
                    clear hSS hK
                    go_wp2
                    go_ret
                    exact ⟨rfl, BB⟩
                  · go_simp
                    obtain ⟨V9, Xl5, hV, hX, al, l5⟩ := newLit V8 [.slice (some ⟨Xl4, 0, none⟩) 3 3] 26
                    rw [← hV, ← hX]
                    replace BB := BB.trans (al.mono BB.size); replace l3 := l3.below al; replace l1 := l1.below al; replace l4 := l4.below al; replace q3 := q3.below al
                    refine hK.out _ _ ⟨⟨q3.cell 0, q3.cell 1⟩, fun _ => trivial⟩ ?_
                    clear hK hV hX al
                    refine wpAnyE_one (i := 19) (by kernel_rfl) rfl (fun Kn hK => ?_)
                    go_simp
                    obtain ⟨V10, Xl2, hV, hX, al, l2⟩ := newLit V9 [.int .i64 0] 3
                    rw [← hV, ← hX]
                    replace BB := BB.trans (al.mono BB.size); replace l3 := l3.below al; replace l1 := l1.below al; replace l4 := l4.below al; replace l5 := l5.below al; replace q3 := q3.below al
                    refine hK.out _ _ ⟨⟨q3.cell 0, q3.cell 1⟩, fun _ => trivial⟩ ?_
                    clear hK hV hX al
                    have hSS : (V10.cell? ⟨X3, 0, none⟩ = some (.slice ba bn bc) ∧ V10.cell? ⟨X3, 1, none⟩ = some (.slice ga gn gc)) ∧ True := ⟨⟨q3.cell 0, q3.cell 1⟩, trivial⟩
                    refine tkL (i := 20) rfl hSS ?_
                    clear hSS
                    refine wpAnyE_one (i := 24) (by kernel_rfl) rfl (fun Kn hK => ?_)
                    go_simp
                    refine (leafC l1 l2 l4 l5).mono ?_
                    rintro ee wz ⟨rfl, b9⟩
                    replace BB := BB.trans (b9.mono BB.size); replace q3 := q3.below b9; clear l1 l2 l3 l4 l5
                    have hSS : (fun X : World => X.cell? ⟨X3, 0, none⟩ = some (.slice ba bn bc) ∧ X.cell? ⟨X3, 1, none⟩ = some (.slice ga gn gc)) wz ∧ True := ⟨⟨q3.cell 0, q3.cell 1⟩, trivial⟩
                    (try dsimp only)
                    refine hK.out _ _ ⟨hSS.1, fun _ => trivial⟩ ?_
                    clear hK
                    refine tkL (i := 25) rfl hSS ?_
                    refine wpAnyE_one (i := 26) (by kernel_rfl) rfl (fun Kn hK => ?_)
                    go_simp
                    refine hK.out _ _ ⟨hSS.1, fun _ => trivial⟩ ?_
                    refine wpAnyE_done (by kernel_rfl) ?_ _
                    clear hSS hK
                    go_wp2
                    go_ret
                    exact ⟨rfl, BB⟩
              · go_simp
                obtain ⟨V7, Xl2, hV, hX, al, l2⟩ := newLit V6 [.int .i64 0] 3
                rw [← hV, ← hX]
                replace BB := BB.trans (al.mono BB.size); replace l3 := l3.below al; replace q3 := q3.below al
                refine hK.out _ _ ⟨⟨q3.cell 0, q3.cell 1⟩, fun _ => trivial⟩ ?_
                clear hK hV hX al
                refine wpAnyE_two (i := 18) (j := 22) (by kernel_rfl) rfl rfl (fun Kn hK => ?_) (fun Kn hK => ?_)
                · go_simp
                  obtain ⟨V8, Xl1, hV, hX, al, l1⟩ := newLit V7 [.int .i64 0, .int .i64 0, .int .i64 0] 3
                  rw [← hV, ← hX]
                  replace BB := BB.trans (al.mono BB.size); replace l3 := l3.below al; replace l2 := l2.below al; replace q3 := q3.below al
                  refine hK.out _ _ ⟨⟨q3.cell 0, q3.cell 1⟩, fun _ => trivial⟩ ?_
                  clear hK hV hX al
                  have hSS : (V8.cell? ⟨X3, 0, none⟩ = some (.slice ba bn bc) ∧ V8.cell? ⟨X3, 1, none⟩ = some (.slice ga gn gc)) ∧ True := ⟨⟨q3.cell 0, q3.cell 1⟩, trivial⟩
                  refine tkL (i := 20) rfl hSS ?_
                  clear hSS
                  refine wpAnyE_one (i := 22) (by kernel_rfl) rfl (fun Kn hK => ?_)
                  go_simp
                  obtain ⟨V9, Xl4, hV, hX, al, l4⟩ := newLit V8 [.int .i64 0, .int .i64 0, .int .i64 0] 3
                  rw [← hV, ← hX]
                  replace BB := BB.trans (al.mono BB.size); replace l3 := l3.below al; replace l2 := l2.below al; replace l1 := l1.below al; replace q3 := q3.below al
                  refine hK.out _ _ ⟨⟨q3.cell 0, q3.cell 1⟩, fun _ => trivial⟩ ?_
                  clear hK hV hX al
                  refine wpAnyE_one (i := 23) (by kernel_rfl) rfl (fun Kn hK => ?_)
                  go_simp
                  obtain ⟨V10, Xl5, hV, hX, al, l5⟩ := newLit V9 [.slice (some ⟨Xl4, 0, none⟩) 3 3] 26
                  rw [← hV, ← hX]
                  replace BB := BB.trans (al.mono BB.size); replace l3 := l3.below al; replace l2 := l2.below al; replace l1 := l1.below al; replace l4 := l4.below al; replace q3 := q3.below al
                  refine hK.out _ _ ⟨⟨q3.cell 0, q3.cell 1⟩, fun _ => trivial⟩ ?_
                  clear hK hV hX al
                  refine wpAnyE_one (i := 24) (by kernel_rfl) rfl (fun Kn hK => ?_)
                  go_simp
                  refine (leafC l1 l2 l4 l5).mono ?_
                  rintro ee wz ⟨rfl, b9⟩
                  replace BB := BB.trans (b9.mono BB.size); replace q3 := q3.below b9; clear l1 l2 l3 l4 l5
                  have hSS : (fun X : World => X.cell? ⟨X3, 0, none⟩ = some (.slice ba bn bc) ∧ X.cell? ⟨X3, 1, none⟩ = some (.slice ga gn gc)) wz ∧ True := ⟨⟨q3.cell 0, q3.cell 1⟩, trivial⟩
                  (try dsimp only)
                  refine hK.out _ _ ⟨hSS.1, fun _ => trivial⟩ ?_
                  clear hK
                  refine tkL (i := 25) rfl hSS ?_
                  refine wpAnyE_one (i := 26) (by kernel_rfl) rfl (fun Kn hK => ?_)
                  go_simp
                  refine hK.out _ _ ⟨hSS.1, fun _ => trivial⟩ ?_
                  refine wpAnyE_done (by kernel_rfl) ?_ _
                  clear hSS hK
                  go_wp2
                  go_ret
                  exact ⟨rfl, BB⟩
                · go_simp
                  obtain ⟨V8, Xl4, hV, hX, al, l4⟩ := newLit V7 [.int .i64 0, .int .i64 0, .int .i64 0] 3
                  rw [← hV, ← hX]
                  replace BB := BB.trans (al.mono BB.size); replace l3 := l3.below al; replace l2 := l2.below al; replace q3 := q3.below al
                  refine hK.out _ _ ⟨⟨q3.cell 0, q3.cell 1⟩, fun _ => trivial⟩ ?_
                  clear hK hV hX al
                  refine wpAnyE_two (i := 18) (j := 23) (by kernel_rfl) rfl rfl (fun Kn hK => ?_) (fun Kn hK => ?_)
                  · go_simp
                    obtain ⟨V9, Xl1, hV, hX, al, l1⟩ := newLit V8 [.int .i64 0, .int .i64 0, .int .i64 0] 3
                    rw [← hV, ← hX]
                    replace BB := BB.trans (al.mono BB.size); replace l3 := l3.below al; replace l2 := l2.below al; replace l4 := l4.below al; replace q3 := q3.below al
                    refine hK.out _ _ ⟨⟨q3.cell 0, q3.cell 1⟩, fun _ => trivial⟩ ?_
                    clear hK hV hX al
                    have hSS : (V9.cell? ⟨X3, 0, none⟩ = some (.slice ba bn bc) ∧ V9.cell? ⟨X3, 1, none⟩ = some (.slice ga gn gc)) ∧ True := ⟨⟨q3.cell 0, q3.cell 1⟩, trivial⟩
                    refine tkL (i := 20) rfl hSS ?_
                    clear hSS
                    refine wpAnyE_one (i := 23) (by kernel_rfl) rfl (fun Kn hK => ?_)
                    go_simp
                    obtain ⟨V10, Xl5, hV, hX, al, l5⟩ := newLit V9 [.slice (some ⟨Xl4, 0, none⟩) 3 3] 26
                    rw [← hV, ← hX]
                    replace BB := BB.trans (al.mono BB.size); replace l3 := l3.below al; replace l2 := l2.below al; replace l4 := l4.below al; replace l1 := l1.below al; replace q3 := q3.below al
                    refine hK.out _ _ ⟨⟨q3.cell 0, q3.cell 1⟩, fun _ => trivial⟩ ?_
                    clear hK hV hX al
                    refine wpAnyE_one (i := 24) (by kernel_rfl) rfl (fun Kn hK => ?_)
                    go_simp
                    refine (leafC l1 l2 l4 l5).mono ?_
                    rintro ee wz ⟨rfl, b9⟩
                    replace BB := BB.trans (b9.mono BB.size); replace q3 := q3.below b9; clear l1 l2 l3 l4 l5
                    have hSS : (fun X : World => X.cell? ⟨X3, 0, none⟩ = some (.slice ba bn bc) ∧ X.cell? ⟨X3, 1, none⟩ = some (.slice ga gn gc)) wz ∧ True := ⟨⟨q3.cell 0, q3.cell 1⟩, trivial⟩
                    (try dsimp only)
                    refine hK.out _ _ ⟨hSS.1, fun _ => trivial⟩ ?_
                    clear hK
                    refine tkL (i := 25) rfl hSS ?_
                    refine wpAnyE_one (i := 26) (by kernel_rfl) rfl (fun Kn hK => ?_)
                    go_simp
                    refine hK.out _ _ ⟨hSS.1, fun _ => trivial⟩ ?_
                    refine wpAnyE_done (by kernel_rfl) ?_ _
                    clear hSS hK
                    go_wp2
                    go_ret
                    exact ⟨rfl, BB⟩
                  · go_simp
                    obtain ⟨V9, Xl5, hV, hX, al, l5⟩ := newLit V8 [.slice (some ⟨Xl4, 0, none⟩) 3 3] 26
                    rw [← hV, ← hX]
                    replace BB := BB.trans (al.mono BB.size); replace l3 := l3.below al; replace l2 := l2.below al; replace l4 := l4.below al; replace q3 := q3.below al
                    refine hK.out _ _ ⟨⟨q3.cell 0, q3.cell 1⟩, fun _ => trivial⟩ ?_
                    clear hK hV hX al
                    refine wpAnyE_one (i := 18) (by kernel_rfl) rfl (fun Kn hK => ?_)
                    go_simp
                    obtain ⟨V10, Xl1, hV, hX, al, l1⟩ := newLit V9 [.int .i64 0, .int .i64 0, .int .i64 0] 3
                    rw [← hV, ← hX]
                    replace BB := BB.trans (al.mono BB.size); replace l3 := l3.below al; replace l2 := l2.below al; replace l4 := l4.below al; replace l5 := l5.below al; replace q3 := q3.below al
                    refine hK.out _ _ ⟨⟨q3.cell 0, q3.cell 1⟩, fun _ => trivial⟩ ?_
                    clear hK hV hX al
                    have hSS : (V10.cell? ⟨X3, 0, none⟩ = some (.slice ba bn bc) ∧ V10.cell? ⟨X3, 1, none⟩ = some (.slice ga gn gc)) ∧ True := ⟨⟨q3.cell 0, q3.cell 1⟩, trivial⟩
                    refine tkL (i := 20) rfl hSS ?_
                    clear hSS
                    refine wpAnyE_one (i := 24) (by kernel_rfl) rfl (fun Kn hK => ?_)
                    go_simp
                    refine (leafC l1 l2 l4 l5).mono ?_
                    rintro ee wz ⟨rfl, b9⟩
                    replace BB := BB.trans (b9.mono BB.size); replace q3 := q3.below b9; clear l1 l2 l3 l4 l5
                    have hSS : (fun X : World => X.cell? ⟨X3, 0, none⟩ = some (.slice ba bn bc) ∧ X.cell? ⟨X3, 1, none⟩ = some (.slice ga gn gc)) wz ∧ True := ⟨⟨q3.cell 0, q3.cell 1⟩, trivial⟩
                    (try dsimp only)
                    refine hK.out _ _ ⟨hSS.1, fun _ => trivial⟩ ?_
                    clear hK
                    refine tkL (i := 25) rfl hSS ?_
                    refine wpAnyE_one (i := 26) (by kernel_rfl) rfl (fun Kn hK => ?_)
                    go_simp
                    refine hK.out _ _ ⟨hSS.1, fun _ => trivial⟩ ?_
                    refine wpAnyE_done (by kernel_rfl) ?_ _
                    clear hSS hK
                    go_wp2
                    go_ret
                    exact ⟨rfl, BB⟩
              · go_simp
                obtain ⟨V7, Xl4, hV, hX, al, l4⟩ := newLit V6 [.int .i64 0, .int .i64 0, .int .i64 0] 3
                rw [← hV, ← hX]
                replace BB := BB.trans (al.mono BB.size); replace l3 := l3.below al; replace q3 := q3.below al
                refine hK.out _ _ ⟨⟨q3.cell 0, q3.cell 1⟩, fun _ => trivial⟩ ?_
                clear hK hV hX al
                refine wpAnyE_three (i0 := 18) (i1 := 19) (i2 := 23) (by kernel_rfl) rfl rfl rfl (fun Kn hK => ?_) (fun Kn hK => ?_) (fun Kn hK => ?_)
                · go_simp
                  obtain ⟨V8, Xl1, hV, hX, al, l1⟩ := newLit V7 [.int .i64 0, .int .i64 0, .int .i64 0] 3
                  rw [← hV, ← hX]
                  replace BB := BB.trans (al.mono BB.size); replace l3 := l3.below al; replace l4 := l4.below al; replace q3 := q3.below al
                  refine hK.out _ _ ⟨⟨q3.cell 0, q3.cell 1⟩, fun _ => trivial⟩ ?_
                  clear hK hV hX al
                  refine wpAnyE_two (i := 19) (j := 23) (by kernel_rfl) rfl rfl (fun Kn hK => ?_) (fun Kn hK => ?_)
                  · go_simp
                    obtain ⟨V9, Xl2, hV, hX, al, l2⟩ := newLit V8 [.int .i64 0] 3
                    rw [← hV, ← hX]
                    replace BB := BB.trans (al.mono BB.size); replace l3 := l3.below al; replace l4 := l4.below al; replace l1 := l1.below al; replace q3 := q3.below al
                    refine hK.out _ _ ⟨⟨q3.cell 0, q3.cell 1⟩, fun _ => trivial⟩ ?_
                    clear hK hV hX al
                    have hSS : (V9.cell? ⟨X3, 0, none⟩ = some (.slice ba bn bc) ∧ V9.cell? ⟨X3, 1, none⟩ = some (.slice ga gn gc)) ∧ True := ⟨⟨q3.cell 0, q3.cell 1⟩, trivial⟩
                    refine tkL (i := 20) rfl hSS ?_
                    clear hSS
                    refine wpAnyE_one (i := 23) (by kernel_rfl) rfl (fun Kn hK => ?_)
                    go_simp
                    obtain ⟨V10, Xl5, hV, hX, al, l5⟩ := newLit V9 [.slice (some ⟨Xl4, 0, none⟩) 3 3] 26
                    rw [← hV, ← hX]
                    replace BB := BB.trans (al.mono BB.size); replace l3 := l3.below al; replace l4 := l4.below al; replace l1 := l1.below al; replace l2 := l2.below al; replace q3 := q3.below al
                    refine hK.out _ _ ⟨⟨q3.cell 0, q3.cell 1⟩, fun _ => trivial⟩ ?_
                    clear hK hV hX al
                    refine wpAnyE_one (i := 24) (by kernel_rfl) rfl (fun Kn hK => ?_)
                    go_simp
                    refine (leafC l1 l2 l4 l5).mono ?_
                    rintro ee wz ⟨rfl, b9⟩
                    replace BB := BB.trans (b9.mono BB.size); replace q3 := q3.below b9; clear l1 l2 l3 l4 l5
                    have hSS : (fun X : World => X.cell? ⟨X3, 0, none⟩ = some (.slice ba bn bc) ∧ X.cell? ⟨X3, 1, none⟩ = some (.slice ga gn gc)) wz ∧ True := ⟨⟨q3.cell 0, q3.cell 1⟩, trivial⟩
                    (try dsimp only)
                    refine hK.out _ _ ⟨hSS.1, fun _ => trivial⟩ ?_
                    clear hK
                    refine tkL (i := 25) rfl hSS ?_
                    refine wpAnyE_one (i := 26) (by kernel_rfl) rfl (fun Kn hK => ?_)
                    go_simp
                    refine hK.out _ _ ⟨hSS.1, fun _ => trivial⟩ ?_
                    refine wpAnyE_done (by kernel_rfl) ?_ _
                    clear hSS hK
                    go_wp2
                    go_ret
                    exact ⟨rfl, BB⟩
                  · go_simp
                    obtain ⟨V9, Xl5, hV, hX, al, l5⟩ := newLit V8 [.slice (some ⟨Xl4, 0, none⟩) 3 3] 26
                    rw [← hV, ← hX]
                    replace BB := BB.trans (al.mono BB.size); replace l3 := l3.below al; replace l4 := l4.below al; replace l1 := l1.below al; replace q3 := q3.below al
                    refine hK.out _ _ ⟨⟨q3.cell 0, q3.cell 1⟩, fun _ => trivial⟩ ?_
                    clear hK hV hX al
                    refine wpAnyE_one (i := 19) (by kernel_rfl) rfl (fun Kn hK => ?_)
                    go_simp
                    obtain ⟨V10, Xl2, hV, hX, al, l2⟩ := newLit V9 [.int .i64 0] 3
                    rw [← hV, ← hX]
                    replace BB := BB.trans (al.mono BB.size); replace l3 := l3.below al; replace l4 := l4.below al; replace l1 := l1.below al; replace l5 := l5.below al; replace q3 := q3.below al
                    refine hK.out _ _ ⟨⟨q3.cell 0, q3.cell 1⟩, fun _ => trivial⟩ ?_
                    clear hK hV hX al
                    have hSS : (V10.cell? ⟨X3, 0, none⟩ = some (.slice ba bn bc) ∧ V10.cell? ⟨X3, 1, none⟩ = some (.slice ga gn gc)) ∧ True := ⟨⟨q3.cell 0, q3.cell 1⟩, trivial⟩
                    refine tkL (i := 20) rfl hSS ?_
                    clear hSS
                    refine wpAnyE_one (i := 24) (by kernel_rfl) rfl (fun Kn hK => ?_)
                    go_simp
                    refine (leafC l1 l2 l4 l5).mono ?_
                    rintro ee wz ⟨rfl, b9⟩
                    replace BB := BB.trans (b9.mono BB.size); replace q3 := q3.below b9; clear l1 l2 l3 l4 l5
                    have hSS : (fun X : World => X.cell? ⟨X3, 0, none⟩ = some (.slice ba bn bc) ∧ X.cell? ⟨X3, 1, none⟩ = some (.slice ga gn gc)) wz ∧ True := ⟨⟨q3.cell 0, q3.cell 1⟩, trivial⟩
                    (try dsimp only)
                    refine hK.out _ _ ⟨hSS.1, fun _ => trivial⟩ ?_
                    clear hK
                    refine tkL (i := 25) rfl hSS ?_
                    refine wpAnyE_one (i := 26) (by kernel_rfl) rfl (fun Kn hK => ?_)
                    go_simp
                    refine hK.out _ _ ⟨hSS.1, fun _ => trivial⟩ ?_
                    refine wpAnyE_done (by kernel_rfl) ?_ _
                    clear hSS hK
                    go_wp2
                    go_ret
                    exact ⟨rfl, BB⟩
                · go_simp
                  obtain ⟨V8, Xl2, hV, hX, al, l2⟩ := newLit V7 [.int .i64 0] 3
                  rw [← hV, ← hX]
                  replace BB := BB.trans (al.mono BB.size); replace l3 := l3.below al; replace l4 := l4.below al; replace q3 := q3.below al
                  refine hK.out _ _ ⟨⟨q3.cell 0, q3.cell 1⟩, fun _ => trivial⟩ ?_
                  clear hK hV hX al
                  refine wpAnyE_two (i := 18) (j := 23) (by kernel_rfl) rfl rfl (fun Kn hK => ?_) (fun Kn hK => ?_)
                  · go_simp
                    obtain ⟨V9, Xl1, hV, hX, al, l1⟩ := newLit V8 [.int .i64 0, .int .i64 0, .int .i64 0] 3
                    rw [← hV, ← hX]
                    replace BB := BB.trans (al.mono BB.size); replace l3 := l3.below al; replace l4 := l4.below al; replace l2 := l2.below al; replace q3 := q3.below al
                    refine hK.out _ _ ⟨⟨q3.cell 0, q3.cell 1⟩, fun _ => trivial⟩ ?_
                    clear hK hV hX al
                    have hSS : (V9.cell? ⟨X3, 0, none⟩ = some (.slice ba bn bc) ∧ V9.cell? ⟨X3, 1, none⟩ = some (.slice ga gn gc)) ∧ True := ⟨⟨q3.cell 0, q3.cell 1⟩, trivial⟩
                    refine tkL (i := 20) rfl hSS ?_
                    clear hSS
                    refine wpAnyE_one (i := 23) (by kernel_rfl) rfl (fun Kn hK => ?_)
                    go_simp
                    obtain ⟨V10, Xl5, hV, hX, al, l5⟩ := newLit V9 [.slice (some ⟨Xl4, 0, none⟩) 3 3] 26
                    rw [← hV, ← hX]
                    replace BB := BB.trans (al.mono BB.size); replace l3 := l3.below al; replace l4 := l4.below al; replace l2 := l2.below al; replace l1 := l1.below al; replace q3 := q3.below al
                    refine hK.out _ _ ⟨⟨q3.cell 0, q3.cell 1⟩, fun _ => trivial⟩ ?_
                    clear hK hV hX al
                    refine wpAnyE_one (i := 24) (by kernel_rfl) rfl (fun Kn hK => ?_)
                    go_simp
                    refine (leafC l1 l2 l4 l5).mono ?_
                    rintro ee wz ⟨rfl, b9⟩
                    replace BB := BB.trans (b9.mono BB.size); replace q3 := q3.below b9; clear l1 l2 l3 l4 l5
                    have hSS : (fun X : World => X.cell? ⟨X3, 0, none⟩ = some (.slice ba bn bc) ∧ X.cell? ⟨X3, 1, none⟩ = some (.slice ga gn gc)) wz ∧ True := ⟨⟨q3.cell 0, q3.cell 1⟩, trivial⟩
                    (try dsimp only)
                    refine hK.out _ _ ⟨hSS.1, fun _ => trivial⟩ ?_
                    clear hK
                    refine tkL (i := 25) rfl hSS ?_
                    refine wpAnyE_one (i := 26) (by kernel_rfl) rfl (fun Kn hK => ?_)
                    go_simp
                    refine hK.out _ _ ⟨hSS.1, fun _ => trivial⟩ ?_
                    refine wpAnyE_done (by kernel_rfl) ?_ _
                    clear hSS hK
                    go_wp2
                    go_ret
                    exact ⟨rfl, BB⟩
                  · go_simp
                    obtain ⟨V9, Xl5, hV, hX, al, l5⟩ := newLit V8 [.slice (some ⟨Xl4, 0, none⟩) 3 3] 26
                    rw [← hV, ← hX]
                    replace BB := BB.trans (al.mono BB.size); replace l3 := l3.below al; replace l4 := l4.below al; replace l2 := l2.below al; replace q3 := q3.below al
                    refine hK.out _ _ ⟨⟨q3.cell 0, q3.cell 1⟩, fun _ => trivial⟩ ?_
                    clear hK hV hX al
                    refine wpAnyE_one (i := 18) (by kernel_rfl) rfl (fun Kn hK => ?_)
                    go_simp
                    obtain ⟨V10, Xl1, hV, hX, al, l1⟩ := newLit V9 [.int .i64 0, .int .i64 0, .int .i64 0] 3
                    rw [← hV, ← hX]
                    replace BB := BB.trans (al.mono BB.size); replace l3 := l3.below al; replace l4 := l4.below al; replace l2 := l2.below al; replace l5 := l5.below al; replace q3 := q3.below al
                    refine hK.out _ _ ⟨⟨q3.cell 0, q3.cell 1⟩, fun _ => trivial⟩ ?_
                    clear hK hV hX al
                    have hSS : (V10.cell? ⟨X3, 0, none⟩ = some (.slice ba bn bc) ∧ V10.cell? ⟨X3, 1, none⟩ = some (.slice ga gn gc)) ∧ True := ⟨⟨q3.cell 0, q3.cell 1⟩, trivial⟩
                    refine tkL (i := 20) rfl hSS ?_
                    clear hSS
                    refine wpAnyE_one (i := 24) (by kernel_rfl) rfl (fun Kn hK => ?_)
                    go_simp
                    refine (leafC l1 l2 l4 l5).mono ?_
                    rintro ee wz ⟨rfl, b9⟩
                    replace BB := BB.trans (b9.mono BB.size); replace q3 := q3.below b9; clear l1 l2 l3 l4 l5
                    have hSS : (fun X : World => X.cell? ⟨X3, 0, none⟩ = some (.slice ba bn bc) ∧ X.cell? ⟨X3, 1, none⟩ = some (.slice ga gn gc)) wz ∧ True := ⟨⟨q3.cell 0, q3.cell 1⟩, trivial⟩
                    (try dsimp only)
                    refine hK.out _ _ ⟨hSS.1, fun _ => trivial⟩ ?_
                    clear hK
                    refine tkL (i := 25) rfl hSS ?_
                    refine wpAnyE_one (i := 26) (by kernel_rfl) rfl (fun Kn hK => ?_)
                    go_simp
                    refine hK.out _ _ ⟨hSS.1, fun _ => trivial⟩ ?_
                    refine wpAnyE_done (by kernel_rfl) ?_ _
                    clear hSS hK
                    go_wp2
                    go_ret
                    exact ⟨rfl, BB⟩
                · go_simp
                  obtain ⟨V8, Xl5, hV, hX, al, l5⟩ := newLit V7 [.slice (some ⟨Xl4, 0, none⟩) 3 3] 26
                  rw [← hV, ← hX]
                  replace BB := BB.trans (al.mono BB.size); replace l3 := l3.below al; replace l4 := l4.below al; replace q3 := q3.below al
                  refine hK.out _ _ ⟨⟨q3.cell 0, q3.cell 1⟩, fun _ => trivial⟩ ?_
                  clear hK hV hX al
                  refine wpAnyE_two (i := 18) (j := 19) (by kernel_rfl) rfl rfl (fun Kn hK => ?_) (fun Kn hK => ?_)
                  · go_simp
                    obtain ⟨V9, Xl1, hV, hX, al, l1⟩ := newLit V8 [.int .i64 0, .int .i64 0, .int .i64 0] 3
                    rw [← hV, ← hX]
                    replace BB := BB.trans (al.mono BB.size); replace l3 := l3.below al; replace l4 := l4.below al; replace l5 := l5.below al; replace q3 := q3.below al
                    refine hK.out _ _ ⟨⟨q3.cell 0, q3.cell 1⟩, fun _ => trivial⟩ ?_
                    clear hK hV hX al
                    refine wpAnyE_one (i := 19) (by kernel_rfl) rfl (fun Kn hK => ?_)
                    go_simp
                    obtain ⟨V10, Xl2, hV, hX, al, l2⟩ := newLit V9 [.int .i64 0] 3
                    rw [← hV, ← hX]
                    replace BB := BB.trans (al.mono BB.size); replace l3 := l3.below al; replace l4 := l4.below al; replace l5 := l5.below al; replace l1 := l1.below al; replace q3 := q3.below al
                    refine hK.out _ _ ⟨⟨q3.cell 0, q3.cell 1⟩, fun _ => trivial⟩ ?_
                    clear hK hV hX al
                    have hSS : (V10.cell? ⟨X3, 0, none⟩ = some (.slice ba bn bc) ∧ V10.cell? ⟨X3, 1, none⟩ = some (.slice ga gn gc)) ∧ True := ⟨⟨q3.cell 0, q3.cell 1⟩, trivial⟩
                    refine tkL (i := 20) rfl hSS ?_
                    clear hSS
                    refine wpAnyE_one (i := 24) (by kernel_rfl) rfl (fun Kn hK => ?_)
                    go_simp
                    refine (leafC l1 l2 l4 l5).mono ?_
                    rintro ee wz ⟨rfl, b9⟩
                    replace BB := BB.trans (b9.mono BB.size); replace q3 := q3.below b9; clear l1 l2 l3 l4 l5
                    have hSS : (fun X : World => X.cell? ⟨X3, 0, none⟩ = some (.slice ba bn bc) ∧ X.cell? ⟨X3, 1, none⟩ = some (.slice ga gn gc)) wz ∧ True := ⟨⟨q3.cell 0, q3.cell 1⟩, trivial⟩
                    (try dsimp only)
                    refine hK.out _ _ ⟨hSS.1, fun _ => trivial⟩ ?_
                    clear hK
                    refine tkL (i := 25) rfl hSS ?_
                    refine wpAnyE_one (i := 26) (by kernel_rfl) rfl (fun Kn hK => ?_)
                    go_simp
                    refine hK.out _ _ ⟨hSS.1, fun _ => trivial⟩ ?_
                    refine wpAnyE_done (by kernel_rfl) ?_ _
                    clear hSS hK
                    go_wp2
                    go_ret
                    exact ⟨rfl, BB⟩
                  · go_simp
                    obtain ⟨V9, Xl2, hV, hX, al, l2⟩ := newLit V8 [.int .i64 0] 3
                    rw [← hV, ← hX]
                    replace BB := BB.trans (al.mono BB.size); replace l3 := l3.below al; replace l4 := l4.below al; replace l5 := l5.below al; replace q3 := q3.below al
                    refine hK.out _ _ ⟨⟨q3.cell 0, q3.cell 1⟩, fun _ => trivial⟩ ?_
                    clear hK hV hX al
                    refine wpAnyE_one (i := 18) (by kernel_rfl) rfl (fun Kn hK => ?_)
                    go_simp
                    obtain ⟨V10, Xl1, hV, hX, al, l1⟩ := newLit V9 [.int .i64 0, .int .i64 0, .int .i64 0] 3
                    rw [← hV, ← hX]
                    replace BB := BB.trans (al.mono BB.size); replace l3 := l3.below al; replace l4 := l4.below al; replace l5 := l5.below al; replace l2 := l2.below al; replace q3 := q3.below al
                    refine hK.out _ _ ⟨⟨q3.cell 0, q3.cell 1⟩, fun _ => trivial⟩ ?_
                    clear hK hV hX al
                    have hSS : (V10.cell? ⟨X3, 0, none⟩ = some (.slice ba bn bc) ∧ V10.cell? ⟨X3, 1, none⟩ = some (.slice ga gn gc)) ∧ True := ⟨⟨q3.cell 0, q3.cell 1⟩, trivial⟩
                    refine tkL (i := 20) rfl hSS ?_
                    clear hSS
                    refine wpAnyE_one (i := 24) (by kernel_rfl) rfl (fun Kn hK => ?_)
                    go_simp
                    refine (leafC l1 l2 l4 l5).mono ?_
                    rintro ee wz ⟨rfl, b9⟩
                    replace BB := BB.trans (b9.mono BB.size); replace q3 := q3.below b9; clear l1 l2 l3 l4 l5
                    have hSS : (fun X : World => X.cell? ⟨X3, 0, none⟩ = some (.slice ba bn bc) ∧ X.cell? ⟨X3, 1, none⟩ = some (.slice ga gn gc)) wz ∧ True := ⟨⟨q3.cell 0, q3.cell 1⟩, trivial⟩
                    (try dsimp only)
                    refine hK.out _ _ ⟨hSS.1, fun _ => trivial⟩ ?_
                    clear hK
                    refine tkL (i := 25) rfl hSS ?_
                    refine wpAnyE_one (i := 26) (by kernel_rfl) rfl (fun Kn hK => ?_)
                    go_simp
                    refine hK.out _ _ ⟨hSS.1, fun _ => trivial⟩ ?_
                    refine wpAnyE_done (by kernel_rfl) ?_ _
                    clear hSS hK
                    go_wp2
                    go_ret
                    exact ⟨rfl, BB⟩
            · go_simp
              obtain ⟨V6, Xl4, hV, hX, al, l4⟩ := newLit w5 [.int .i64 0, .int .i64 0, .int .i64 0] 3
              rw [← hV, ← hX]
              replace BB := BB.trans (al.mono BB.size); replace q3 := q3.below al
              refine hK.out _ _ ⟨⟨q3.cell 0, q3.cell 1⟩, fun _ => trivial⟩ ?_
              clear hK hV hX al
              refine wpAnyE_four (i0 := 18) (i1 := 19) (i2 := 21) (i3 := 23) (by kernel_rfl) rfl rfl rfl rfl (fun Kn hK => ?_) (fun Kn hK => ?_) (fun Kn hK => ?_) (fun Kn hK => ?_)
              · go_simp
                obtain ⟨V7, Xl1, hV, hX, al, l1⟩ := newLit V6 [.int .i64 0, .int .i64 0, .int .i64 0] 3
                rw [← hV, ← hX]
                replace BB := BB.trans (al.mono BB.size); replace l4 := l4.below al; replace q3 := q3.below al
                refine hK.out _ _ ⟨⟨q3.cell 0, q3.cell 1⟩, fun _ => trivial⟩ ?_
                clear hK hV hX al
                refine wpAnyE_three (i0 := 19) (i1 := 21) (i2 := 23) (by kernel_rfl) rfl rfl rfl (fun Kn hK => ?_) (fun Kn hK => ?_) (fun Kn hK => ?_)
                · go_simp
                  obtain ⟨V8, Xl2, hV, hX, al, l2⟩ := newLit V7 [.int .i64 0] 3
                  rw [← hV, ← hX]
                  replace BB := BB.trans (al.mono BB.size); replace l4 := l4.below al; replace l1 := l1.below al; replace q3 := q3.below al
                  refine hK.out _ _ ⟨⟨q3.cell 0, q3.cell 1⟩, fun _ => trivial⟩ ?_
                  clear hK hV hX al
                  have hSS : (V8.cell? ⟨X3, 0, none⟩ = some (.slice ba bn bc) ∧ V8.cell? ⟨X3, 1, none⟩ = some (.slice ga gn gc)) ∧ True := ⟨⟨q3.cell 0, q3.cell 1⟩, trivial⟩
                  refine tkL (i := 20) rfl hSS ?_
                  clear hSS
                  refine wpAnyE_two (i := 21) (j := 23) (by kernel_rfl) rfl rfl (fun Kn hK => ?_) (fun Kn hK => ?_)
                  · go_simp
                    obtain ⟨V9, Xl3, hV, hX, al, l3⟩ := newLit V8 [] 26
                    rw [← hV, ← hX]
                    replace BB := BB.trans (al.mono BB.size); replace l4 := l4.below al; replace l1 := l1.below al; replace l2 := l2.below al; replace q3 := q3.below al
                    refine hK.out _ _ ⟨⟨q3.cell 0, q3.cell 1⟩, fun _ => trivial⟩ ?_
                    clear hK hV hX al
                    refine wpAnyE_one (i := 23) (by kernel_rfl) rfl (fun Kn hK => ?_)
                    go_simp
                    obtain ⟨V10, Xl5, hV, hX, al, l5⟩ := newLit V9 [.slice (some ⟨Xl4, 0, none⟩) 3 3] 26
                    rw [← hV, ← hX]
                    replace BB := BB.trans (al.mono BB.size); replace l4 := l4.below al; replace l1 := l1.below al; replace l2 := l2.below al; replace l3 := l3.below al; replace q3 := q3.below al
                    refine hK.out _ _ ⟨⟨q3.cell 0, q3.cell 1⟩, fun _ => trivial⟩ ?_
                    clear hK hV hX al
                    refine wpAnyE_one (i := 24) (by kernel_rfl) rfl (fun Kn hK => ?_)
                    go_simp
                    refine (leafC l1 l2 l4 l5).mono ?_
                    rintro ee wz ⟨rfl, b9⟩
                    replace BB := BB.trans (b9.mono BB.size); replace q3 := q3.below b9; clear l1 l2 l3 l4 l5
                    have hSS : (fun X : World => X.cell? ⟨X3, 0, none⟩ = some (.slice ba bn bc) ∧ X.cell? ⟨X3, 1, none⟩ = some (.slice ga gn gc)) wz ∧ True := ⟨⟨q3.cell 0, q3.cell 1⟩, trivial⟩
                    (try dsimp only)
                    refine hK.out _ _ ⟨hSS.1, fun _ => trivial⟩ ?_
                    clear hK
                    refine tkL (i := 25) rfl hSS ?_
                    refine wpAnyE_one (i := 26) (by kernel_rfl) rfl (fun Kn hK => ?_)
                    go_simp
                    refine hK.out _ _ ⟨hSS.1, fun _ => trivial⟩ ?_
                    refine wpAnyE_done (by kernel_rfl) ?_ _
                    clear hSS hK
                    go_wp2
                    go_ret
                    exact ⟨rfl, BB⟩
                  · go_simp
                    obtain ⟨V9, Xl5, hV, hX, al, l5⟩ := newLit V8 [.slice (some ⟨Xl4, 0, none⟩) 3 3] 26
                    rw [← hV, ← hX]
                    replace BB := BB.trans (al.mono BB.size); replace l4 := l4.below al; replace l1 := l1.below al; replace l2 := l2.below al; replace q3 := q3.below al
                    refine hK.out _ _ ⟨⟨q3.cell 0, q3.cell 1⟩, fun _ => trivial⟩ ?_
                    clear hK hV hX al
                    refine wpAnyE_one (i := 21) (by kernel_rfl) rfl (fun Kn hK => ?_)
                    go_simp
                    obtain ⟨V10, Xl3, hV, hX, al, l3⟩ := newLit V9 [] 26
                    rw [← hV, ← hX]
                    replace BB := BB.trans (al.mono BB.size); replace l4 := l4.below al; replace l1 := l1.below al; replace l2 := l2.below al; replace l5 := l5.below al; replace q3 := q3.below al
                    refine hK.out _ _ ⟨⟨q3.cell 0, q3.cell 1⟩, fun _ => trivial⟩ ?_
                    clear hK hV hX al
                    refine wpAnyE_one (i := 24) (by kernel_rfl) rfl (fun Kn hK => ?_)
                    go_simp
                    refine (leafC l1 l2 l4 l5).mono ?_
                    rintro ee wz ⟨rfl, b9⟩
                    replace BB := BB.trans (b9.mono BB.size); replace q3 := q3.below b9; clear l1 l2 l3 l4 l5
                    have hSS : (fun X : World => X.cell? ⟨X3, 0, none⟩ = some (.slice ba bn bc) ∧ X.cell? ⟨X3, 1, none⟩ = some (.slice ga gn gc)) wz ∧ True := ⟨⟨q3.cell 0, q3.cell 1⟩, trivial⟩
                    (try dsimp only)
                    refine hK.out _ _ ⟨hSS.1, fun _ => trivial⟩ ?_
                    clear hK
                    refine tkL (i := 25) rfl hSS ?_
                    refine wpAnyE_one (i := 26) (by kernel_rfl) rfl (fun Kn hK => ?_)
                    go_simp
                    refine hK.out _ _ ⟨hSS.1, fun _ => trivial⟩ ?_
                    refine wpAnyE_done (by kernel_rfl) ?_ _
                    clear hSS hK
                    go_wp2
                    go_ret
                    exact ⟨rfl, BB⟩
                · go_simp
                  obtain ⟨V8, Xl3, hV, hX, al, l3⟩ := newLit V7 [] 26
                  rw [← hV, ← hX]
                  replace BB := BB.trans (al.mono BB.size); replace l4 := l4.below al; replace l1 := l1.below al; replace q3 := q3.below al
                  refine hK.out _ _ ⟨⟨q3.cell 0, q3.cell 1⟩, fun _ => trivial⟩ ?_
                  clear hK hV hX al
                  refine wpAnyE_two (i := 19) (j := 23) (by kernel_rfl) rfl rfl (fun Kn hK => ?_) (fun Kn hK => ?_)
                  · go_simp
                    obtain ⟨V9, Xl2, hV, hX, al, l2⟩ := newLit V8 [.int .i64 0] 3
                    rw [← hV, ← hX]
                    replace BB := BB.trans (al.mono BB.size); replace l4 := l4.below al; replace l1 := l1.below al; replace l3 := l3.below al; replace q3 := q3.below al
                    refine hK.out _ _ ⟨⟨q3.cell 0, q3.cell 1⟩, fun _ => trivial⟩ ?_
                    clear hK hV hX al
                    have hSS : (V9.cell? ⟨X3, 0, none⟩ = some (.slice ba bn bc) ∧ V9.cell? ⟨X3, 1, none⟩ = some (.slice ga gn gc)) ∧ True := ⟨⟨q3.cell 0, q3.cell 1⟩, trivial⟩
                    refine tkL (i := 20) rfl hSS ?_
                    clear hSS
                    refine wpAnyE_one (i := 23) (by kernel_rfl) rfl (fun Kn hK => ?_)
                    go_simp
                    obtain ⟨V10, Xl5, hV, hX, al, l5⟩ := newLit V9 [.slice (some ⟨Xl4, 0, none⟩) 3 3] 26
                    rw [← hV, ← hX]
                    replace BB := BB.trans (al.mono BB.size); replace l4 := l4.below al; replace l1 := l1.below al; replace l3 := l3.below al; replace l2 := l2.below al; replace q3 := q3.below al
                    refine hK.out _ _ ⟨⟨q3.cell 0, q3.cell 1⟩, fun _ => trivial⟩ ?_
                    clear hK hV hX al
                    refine wpAnyE_one (i := 24) (by kernel_rfl) rfl (fun Kn hK => ?_)
                    go_simp
                    refine (leafC l1 l2 l4 l5).mono ?_
                    rintro ee wz ⟨rfl, b9⟩
                    replace BB := BB.trans (b9.mono BB.size); replace q3 := q3.below b9; clear l1 l2 l3 l4 l5
                    have hSS : (fun X : World => X.cell? ⟨X3, 0, none⟩ = some (.slice ba bn bc) ∧ X.cell? ⟨X3, 1, none⟩ = some (.slice ga gn gc)) wz ∧ True := ⟨⟨q3.cell 0, q3.cell 1⟩, trivial⟩
                    (try dsimp only)
                    refine hK.out _ _ ⟨hSS.1, fun _ => trivial⟩ ?_
                    clear hK
                    refine tkL (i := 25) rfl hSS ?_
                    refine wpAnyE_one (i := 26) (by kernel_rfl) rfl (fun Kn hK => ?_)
                    go_simp
                    refine hK.out _ _ ⟨hSS.1, fun _ => trivial⟩ ?_
                    refine wpAnyE_done (by kernel_rfl) ?_ _
                    clear hSS hK
                    go_wp2
                    go_ret
                    exact ⟨rfl, BB⟩
                  · go_simp
                    obtain ⟨V9, Xl5, hV, hX, al, l5⟩ := newLit V8 [.slice (some ⟨Xl4, 0, none⟩) 3 3] 26
                    rw [← hV, ← hX]
                    replace BB := BB.trans (al.mono BB.size); replace l4 := l4.below al; replace l1 := l1.below al; replace l3 := l3.below al; replace q3 := q3.below al
                    refine hK.out _ _ ⟨⟨q3.cell 0, q3.cell 1⟩, fun _ => trivial⟩ ?_
                    clear hK hV hX al
                    refine wpAnyE_one (i := 19) (by kernel_rfl) rfl (fun Kn hK => ?_)
                    go_simp
                    obtain ⟨V10, Xl2, hV, hX, al, l2⟩ := newLit V9 [.int .i64 0] 3
                    rw [← hV, ← hX]
                    replace BB := BB.trans (al.mono BB.size); replace l4 := l4.below al; replace l1 := l1.below al; replace l3 := l3.below al; replace l5 := l5.below al; replace q3 := q3.below al
                    refine hK.out _ _ ⟨⟨q3.cell 0, q3.cell 1⟩, fun _ => trivial⟩ ?_
                    clear hK hV hX al
                    have hSS : (V10.cell? ⟨X3, 0, none⟩ = some (.slice ba bn bc) ∧ V10.cell? ⟨X3, 1, none⟩ = some (.slice ga gn gc)) ∧ True := ⟨⟨q3.cell 0, q3.cell 1⟩, trivial⟩
                    refine tkL (i := 20) rfl hSS ?_
                    clear hSS
                    refine wpAnyE_one (i := 24) (by kernel_rfl) rfl (fun Kn hK => ?_)
                    go_simp
                    refine (leafC l1 l2 l4 l5).mono ?_
                    rintro ee wz ⟨rfl, b9⟩
                    replace BB := BB.trans (b9.mono BB.size); replace q3 := q3.below b9; clear l1 l2 l3 l4 l5
                    have hSS : (fun X : World => X.cell? ⟨X3, 0, none⟩ = some (.slice ba bn bc) ∧ X.cell? ⟨X3, 1, none⟩ = some (.slice ga gn gc)) wz ∧ True := ⟨⟨q3.cell 0, q3.cell 1⟩, trivial⟩
                    (try dsimp only)
                    refine hK.out _ _ ⟨hSS.1, fun _ => trivial⟩ ?_
                    clear hK
                    refine tkL (i := 25) rfl hSS ?_
                    refine wpAnyE_one (i := 26) (by kernel_rfl) rfl (fun Kn hK => ?_)
                    go_simp
                    refine hK.out _ _ ⟨hSS.1, fun _ => trivial⟩ ?_
                    refine wpAnyE_done (by kernel_rfl) ?_ _
                    clear hSS hK
                    go_wp2
                    go_ret
                    exact ⟨rfl, BB⟩
                · go_simp
                  obtain ⟨V8, Xl5, hV, hX, al, l5⟩ := newLit V7 [.slice (some ⟨Xl4, 0, none⟩) 3 3] 26
                  rw [← hV, ← hX]
                  replace BB := BB.trans (al.mono BB.size); replace l4 := l4.below al; replace l1 := l1.below al; replace q3 := q3.below al
                  refine hK.out _ _ ⟨⟨q3.cell 0, q3.cell 1⟩, fun _ => trivial⟩ ?_
                  clear hK hV hX al
                  refine wpAnyE_two (i := 19) (j := 21) (by kernel_rfl) rfl rfl (fun Kn hK => ?_) (fun Kn hK => ?_)
                  · go_simp
                    obtain ⟨V9, Xl2, hV, hX, al, l2⟩ := newLit V8 [.int .i64 0] 3
                    rw [← hV, ← hX]
                    replace BB := BB.trans (al.mono BB.size); replace l4 := l4.below al; replace l1 := l1.below al; replace l5 := l5.below al; replace q3 := q3.below al
                    refine hK.out _ _ ⟨⟨q3.cell 0, q3.cell 1⟩, fun _ => trivial⟩ ?_
                    clear hK hV hX al
                    have hSS : (V9.cell? ⟨X3, 0, none⟩ = some (.slice ba bn bc) ∧ V9.cell? ⟨X3, 1, none⟩ = some (.slice ga gn gc)) ∧ True := ⟨⟨q3.cell 0, q3.cell 1⟩, trivial⟩
                    refine tkL (i := 20) rfl hSS ?_
                    clear hSS
                    refine wpAnyE_one (i := 21) (by kernel_rfl) rfl (fun Kn hK => ?_)
                    go_simp
                    obtain ⟨V10, Xl3, hV, hX, al, l3⟩ := newLit V9 [] 26
                    rw [← hV, ← hX]
                    replace BB := BB.trans (al.mono BB.size); replace l4 := l4.below al; replace l1 := l1.below al; replace l5 := l5.below al; replace l2 := l2.below al; replace q3 := q3.below al
                    refine hK.out _ _ ⟨⟨q3.cell 0, q3.cell 1⟩, fun _ => trivial⟩ ?_
                    clear hK hV hX al
                    refine wpAnyE_one (i := 24) (by kernel_rfl) rfl (fun Kn hK => ?_)
                    go_simp
                    refine (leafC l1 l2 l4 l5).mono ?_
                    rintro ee wz ⟨rfl, b9⟩
                    replace BB := BB.trans (b9.mono BB.size); replace q3 := q3.below b9; clear l1 l2 l3 l4 l5
                    have hSS : (fun X : World => X.cell? ⟨X3, 0, none⟩ = some (.slice ba bn bc) ∧ X.cell? ⟨X3, 1, none⟩ = some (.slice ga gn gc)) wz ∧ True := ⟨⟨q3.cell 0, q3.cell 1⟩, trivial⟩
                    (try dsimp only)
                    refine hK.out _ _ ⟨hSS.1, fun _ => trivial⟩ ?_
                    clear hK
                    refine tkL (i := 25) rfl hSS ?_
                    refine wpAnyE_one (i := 26) (by kernel_rfl) rfl (fun Kn hK => ?_)
                    go_simp
                    refine hK.out _ _ ⟨hSS.1, fun _ => trivial⟩ ?_
                    refine wpAnyE_done (by kernel_rfl) ?_ _
                    clear hSS hK
                    go_wp2
                    go_ret
                    exact ⟨rfl, BB⟩
                  · go_simp
                    obtain ⟨V9, Xl3, hV, hX, al, l3⟩ := newLit V8 [] 26
                    rw [← hV, ← hX]
                    replace BB := BB.trans (al.mono BB.size); replace l4 := l4.below al; replace l1 := l1.below al; replace l5 := l5.below al; replace q3 := q3.below al
                    refine hK.out _ _ ⟨⟨q3.cell 0, q3.cell 1⟩, fun _ => trivial⟩ ?_
                    clear hK hV hX al
                    refine wpAnyE_one (i := 19) (by kernel_rfl) rfl (fun Kn hK => ?_)
                    go_simp
                    obtain ⟨V10, Xl2, hV, hX, al, l2⟩ := newLit V9 [.int .i64 0] 3
                    rw [← hV, ← hX]
                    replace BB := BB.trans (al.mono BB.size); replace l4 := l4.below al; replace l1 := l1.below al; replace l5 := l5.below al; replace l3 := l3.below al; replace q3 := q3.below al
                    refine hK.out _ _ ⟨⟨q3.cell 0, q3.cell 1⟩, fun _ => trivial⟩ ?_
                    clear hK hV hX al
                    have hSS : (V10.cell? ⟨X3, 0, none⟩ = some (.slice ba bn bc) ∧ V10.cell? ⟨X3, 1, none⟩ = some (.slice ga gn gc)) ∧ True := ⟨⟨q3.cell 0, q3.cell 1⟩, trivial⟩
                    refine tkL (i := 20) rfl hSS ?_
                    clear hSS
                    refine wpAnyE_one (i := 24) (by kernel_rfl) rfl (fun Kn hK => ?_)
                    go_simp
                    refine (leafC l1 l2 l4 l5).mono ?_
                    rintro ee wz ⟨rfl, b9⟩
                    replace BB := BB.trans (b9.mono BB.size); replace q3 := q3.below b9; clear l1 l2 l3 l4 l5
                    have hSS : (fun X : World => X.cell? ⟨X3, 0, none⟩ = some (.slice ba bn bc) ∧ X.cell? ⟨X3, 1, none⟩ = some (.slice ga gn gc)) wz ∧ True := ⟨⟨q3.cell 0, q3.cell 1⟩, trivial⟩
                    (try dsimp only)
                    refine hK.out _ _ ⟨hSS.1, fun _ => trivial⟩ ?_
                    clear hK
                    refine tkL (i := 25) rfl hSS ?_
                    refine wpAnyE_one (i := 26) (by kernel_rfl) rfl (fun Kn hK => ?_)
                    go_simp
                    refine hK.out _ _ ⟨hSS.1, fun _ => trivial⟩ ?_
                    refine wpAnyE_done (by kernel_rfl) ?_ _
                    clear hSS hK
                    go_wp2
                    go_ret
                    exact ⟨rfl, BB⟩
              · go_simp
                obtain ⟨V7, Xl2, hV, hX, al, l2⟩ := newLit V6 [.int .i64 0] 3
                rw [← hV, ← hX]
                replace BB := BB.trans (al.mono BB.size); replace l4 := l4.below al; replace q3 := q3.below al
                refine hK.out _ _ ⟨⟨q3.cell 0, q3.cell 1⟩, fun _ => trivial⟩ ?_
                clear hK hV hX al
                refine wpAnyE_three (i0 := 18) (i1 := 21) (i2 := 23) (by kernel_rfl) rfl rfl rfl (fun Kn hK => ?_) (fun Kn hK => ?_) (fun Kn hK => ?_)
                · go_simp
                  obtain ⟨V8, Xl1, hV, hX, al, l1⟩ := newLit V7 [.int .i64 0, .int .i64 0, .int .i64 0] 3
                  rw [← hV, ← hX]
                  replace BB := BB.trans (al.mono BB.size); replace l4 := l4.below al; replace l2 := l2.below al; replace q3 := q3.below al
                  refine hK.out _ _ ⟨⟨q3.cell 0, q3.cell 1⟩, fun _ => trivial⟩ ?_
                  clear hK hV hX al
                  have hSS : (V8.cell? ⟨X3, 0, none⟩ = some (.slice ba bn bc) ∧ V8.cell? ⟨X3, 1, none⟩ = some (.slice ga gn gc)) ∧ True := ⟨⟨q3.cell 0, q3.cell 1⟩, trivial⟩
                  refine tkL (i := 20) rfl hSS ?_
                  clear hSS
                  refine wpAnyE_two (i := 21) (j := 23) (by kernel_rfl) rfl rfl (fun Kn hK => ?_) (fun Kn hK => ?_)
                  · go_simp
                    obtain ⟨V9, Xl3, hV, hX, al, l3⟩ := newLit V8 [] 26
                    rw [← hV, ← hX]
                    replace BB := BB.trans (al.mono BB.size); replace l4 := l4.below al; replace l2 := l2.below al; replace l1 := l1.below al; replace q3 := q3.below al
                    refine hK.out _ _ ⟨⟨q3.cell 0, q3.cell 1⟩, fun _ => trivial⟩ ?_
                    clear hK hV hX al
                    refine wpAnyE_one (i := 23) (by kernel_rfl) rfl (fun Kn hK => ?_)
                    go_simp
                    obtain ⟨V10, Xl5, hV, hX, al, l5⟩ := newLit V9 [.slice (some ⟨Xl4, 0, none⟩) 3 3] 26
                    rw [← hV, ← hX]
                    replace BB := BB.trans (al.mono BB.size); replace l4 := l4.below al; replace l2 := l2.below al; replace l1 := l1.below al; replace l3 := l3.below al; replace q3 := q3.below al
                    refine hK.out _ _ ⟨⟨q3.cell 0, q3.cell 1⟩, fun _ => trivial⟩ ?_
                    clear hK hV hX al
                    refine wpAnyE_one (i := 24) (by kernel_rfl) rfl (fun Kn hK => ?_)
                    go_simp
                    refine (leafC l1 l2 l4 l5).mono ?_
                    rintro ee wz ⟨rfl, b9⟩
                    replace BB := BB.trans (b9.mono BB.size); replace q3 := q3.below b9; clear l1 l2 l3 l4 l5
                    have hSS : (fun X : World => X.cell? ⟨X3, 0, none⟩ = some (.slice ba bn bc) ∧ X.cell? ⟨X3, 1, none⟩ = some (.slice ga gn gc)) wz ∧ True := ⟨⟨q3.cell 0, q3.cell 1⟩, trivial⟩
                    (try dsimp only)
                    refine hK.out _ _ ⟨hSS.1, fun _ => trivial⟩ ?_
                    clear hK
                    refine tkL (i := 25) rfl hSS ?_
                    refine wpAnyE_one (i := 26) (by kernel_rfl) rfl (fun Kn hK => ?_)
                    go_simp
                    refine hK.out _ _ ⟨hSS.1, fun _ => trivial⟩ ?_
                    refine wpAnyE_done (by kernel_rfl) ?_ _
                    clear hSS hK
                    go_wp2
                    go_ret
                    exact ⟨rfl, BB⟩
                  · go_simp
                    obtain ⟨V9, Xl5, hV, hX, al, l5⟩ := newLit V8 [.slice (some ⟨Xl4, 0, none⟩) 3 3] 26
                    rw [← hV, ← hX]
                    replace BB := BB.trans (al.mono BB.size); replace l4 := l4.below al; replace l2 := l2.below al; replace l1 := l1.below al; replace q3 := q3.below al
                    refine hK.out _ _ ⟨⟨q3.cell 0, q3.cell 1⟩, fun _ => trivial⟩ ?_
                    clear hK hV hX al
                    refine wpAnyE_one (i := 21) (by kernel_rfl) rfl (fun Kn hK => ?_)
                    go_simp
                    obtain ⟨V10, Xl3, hV, hX, al, l3⟩ := newLit V9 [] 26
                    rw [← hV, ← hX]
                    replace BB := BB.trans (al.mono BB.size); replace l4 := l4.below al; replace l2 := l2.below al; replace l1 := l1.below al; replace l5 := l5.below al; replace q3 := q3.below al
                    refine hK.out _ _ ⟨⟨q3.cell 0, q3.cell 1⟩, fun _ => trivial⟩ ?_
                    clear hK hV hX al
                    refine wpAnyE_one (i := 24) (by kernel_rfl) rfl (fun Kn hK => ?_)
                    go_simp
                    refine (leafC l1 l2 l4 l5).mono ?_
                    rintro ee wz ⟨rfl, b9⟩
                    replace BB := BB.trans (b9.mono BB.size); replace q3 := q3.below b9; clear l1 l2 l3 l4 l5
                    have hSS : (fun X : World => X.cell? ⟨X3, 0, none⟩ = some (.slice ba bn bc) ∧ X.cell? ⟨X3, 1, none⟩ = some (.slice ga gn gc)) wz ∧ True := ⟨⟨q3.cell 0, q3.cell 1⟩, trivial⟩
                    (try dsimp only)
                    refine hK.out _ _ ⟨hSS.1, fun _ => trivial⟩ ?_
                    clear hK
                    refine tkL (i := 25) rfl hSS ?_
                    refine wpAnyE_one (i := 26) (by kernel_rfl) rfl (fun Kn hK => ?_)
                    go_simp
                    refine hK.out _ _ ⟨hSS.1, fun _ => trivial⟩ ?_
                    refine wpAnyE_done (by kernel_rfl) ?_ _
                    clear hSS hK
                    go_wp2
                    go_ret
                    exact ⟨rfl, BB⟩
                · go_simp
                  obtain ⟨V8, Xl3, hV, hX, al, l3⟩ := newLit V7 [] 26
                  rw [← hV, ← hX]
                  replace BB := BB.trans (al.mono BB.size); replace l4 := l4.below al; replace l2 := l2.below al; replace q3 := q3.below al
                  refine hK.out _ _ ⟨⟨q3.cell 0, q3.cell 1⟩, fun _ => trivial⟩ ?_
                  clear hK hV hX al
                  refine wpAnyE_two (i := 18) (j := 23) (by kernel_rfl) rfl rfl (fun Kn hK => ?_) (fun Kn hK => ?_)
                  · go_simp
                    obtain ⟨V9, Xl1, hV, hX, al, l1⟩ := newLit V8 [.int .i64 0, .int .i64 0, .int .i64 0] 3
                    rw [← hV, ← hX]
                    replace BB := BB.trans (al.mono BB.size); replace l4 := l4.below al; replace l2 := l2.below al; replace l3 := l3.below al; replace q3 := q3.below al
                    refine hK.out _ _ ⟨⟨q3.cell 0, q3.cell 1⟩, fun _ => trivial⟩ ?_
                    clear hK hV hX al
                    have hSS : (V9.cell? ⟨X3, 0, none⟩ = some (.slice ba bn bc) ∧ V9.cell? ⟨X3, 1, none⟩ = some (.slice ga gn gc)) ∧ True := ⟨⟨q3.cell 0, q3.cell 1⟩, trivial⟩
                    refine tkL (i := 20) rfl hSS ?_
                    clear hSS
                    refine wpAnyE_one (i := 23) (by kernel_rfl) rfl (fun Kn hK => ?_)
                    go_simp
                    obtain ⟨V10, Xl5, hV, hX, al, l5⟩ := newLit V9 [.slice (some ⟨Xl4, 0, none⟩) 3 3] 26
                    rw [← hV, ← hX]
                    replace BB := BB.trans (al.mono BB.size); replace l4 := l4.below al; replace l2 := l2.below al; replace l3 := l3.below al; replace l1 := l1.below al; replace q3 := q3.below al
                    refine hK.out _ _ ⟨⟨q3.cell 0, q3.cell 1⟩, fun _ => trivial⟩ ?_
                    clear hK hV hX al
                    refine wpAnyE_one (i := 24) (by kernel_rfl) rfl (fun Kn hK => ?_)
                    go_simp
                    refine (leafC l1 l2 l4 l5).mono ?_
                    rintro ee wz ⟨rfl, b9⟩
                    replace BB := BB.trans (b9.mono BB.size); replace q3 := q3.below b9; clear l1 l2 l3 l4 l5
                    have hSS : (fun X : World => X.cell? ⟨X3, 0, none⟩ = some (.slice ba bn bc) ∧ X.cell? ⟨X3, 1, none⟩ = some (.slice ga gn gc)) wz ∧ True := ⟨⟨q3.cell 0, q3.cell 1⟩, trivial⟩
                    (try dsimp only)
                    refine hK.out _ _ ⟨hSS.1, fun _ => trivial⟩ ?_
                    clear hK
                    refine tkL (i := 25) rfl hSS ?_
                    refine wpAnyE_one (i := 26) (by kernel_rfl) rfl (fun Kn hK => ?_)
                    go_simp
                    refine hK.out _ _ ⟨hSS.1, fun _ => trivial⟩ ?_
                    refine wpAnyE_done (by kernel_rfl) ?_ _
                    clear hSS hK
                    go_wp2
                    go_ret
                    exact ⟨rfl, BB⟩
                  · go_simp
                    obtain ⟨V9, Xl5, hV, hX, al, l5⟩ := newLit V8 [.slice (some ⟨Xl4, 0, none⟩) 3 3] 26
                    rw [← hV, ← hX]
                    replace BB := BB.trans (al.mono BB.size); replace l4 := l4.below al; replace l2 := l2.below al; replace l3 := l3.below al; replace q3 := q3.below al
                    refine hK.out _ _ ⟨⟨q3.cell 0, q3.cell 1⟩, fun _ => trivial⟩ ?_
                    clear hK hV hX al
                    refine wpAnyE_one (i := 18) (by kernel_rfl) rfl (fun Kn hK => ?_)
                    go_simp
                    obtain ⟨V10, Xl1, hV, hX, al, l1⟩ := newLit V9 [.int .i64 0, .int .i64 0, .int .i64 0] 3
                    rw [← hV, ← hX]
                    replace BB := BB.trans (al.mono BB.size); replace l4 := l4.below al; replace l2 := l2.below al; replace l3 := l3.below al; replace l5 := l5.below al; replace q3 := q3.below al
                    refine hK.out _ _ ⟨⟨q3.cell 0, q3.cell 1⟩, fun _ => trivial⟩ ?_
                    clear hK hV hX al
                    have hSS : (V10.cell? ⟨X3, 0, none⟩ = some (.slice ba bn bc) ∧ V10.cell? ⟨X3, 1, none⟩ = some (.slice ga gn gc)) ∧ True := ⟨⟨q3.cell 0, q3.cell 1⟩, trivial⟩
                    refine tkL (i := 20) rfl hSS ?_
                    clear hSS
                    refine wpAnyE_one (i := 24) (by kernel_rfl) rfl (fun Kn hK => ?_)
                    go_simp
                    refine (leafC l1 l2 l4 l5).mono ?_
                    rintro ee wz ⟨rfl, b9⟩
                    replace BB := BB.trans (b9.mono BB.size); replace q3 := q3.below b9; clear l1 l2 l3 l4 l5
                    have hSS : (fun X : World => X.cell? ⟨X3, 0, none⟩ = some (.slice ba bn bc) ∧ X.cell? ⟨X3, 1, none⟩ = some (.slice ga gn gc)) wz ∧ True := ⟨⟨q3.cell 0, q3.cell 1⟩, trivial⟩
                    (try dsimp only)
                    refine hK.out _ _ ⟨hSS.1, fun _ => trivial⟩ ?_
                    clear hK
                    refine tkL (i := 25) rfl hSS ?_
                    refine wpAnyE_one (i := 26) (by kernel_rfl) rfl (fun Kn hK => ?_)
                    go_simp
                    refine hK.out _ _ ⟨hSS.1, fun _ => trivial⟩ ?_
                    refine wpAnyE_done (by kernel_rfl) ?_ _
                    clear hSS hK
                    go_wp2
                    go_ret
                    exact ⟨rfl, BB⟩
                · go_simp
                  obtain ⟨V8, Xl5, hV, hX, al, l5⟩ := newLit V7 [.slice (some ⟨Xl4, 0, none⟩) 3 3] 26
                  rw [← hV, ← hX]
                  replace BB := BB.trans (al.mono BB.size); replace l4 := l4.below al; replace l2 := l2.below al; replace q3 := q3.below al
                  refine hK.out _ _ ⟨⟨q3.cell 0, q3.cell 1⟩, fun _ => trivial⟩ ?_
                  clear hK hV hX al
                  refine wpAnyE_two (i := 18) (j := 21) (by kernel_rfl) rfl rfl (fun Kn hK => ?_) (fun Kn hK => ?_)
                  · go_simp
                    obtain ⟨V9, Xl1, hV, hX, al, l1⟩ := newLit V8 [.int .i64 0, .int .i64 0, .int .i64 0] 3
                    rw [← hV, ← hX]
                    replace BB := BB.trans (al.mono BB.size); replace l4 := l4.below al; replace l2 := l2.below al; replace l5 := l5.below al; replace q3 := q3.below al
                    refine hK.out _ _ ⟨⟨q3.cell 0, q3.cell 1⟩, fun _ => trivial⟩ ?_
                    clear hK hV hX al
                    have hSS : (V9.cell? ⟨X3, 0, none⟩ = some (.slice ba bn bc) ∧ V9.cell? ⟨X3, 1, none⟩ = some (.slice ga gn gc)) ∧ True := ⟨⟨q3.cell 0, q3.cell 1⟩, trivial⟩
                    refine tkL (i := 20) rfl hSS ?_
                    clear hSS
                    refine wpAnyE_one (i := 21) (by kernel_rfl) rfl (fun Kn hK => ?_)
                    go_simp
                    obtain ⟨V10, Xl3, hV, hX, al, l3⟩ := newLit V9 [] 26
                    rw [← hV, ← hX]
                    replace BB := BB.trans (al.mono BB.size); replace l4 := l4.below al; replace l2 := l2.below al; replace l5 := l5.below al; replace l1 := l1.below al; replace q3 := q3.below al
                    refine hK.out _ _ ⟨⟨q3.cell 0, q3.cell 1⟩, fun _ => trivial⟩ ?_
                    clear hK hV hX al
                    refine wpAnyE_one (i := 24) (by kernel_rfl) rfl (fun Kn hK => ?_)
                    go_simp
                    refine (leafC l1 l2 l4 l5).mono ?_
                    rintro ee wz ⟨rfl, b9⟩
                    replace BB := BB.trans (b9.mono BB.size); replace q3 := q3.below b9; clear l1 l2 l3 l4 l5
                    have hSS : (fun X : World => X.cell? ⟨X3, 0, none⟩ = some (.slice ba bn bc) ∧ X.cell? ⟨X3, 1, none⟩ = some (.slice ga gn gc)) wz ∧ True := ⟨⟨q3.cell 0, q3.cell 1⟩, trivial⟩
                    (try dsimp only)
                    refine hK.out _ _ ⟨hSS.1, fun _ => trivial⟩ ?_
                    clear hK
                    refine tkL (i := 25) rfl hSS ?_
                    refine wpAnyE_one (i := 26) (by kernel_rfl) rfl (fun Kn hK => ?_)
                    go_simp
                    refine hK.out _ _ ⟨hSS.1, fun _ => trivial⟩ ?_
                    refine wpAnyE_done (by kernel_rfl) ?_ _
                    clear hSS hK
                    go_wp2
                    go_ret
                    exact ⟨rfl, BB⟩
                  · go_simp
                    obtain ⟨V9, Xl3, hV, hX, al, l3⟩ := newLit V8 [] 26
                    rw [← hV, ← hX]
                    replace BB := BB.trans (al.mono BB.size); replace l4 := l4.below al; replace l2 := l2.below al; replace l5 := l5.below al; replace q3 := q3.below al
                    refine hK.out _ _ ⟨⟨q3.cell 0, q3.cell 1⟩, fun _ => trivial⟩ ?_
                    clear hK hV hX al
                    refine wpAnyE_one (i := 18) (by kernel_rfl) rfl (fun Kn hK => ?_)
                    go_simp
                    obtain ⟨V10, Xl1, hV, hX, al, l1⟩ := newLit V9 [.int .i64 0, .int .i64 0, .int .i64 0] 3
                    rw [← hV, ← hX]
                    replace BB := BB.trans (al.mono BB.size); replace l4 := l4.below al; replace l2 := l2.below al; replace l5 := l5.below al; replace l3 := l3.below al; replace q3 := q3.below al
                    refine hK.out _ _ ⟨⟨q3.cell 0, q3.cell 1⟩, fun _ => trivial⟩ ?_
                    clear hK hV hX al
                    have hSS : (V10.cell? ⟨X3, 0, none⟩ = some (.slice ba bn bc) ∧ V10.cell? ⟨X3, 1, none⟩ = some (.slice ga gn gc)) ∧ True := ⟨⟨q3.cell 0, q3.cell 1⟩, trivial⟩
                    refine tkL (i := 20) rfl hSS ?_
                    clear hSS
                    refine wpAnyE_one (i := 24) (by kernel_rfl) rfl (fun Kn hK => ?_)
                    go_simp
                    refine (leafC l1 l2 l4 l5).mono ?_
                    rintro ee wz ⟨rfl, b9⟩
                    replace BB := BB.trans (b9.mono BB.size); replace q3 := q3.below b9; clear l1 l2 l3 l4 l5
                    have hSS : (fun X : World => X.cell? ⟨X3, 0, none⟩ = some (.slice ba bn bc) ∧ X.cell? ⟨X3, 1, none⟩ = some (.slice ga gn gc)) wz ∧ True := ⟨⟨q3.cell 0, q3.cell 1⟩, trivial⟩
                    (try dsimp only)
                    refine hK.out _ _ ⟨hSS.1, fun _ => trivial⟩ ?_
                    clear hK
                    refine tkL (i := 25) rfl hSS ?_
                    refine wpAnyE_one (i := 26) (by kernel_rfl) rfl (fun Kn hK => ?_)
                    go_simp
                    refine hK.out _ _ ⟨hSS.1, fun _ => trivial⟩ ?_
                    refine wpAnyE_done (by kernel_rfl) ?_ _
                    clear hSS hK
                    go_wp2
                    go_ret
                    exact ⟨rfl, BB⟩
              · go_simp
                obtain ⟨V7, Xl3, hV, hX, al, l3⟩ := newLit V6 [] 26
                rw [← hV, ← hX]
                replace BB := BB.trans (al.mono BB.size); replace l4 := l4.below al; replace q3 := q3.below al
                refine hK.out _ _ ⟨⟨q3.cell 0, q3.cell 1⟩, fun _ => trivial⟩ ?_
                clear hK hV hX al
                refine wpAnyE_three (i0 := 18) (i1 := 19) (i2 := 23) (by kernel_rfl) rfl rfl rfl (fun Kn hK => ?_) (fun Kn hK => ?_) (fun Kn hK => ?_)
                · go_simp
                  obtain ⟨V8, Xl1, hV, hX, al, l1⟩ := newLit V7 [.int .i64 0, .int .i64 0, .int .i64 0] 3
                  rw [← hV, ← hX]
                  replace BB := BB.trans (al.mono BB.size); replace l4 := l4.below al; replace l3 := l3.below al; replace q3 := q3.below al
                  refine hK.out _ _ ⟨⟨q3.cell 0, q3.cell 1⟩, fun _ => trivial⟩ ?_
                  clear hK hV hX al
                  refine wpAnyE_two (i := 19) (j := 23) (by kernel_rfl) rfl rfl (fun Kn hK => ?_) (fun Kn hK => ?_)
                  · go_simp
                    obtain ⟨V9, Xl2, hV, hX, al, l2⟩ := newLit V8 [.int .i64 0] 3
                    rw [← hV, ← hX]
                    replace BB := BB.trans (al.mono BB.size); replace l4 := l4.below al; replace l3 := l3.below al; replace l1 := l1.below al; replace q3 := q3.below al
                    refine hK.out _ _ ⟨⟨q3.cell 0, q3.cell 1⟩, fun _ => trivial⟩ ?_
                    clear hK hV hX al
                    have hSS : (V9.cell? ⟨X3, 0, none⟩ = some (.slice ba bn bc) ∧ V9.cell? ⟨X3, 1, none⟩ = some (.slice ga gn gc)) ∧ True := ⟨⟨q3.cell 0, q3.cell 1⟩, trivial⟩
                    refine tkL (i := 20) rfl hSS ?_
                    clear hSS
                    refine wpAnyE_one (i := 23) (by kernel_rfl) rfl (fun Kn hK => ?_)
                    go_simp
                    obtain ⟨V10, Xl5, hV, hX, al, l5⟩ := newLit V9 [.slice (some ⟨Xl4, 0, none⟩) 3 3] 26
                    rw [← hV, ← hX]
                    replace BB := BB.trans (al.mono BB.size); replace l4 := l4.below al; replace l3 := l3.below al; replace l1 := l1.below al; replace l2 := l2.below al; replace q3 := q3.below al
                    refine hK.out _ _ ⟨⟨q3.cell 0, q3.cell 1⟩, fun _ => trivial⟩ ?_
                    clear hK hV hX al
                    refine wpAnyE_one (i := 24) (by kernel_rfl) rfl (fun Kn hK => ?_)
                    go_simp
                    refine (leafC l1 l2 l4 l5).mono ?_
                    rintro ee wz ⟨rfl, b9⟩
                    replace BB := BB.trans (b9.mono BB.size); replace q3 := q3.below b9; clear l1 l2 l3 l4 l5
                    have hSS : (fun X : World => X.cell? ⟨X3, 0, none⟩ = some (.slice ba bn bc) ∧ X.cell? ⟨X3, 1, none⟩ = some (.slice ga gn gc)) wz ∧ True := ⟨⟨q3.cell 0, q3.cell 1⟩, trivial⟩
                    (try dsimp only)
                    refine hK.out _ _ ⟨hSS.1, fun _ => trivial⟩ ?_
                    clear hK
                    refine tkL (i := 25) rfl hSS ?_
                    refine wpAnyE_one (i := 26) (by kernel_rfl) rfl (fun Kn hK => ?_)
                    go_simp
                    refine hK.out _ _ ⟨hSS.1, fun _ => trivial⟩ ?_
                    refine wpAnyE_done (by kernel_rfl) ?_ _
                    clear hSS hK
                    go_wp2
                    go_ret
                    exact ⟨rfl, BB⟩
                  · go_simp
                    obtain ⟨V9, Xl5, hV, hX, al, l5⟩ := newLit V8 [.slice (some ⟨Xl4, 0, none⟩) 3 3] 26
                    rw [← hV, ← hX]
                    replace BB := BB.trans (al.mono BB.size); replace l4 := l4.below al; replace l3 := l3.below al; replace l1 := l1.below al; replace q3 := q3.below al
                    refine hK.out _ _ ⟨⟨q3.cell 0, q3.cell 1⟩, fun _ => trivial⟩ ?_
                    clear hK hV hX al
                    refine wpAnyE_one (i := 19) (by kernel_rfl) rfl (fun Kn hK => ?_)
                    go_simp
                    obtain ⟨V10, Xl2, hV, hX, al, l2⟩ := newLit V9 [.int .i64 0] 3
                    rw [← hV, ← hX]
                    replace BB := BB.trans (al.mono BB.size); replace l4 := l4.below al; replace l3 := l3.below al; replace l1 := l1.below al; replace l5 := l5.below al; replace q3 := q3.below al
                    refine hK.out _ _ ⟨⟨q3.cell 0, q3.cell 1⟩, fun _ => trivial⟩ ?_
                    clear hK hV hX al
                    have hSS : (V10.cell? ⟨X3, 0, none⟩ = some (.slice ba bn bc) ∧ V10.cell? ⟨X3, 1, none⟩ = some (.slice ga gn gc)) ∧ True := ⟨⟨q3.cell 0, q3.cell 1⟩, trivial⟩
                    refine tkL (i := 20) rfl hSS ?_
                    clear hSS
                    refine wpAnyE_one (i := 24) (by kernel_rfl) rfl (fun Kn hK => ?_)
                    go_simp
                    refine (leafC l1 l2 l4 l5).mono ?_
                    rintro ee wz ⟨rfl, b9⟩
                    replace BB := BB.trans (b9.mono BB.size); replace q3 := q3.below b9; clear l1 l2 l3 l4 l5
                    have hSS : (fun X : World => X.cell? ⟨X3, 0, none⟩ = some (.slice ba bn bc) ∧ X.cell? ⟨X3, 1, none⟩ = some (.slice ga gn gc)) wz ∧ True := ⟨⟨q3.cell 0, q3.cell 1⟩, trivial⟩
                    (try dsimp only)
                    refine hK.out _ _ ⟨hSS.1, fun _ => trivial⟩ ?_
                    clear hK
                    refine tkL (i := 25) rfl hSS ?_
                    refine wpAnyE_one (i := 26) (by kernel_rfl) rfl (fun Kn hK => ?_)
                    go_simp
                    refine hK.out _ _ ⟨hSS.1, fun _ => trivial⟩ ?_
                    refine wpAnyE_done (by kernel_rfl) ?_ _
                    clear hSS hK
                    go_wp2
                    go_ret
                    exact ⟨rfl, BB⟩
                · go_simp
                  obtain ⟨V8, Xl2, hV, hX, al, l2⟩ := newLit V7 [.int .i64 0] 3
                  rw [← hV, ← hX]
                  replace BB := BB.trans (al.mono BB.size); replace l4 := l4.below al; replace l3 := l3.below al; replace q3 := q3.below al
                  refine hK.out _ _ ⟨⟨q3.cell 0, q3.cell 1⟩, fun _ => trivial⟩ ?_
                  clear hK hV hX al
                  refine wpAnyE_two (i := 18) (j := 23) (by kernel_rfl) rfl rfl (fun Kn hK => ?_) (fun Kn hK => ?_)
                  · go_simp
                    obtain ⟨V9, Xl1, hV, hX, al, l1⟩ := newLit V8 [.int .i64 0, .int .i64 0, .int .i64 0] 3
                    rw [← hV, ← hX]
                    replace BB := BB.trans (al.mono BB.size); replace l4 := l4.below al; replace l3 := l3.below al; replace l2 := l2.below al; replace q3 := q3.below al
                    refine hK.out _ _ ⟨⟨q3.cell 0, q3.cell 1⟩, fun _ => trivial⟩ ?_
                    clear hK hV hX al
                    have hSS : (V9.cell? ⟨X3, 0, none⟩ = some (.slice ba bn bc) ∧ V9.cell? ⟨X3, 1, none⟩ = some (.slice ga gn gc)) ∧ True := ⟨⟨q3.cell 0, q3.cell 1⟩, trivial⟩
                    refine tkL (i := 20) rfl hSS ?_
                    clear hSS
                    refine wpAnyE_one (i := 23) (by kernel_rfl) rfl (fun Kn hK => ?_)
                    go_simp
                    obtain ⟨V10, Xl5, hV, hX, al, l5⟩ := newLit V9 [.slice (some ⟨Xl4, 0, none⟩) 3 3] 26
                    rw [← hV, ← hX]
                    replace BB := BB.trans (al.mono BB.size); replace l4 := l4.below al; replace l3 := l3.below al; replace l2 := l2.below al; replace l1 := l1.below al; replace q3 := q3.below al
                    refine hK.out _ _ ⟨⟨q3.cell 0, q3.cell 1⟩, fun _ => trivial⟩ ?_
                    clear hK hV hX al
                    refine wpAnyE_one (i := 24) (by kernel_rfl) rfl (fun Kn hK => ?_)
                    go_simp
                    refine (leafC l1 l2 l4 l5).mono ?_
                    rintro ee wz ⟨rfl, b9⟩
                    replace BB := BB.trans (b9.mono BB.size); replace q3 := q3.below b9; clear l1 l2 l3 l4 l5
                    have hSS : (fun X : World => X.cell? ⟨X3, 0, none⟩ = some (.slice ba bn bc) ∧ X.cell? ⟨X3, 1, none⟩ = some (.slice ga gn gc)) wz ∧ True := ⟨⟨q3.cell 0, q3.cell 1⟩, trivial⟩
                    (try dsimp only)
                    refine hK.out _ _ ⟨hSS.1, fun _ => trivial⟩ ?_
                    clear hK
                    refine tkL (i := 25) rfl hSS ?_
                    refine wpAnyE_one (i := 26) (by kernel_rfl) rfl (fun Kn hK => ?_)
                    go_simp
                    refine hK.out _ _ ⟨hSS.1, fun _ => trivial⟩ ?_
                    refine wpAnyE_done (by kernel_rfl) ?_ _
                    clear hSS hK
                    go_wp2
                    go_ret
                    exact ⟨rfl, BB⟩
                  · go_simp
                    obtain ⟨V9, Xl5, hV, hX, al, l5⟩ := newLit V8 [.slice (some ⟨Xl4, 0, none⟩) 3 3] 26
                    rw [← hV, ← hX]
                    replace BB := BB.trans (al.mono BB.size); replace l4 := l4.below al; replace l3 := l3.below al; replace l2 := l2.below al; replace q3 := q3.below al
                    refine hK.out _ _ ⟨⟨q3.cell 0, q3.cell 1⟩, fun _ => trivial⟩ ?_
                    clear hK hV hX al
                    refine wpAnyE_one (i := 18) (by kernel_rfl) rfl (fun Kn hK => ?_)
                    go_simp
                    obtain ⟨V10, Xl1, hV, hX, al, l1⟩ := newLit V9 [.int .i64 0, .int .i64 0, .int .i64 0] 3
                    rw [← hV, ← hX]
                    replace BB := BB.trans (al.mono BB.size); replace l4 := l4.below al; replace l3 := l3.below al; replace l2 := l2.below al; replace l5 := l5.below al; replace q3 := q3.below al
                    refine hK.out _ _ ⟨⟨q3.cell 0, q3.cell 1⟩, fun _ => trivial⟩ ?_
                    clear hK hV hX al
                    have hSS : (V10.cell? ⟨X3, 0, none⟩ = some (.slice ba bn bc) ∧ V10.cell? ⟨X3, 1, none⟩ = some (.slice ga gn gc)) ∧ True := ⟨⟨q3.cell 0, q3.cell 1⟩, trivial⟩
                    refine tkL (i := 20) rfl hSS ?_
                    clear hSS
                    refine wpAnyE_one (i := 24) (by kernel_rfl) rfl (fun Kn hK => ?_)
                    go_simp
                    refine (leafC l1 l2 l4 l5).mono ?_
                    rintro ee wz ⟨rfl, b9⟩
                    replace BB := BB.trans (b9.mono BB.size); replace q3 := q3.below b9; clear l1 l2 l3 l4 l5
                    have hSS : (fun X : World => X.cell? ⟨X3, 0, none⟩ = some (.slice ba bn bc) ∧ X.cell? ⟨X3, 1, none⟩ = some (.slice ga gn gc)) wz ∧ True := ⟨⟨q3.cell 0, q3.cell 1⟩, trivial⟩
                    (try dsimp only)
                    refine hK.out _ _ ⟨hSS.1, fun _ => trivial⟩ ?_
                    clear hK
                    refine tkL (i := 25) rfl hSS ?_
                    refine wpAnyE_one (i := 26) (by kernel_rfl) rfl (fun Kn hK => ?_)
                    go_simp
                    refine hK.out _ _ ⟨hSS.1, fun _ => trivial⟩ ?_
                    refine wpAnyE_done (by kernel_rfl) ?_ _
                    clear hSS hK
                    go_wp2
                    go_ret
                    exact ⟨rfl, BB⟩
                · go_simp
                  obtain ⟨V8, Xl5, hV, hX, al, l5⟩ := newLit V7 [.slice (some ⟨Xl4, 0, none⟩) 3 3] 26
                  rw [← hV, ← hX]
                  replace BB := BB.trans (al.mono BB.size); replace l4 := l4.below al; replace l3 := l3.below al; replace q3 := q3.below al
                  refine hK.out _ _ ⟨⟨q3.cell 0, q3.cell 1⟩, fun _ => trivial⟩ ?_
                  clear hK hV hX al
                  refine wpAnyE_two (i := 18) (j := 19) (by kernel_rfl) rfl rfl (fun Kn hK => ?_) (fun Kn hK => ?_)
                  · go_simp
                    obtain ⟨V9, Xl1, hV, hX, al, l1⟩ := newLit V8 [.int .i64 0, .int .i64 0, .int .i64 0] 3
                    rw [← hV, ← hX]
                    replace BB := BB.trans (al.mono BB.size); replace l4 := l4.below al; replace l3 := l3.below al; replace l5 := l5.below al; replace q3 := q3.below al
                    refine hK.out _ _ ⟨⟨q3.cell 0, q3.cell 1⟩, fun _ => trivial⟩ ?_
                    clear hK hV hX al
                    refine wpAnyE_one (i := 19) (by kernel_rfl) rfl (fun Kn hK => ?_)
                    go_simp
                    obtain ⟨V10, Xl2, hV, hX, al, l2⟩ := newLit V9 [.int .i64 0] 3
                    rw [← hV, ← hX]
                    replace BB := BB.trans (al.mono BB.size); replace l4 := l4.below al; replace l3 := l3.below al; replace l5 := l5.below al; replace l1 := l1.below al; replace q3 := q3.below al
                    refine hK.out _ _ ⟨⟨q3.cell 0, q3.cell 1⟩, fun _ => trivial⟩ ?_
                    clear hK hV hX al
                    have hSS : (V10.cell? ⟨X3, 0, none⟩ = some (.slice ba bn bc) ∧ V10.cell? ⟨X3, 1, none⟩ = some (.slice ga gn gc)) ∧ True := ⟨⟨q3.cell 0, q3.cell 1⟩, trivial⟩
                    refine tkL (i := 20) rfl hSS ?_
                    clear hSS
                    refine wpAnyE_one (i := 24) (by kernel_rfl) rfl (fun Kn hK => ?_)
                    go_simp
                    refine (leafC l1 l2 l4 l5).mono ?_
                    rintro ee wz ⟨rfl, b9⟩
                    replace BB := BB.trans (b9.mono BB.size); replace q3 := q3.below b9; clear l1 l2 l3 l4 l5
                    have hSS : (fun X : World => X.cell? ⟨X3, 0, none⟩ = some (.slice ba bn bc) ∧ X.cell? ⟨X3, 1, none⟩ = some (.slice ga gn gc)) wz ∧ True := ⟨⟨q3.cell 0, q3.cell 1⟩, trivial⟩
                    (try dsimp only)
                    refine hK.out _ _ ⟨hSS.1, fun _ => trivial⟩ ?_
                    clear hK
                    refine tkL (i := 25) rfl hSS ?_
                    refine wpAnyE_one (i := 26) (by kernel_rfl) rfl (fun Kn hK => ?_)
                    go_simp
                    refine hK.out _ _ ⟨hSS.1, fun _ => trivial⟩ ?_
                    refine wpAnyE_done (by kernel_rfl) ?_ _
                    clear hSS hK
                    go_wp2
                    go_ret
                    exact ⟨rfl, BB⟩
                  · go_simp
                    obtain ⟨V9, Xl2, hV, hX, al, l2⟩ := newLit V8 [.int .i64 0] 3
                    rw [← hV, ← hX]
                    replace BB := BB.trans (al.mono BB.size); replace l4 := l4.below al; replace l3 := l3.below al; replace l5 := l5.below al; replace q3 := q3.below al
                    refine hK.out _ _ ⟨⟨q3.cell 0, q3.cell 1⟩, fun _ => trivial⟩ ?_
                    clear hK hV hX al
                    refine wpAnyE_one (i := 18) (by kernel_rfl) rfl (fun Kn hK => ?_)
                    go_simp
                    obtain ⟨V10, Xl1, hV, hX, al, l1⟩ := newLit V9 [.int .i64 0, .int .i64 0, .int .i64 0] 3
                    rw [← hV, ← hX]
                    replace BB := BB.trans (al.mono BB.size); replace l4 := l4.below al; replace l3 := l3.below al; replace l5 := l5.below al; replace l2 := l2.below al; replace q3 := q3.below al
                    refine hK.out _ _ ⟨⟨q3.cell 0, q3.cell 1⟩, fun _ => trivial⟩ ?_
                    clear hK hV hX al
                    have hSS : (V10.cell? ⟨X3, 0, none⟩ = some (.slice ba bn bc) ∧ V10.cell? ⟨X3, 1, none⟩ = some (.slice ga gn gc)) ∧ True := ⟨⟨q3.cell 0, q3.cell 1⟩, trivial⟩
                    refine tkL (i := 20) rfl hSS ?_
                    clear hSS
                    refine wpAnyE_one (i := 24) (by kernel_rfl) rfl (fun Kn hK => ?_)
                    go_simp
                    refine (leafC l1 l2 l4 l5).mono ?_
                    rintro ee wz ⟨rfl, b9⟩
                    replace BB := BB.trans (b9.mono BB.size); replace q3 := q3.below b9; clear l1 l2 l3 l4 l5
                    have hSS : (fun X : World => X.cell? ⟨X3, 0, none⟩ = some (.slice ba bn bc) ∧ X.cell? ⟨X3, 1, none⟩ = some (.slice ga gn gc)) wz ∧ True := ⟨⟨q3.cell 0, q3.cell 1⟩, trivial⟩
                    (try dsimp only)
                    refine hK.out _ _ ⟨hSS.1, fun _ => trivial⟩ ?_
                    clear hK
                    refine tkL (i := 25) rfl hSS ?_
                    refine wpAnyE_one (i := 26) (by kernel_rfl) rfl (fun Kn hK => ?_)
                    go_simp
                    refine hK.out _ _ ⟨hSS.1, fun _ => trivial⟩ ?_
                    refine wpAnyE_done (by kernel_rfl) ?_ _
                    clear hSS hK
                    go_wp2
                    go_ret
                    exact ⟨rfl, BB⟩
              · go_simp
                obtain ⟨V7, Xl5, hV, hX, al, l5⟩ := newLit V6 [.slice (some ⟨Xl4, 0, none⟩) 3 3] 26
                rw [← hV, ← hX]
                replace BB := BB.trans (al.mono BB.size); replace l4 := l4.below al; replace q3 := q3.below al
                refine hK.out _ _ ⟨⟨q3.cell 0, q3.cell 1⟩, fun _ => trivial⟩ ?_
                clear hK hV hX al
                refine wpAnyE_three (i0 := 18) (i1 := 19) (i2 := 21) (by kernel_rfl) rfl rfl rfl (fun Kn hK => ?_) (fun Kn hK => ?_) (fun Kn hK => ?_)
                · go_simp
                  obtain ⟨V8, Xl1, hV, hX, al, l1⟩ := newLit V7 [.int .i64 0, .int .i64 0, .int .i64 0] 3
                  rw [← hV, ← hX]
                  replace BB := BB.trans (al.mono BB.size); replace l4 := l4.below al; replace l5 := l5.below al; replace q3 := q3.below al
                  refine hK.out _ _ ⟨⟨q3.cell 0, q3.cell 1⟩, fun _ => trivial⟩ ?_
                  clear hK hV hX al
                  refine wpAnyE_two (i := 19) (j := 21) (by kernel_rfl) rfl rfl (fun Kn hK => ?_) (fun Kn hK => ?_)
                  · go_simp
                    obtain ⟨V9, Xl2, hV, hX, al, l2⟩ := newLit V8 [.int .i64 0] 3
                    rw [← hV, ← hX]
                    replace BB := BB.trans (al.mono BB.size); replace l4 := l4.below al; replace l5 := l5.below al; replace l1 := l1.below al; replace q3 := q3.below al
                    refine hK.out _ _ ⟨⟨q3.cell 0, q3.cell 1⟩, fun _ => trivial⟩ ?_
                    clear hK hV hX al
                    have hSS : (V9.cell? ⟨X3, 0, none⟩ = some (.slice ba bn bc) ∧ V9.cell? ⟨X3, 1, none⟩ = some (.slice ga gn gc)) ∧ True := ⟨⟨q3.cell 0, q3.cell 1⟩, trivial⟩
                    refine tkL (i := 20) rfl hSS ?_
                    clear hSS
                    refine wpAnyE_one (i := 21) (by kernel_rfl) rfl (fun Kn hK => ?_)
                    go_simp
                    obtain ⟨V10, Xl3, hV, hX, al, l3⟩ := newLit V9 [] 26
                    rw [← hV, ← hX]
                    replace BB := BB.trans (al.mono BB.size); replace l4 := l4.below al; replace l5 := l5.below al; replace l1 := l1.below al; replace l2 := l2.below al; replace q3 := q3.below al
                    refine hK.out _ _ ⟨⟨q3.cell 0, q3.cell 1⟩, fun _ => trivial⟩ ?_
                    clear hK hV hX al
                    refine wpAnyE_one (i := 24) (by kernel_rfl) rfl (fun Kn hK => ?_)
                    go_simp
                    refine (leafC l1 l2 l4 l5).mono ?_
                    rintro ee wz ⟨rfl, b9⟩
                    replace BB := BB.trans (b9.mono BB.size); replace q3 := q3.below b9; clear l1 l2 l3 l4 l5
                    have hSS : (fun X : World => X.cell? ⟨X3, 0, none⟩ = some (.slice ba bn bc) ∧ X.cell? ⟨X3, 1, none⟩ = some (.slice ga gn gc)) wz ∧ True := ⟨⟨q3.cell 0, q3.cell 1⟩, trivial⟩
                    (try dsimp only)
                    refine hK.out _ _ ⟨hSS.1, fun _ => trivial⟩ ?_
                    clear hK
                    refine tkL (i := 25) rfl hSS ?_
                    refine wpAnyE_one (i := 26) (by kernel_rfl) rfl (fun Kn hK => ?_)
                    go_simp
                    refine hK.out _ _ ⟨hSS.1, fun _ => trivial⟩ ?_
                    refine wpAnyE_done (by kernel_rfl) ?_ _
                    clear hSS hK
                    go_wp2
                    go_ret
                    exact ⟨rfl, BB⟩
                  · go_simp
                    obtain ⟨V9, Xl3, hV, hX, al, l3⟩ := newLit V8 [] 26
                    rw [← hV, ← hX]
                    replace BB := BB.trans (al.mono BB.size); replace l4 := l4.below al; replace l5 := l5.below al; replace l1 := l1.below al; replace q3 := q3.below al
                    refine hK.out _ _ ⟨⟨q3.cell 0, q3.cell 1⟩, fun _ => trivial⟩ ?_
                    clear hK hV hX al
                    refine wpAnyE_one (i := 19) (by kernel_rfl) rfl (fun Kn hK => ?_)
                    go_simp
                    obtain ⟨V10, Xl2, hV, hX, al, l2⟩ := newLit V9 [.int .i64 0] 3
                    rw [← hV, ← hX]
                    replace BB := BB.trans (al.mono BB.size); replace l4 := l4.below al; replace l5 := l5.below al; replace l1 := l1.below al; replace l3 := l3.below al; replace q3 := q3.below al
                    refine hK.out _ _ ⟨⟨q3.cell 0, q3.cell 1⟩, fun _ => trivial⟩ ?_
                    clear hK hV hX al
                    have hSS : (V10.cell? ⟨X3, 0, none⟩ = some (.slice ba bn bc) ∧ V10.cell? ⟨X3, 1, none⟩ = some (.slice ga gn gc)) ∧ True := ⟨⟨q3.cell 0, q3.cell 1⟩, trivial⟩
                    refine tkL (i := 20) rfl hSS ?_
                    clear hSS
                    refine wpAnyE_one (i := 24) (by kernel_rfl) rfl (fun Kn hK => ?_)
                    go_simp
                    refine (leafC l1 l2 l4 l5).mono ?_
                    rintro ee wz ⟨rfl, b9⟩
                    replace BB := BB.trans (b9.mono BB.size); replace q3 := q3.below b9; clear l1 l2 l3 l4 l5
                    have hSS : (fun X : World => X.cell? ⟨X3, 0, none⟩ = some (.slice ba bn bc) ∧ X.cell? ⟨X3, 1, none⟩ = some (.slice ga gn gc)) wz ∧ True := ⟨⟨q3.cell 0, q3.cell 1⟩, trivial⟩
                    (try dsimp only)
                    refine hK.out _ _ ⟨hSS.1, fun _ => trivial⟩ ?_
                    clear hK
                    refine tkL (i := 25) rfl hSS ?_
                    refine wpAnyE_one (i := 26) (by kernel_rfl) rfl (fun Kn hK => ?_)
                    go_simp
                    refine hK.out _ _ ⟨hSS.1, fun _ => trivial⟩ ?_
                    refine wpAnyE_done (by kernel_rfl) ?_ _
                    clear hSS hK
                    go_wp2
                    go_ret
                    exact ⟨rfl, BB⟩
                · go_simp
                  obtain ⟨V8, Xl2, hV, hX, al, l2⟩ := newLit V7 [.int .i64 0] 3
                  rw [← hV, ← hX]
                  replace BB := BB.trans (al.mono BB.size); replace l4 := l4.below al; replace l5 := l5.below al; replace q3 := q3.below al
                  refine hK.out _ _ ⟨⟨q3.cell 0, q3.cell 1⟩, fun _ => trivial⟩ ?_
                  clear hK hV hX al
                  refine wpAnyE_two (i := 18) (j := 21) (by kernel_rfl) rfl rfl (fun Kn hK => ?_) (fun Kn hK => ?_)
                  · go_simp
                    obtain ⟨V9, Xl1, hV, hX, al, l1⟩ := newLit V8 [.int .i64 0, .int .i64 0, .int .i64 0] 3
                    rw [← hV, ← hX]
                    replace BB := BB.trans (al.mono BB.size); replace l4 := l4.below al; replace l5 := l5.below al; replace l2 := l2.below al; replace q3 := q3.below al
                    refine hK.out _ _ ⟨⟨q3.cell 0, q3.cell 1⟩, fun _ => trivial⟩ ?_
                    clear hK hV hX al
                    have hSS : (V9.cell? ⟨X3, 0, none⟩ = some (.slice ba bn bc) ∧ V9.cell? ⟨X3, 1, none⟩ = some (.slice ga gn gc)) ∧ True := ⟨⟨q3.cell 0, q3.cell 1⟩, trivial⟩
                    refine tkL (i := 20) rfl hSS ?_
                    clear hSS
                    refine wpAnyE_one (i := 21) (by kernel_rfl) rfl (fun Kn hK => ?_)
                    go_simp
                    obtain ⟨V10, Xl3, hV, hX, al, l3⟩ := newLit V9 [] 26
                    rw [← hV, ← hX]
                    replace BB := BB.trans (al.mono BB.size); replace l4 := l4.below al; replace l5 := l5.below al; replace l2 := l2.below al; replace l1 := l1.below al; replace q3 := q3.below al
                    refine hK.out _ _ ⟨⟨q3.cell 0, q3.cell 1⟩, fun _ => trivial⟩ ?_
                    clear hK hV hX al
                    refine wpAnyE_one (i := 24) (by kernel_rfl) rfl (fun Kn hK => ?_)
                    go_simp
                    refine (leafC l1 l2 l4 l5).mono ?_
                    rintro ee wz ⟨rfl, b9⟩
                    replace BB := BB.trans (b9.mono BB.size); replace q3 := q3.below b9; clear l1 l2 l3 l4 l5
                    have hSS : (fun X : World => X.cell? ⟨X3, 0, none⟩ = some (.slice ba bn bc) ∧ X.cell? ⟨X3, 1, none⟩ = some (.slice ga gn gc)) wz ∧ True := ⟨⟨q3.cell 0, q3.cell 1⟩, trivial⟩
                    (try dsimp only)
                    refine hK.out _ _ ⟨hSS.1, fun _ => trivial⟩ ?_
                    clear hK
                    refine tkL (i := 25) rfl hSS ?_
                    refine wpAnyE_one (i := 26) (by kernel_rfl) rfl (fun Kn hK => ?_)
                    go_simp
                    refine hK.out _ _ ⟨hSS.1, fun _ => trivial⟩ ?_
                    refine wpAnyE_done (by kernel_rfl) ?_ _
                    clear hSS hK
                    go_wp2
                    go_ret
                    exact ⟨rfl, BB⟩
                  · go_simp
                    obtain ⟨V9, Xl3, hV, hX, al, l3⟩ := newLit V8 [] 26
                    rw [← hV, ← hX]
                    replace BB := BB.trans (al.mono BB.size); replace l4 := l4.below al; replace l5 := l5.below al; replace l2 := l2.below al; replace q3 := q3.below al
                    refine hK.out _ _ ⟨⟨q3.cell 0, q3.cell 1⟩, fun _ => trivial⟩ ?_
                    clear hK hV hX al
                    refine wpAnyE_one (i := 18) (by kernel_rfl) rfl (fun Kn hK => ?_)
                    go_simp
                    obtain ⟨V10, Xl1, hV, hX, al, l1⟩ := newLit V9 [.int .i64 0, .int .i64 0, .int .i64 0] 3
                    rw [← hV, ← hX]
                    replace BB := BB.trans (al.mono BB.size); replace l4 := l4.below al; replace l5 := l5.below al; replace l2 := l2.below al; replace l3 := l3.below al; replace q3 := q3.below al
                    refine hK.out _ _ ⟨⟨q3.cell 0, q3.cell 1⟩, fun _ => trivial⟩ ?_
                    clear hK hV hX al
                    have hSS : (V10.cell? ⟨X3, 0, none⟩ = some (.slice ba bn bc) ∧ V10.cell? ⟨X3, 1, none⟩ = some (.slice ga gn gc)) ∧ True := ⟨⟨q3.cell 0, q3.cell 1⟩, trivial⟩
                    refine tkL (i := 20) rfl hSS ?_
                    clear hSS
                    refine wpAnyE_one (i := 24) (by kernel_rfl) rfl (fun Kn hK => ?_)
                    go_simp
                    refine (leafC l1 l2 l4 l5).mono ?_
                    rintro ee wz ⟨rfl, b9⟩
                    replace BB := BB.trans (b9.mono BB.size); replace q3 := q3.below b9; clear l1 l2 l3 l4 l5
                    have hSS : (fun X : World => X.cell? ⟨X3, 0, none⟩ = some (.slice ba bn bc) ∧ X.cell? ⟨X3, 1, none⟩ = some (.slice ga gn gc)) wz ∧ True := ⟨⟨q3.cell 0, q3.cell 1⟩, trivial⟩
                    (try dsimp only)
                    refine hK.out _ _ ⟨hSS.1, fun _ => trivial⟩ ?_
                    clear hK
                    refine tkL (i := 25) rfl hSS ?_
                    refine wpAnyE_one (i := 26) (by kernel_rfl) rfl (fun Kn hK => ?_)
                    go_simp
                    refine hK.out _ _ ⟨hSS.1, fun _ => trivial⟩ ?_
                    refine wpAnyE_done (by kernel_rfl) ?_ _
                    clear hSS hK
                    go_wp2
                    go_ret
                    exact ⟨rfl, BB⟩
                · go_simp
                  obtain ⟨V8, Xl3, hV, hX, al, l3⟩ := newLit V7 [] 26
                  rw [← hV, ← hX]
                  replace BB := BB.trans (al.mono BB.size); replace l4 := l4.below al; replace l5 := l5.below al; replace q3 := q3.below al
                  refine hK.out _ _ ⟨⟨q3.cell 0, q3.cell 1⟩, fun _ => trivial⟩ ?_
                  clear hK hV hX al
                  refine wpAnyE_two (i := 18) (j := 19) (by kernel_rfl) rfl rfl (fun Kn hK => ?_) (fun Kn hK => ?_)
                  · go_simp
                    obtain ⟨V9, Xl1, hV, hX, al, l1⟩ := newLit V8 [.int .i64 0, .int .i64 0, .int .i64 0] 3
                    rw [← hV, ← hX]
                    replace BB := BB.trans (al.mono BB.size); replace l4 := l4.below al; replace l5 := l5.below al; replace l3 := l3.below al; replace q3 := q3.below al
                    refine hK.out _ _ ⟨⟨q3.cell 0, q3.cell 1⟩, fun _ => trivial⟩ ?_
                    clear hK hV hX al
                    refine wpAnyE_one (i := 19) (by kernel_rfl) rfl (fun Kn hK => ?_)
                    go_simp
                    obtain ⟨V10, Xl2, hV, hX, al, l2⟩ := newLit V9 [.int .i64 0] 3
                    rw [← hV, ← hX]
                    replace BB := BB.trans (al.mono BB.size); replace l4 := l4.below al; replace l5 := l5.below al; replace l3 := l3.below al; replace l1 := l1.below al; replace q3 := q3.below al
                    refine hK.out _ _ ⟨⟨q3.cell 0, q3.cell 1⟩, fun _ => trivial⟩ ?_
                    clear hK hV hX al
                    have hSS : (V10.cell? ⟨X3, 0, none⟩ = some (.slice ba bn bc) ∧ V10.cell? ⟨X3, 1, none⟩ = some (.slice ga gn gc)) ∧ True := ⟨⟨q3.cell 0, q3.cell 1⟩, trivial⟩
                    refine tkL (i := 20) rfl hSS ?_
                    clear hSS
                    refine wpAnyE_one (i := 24) (by kernel_rfl) rfl (fun Kn hK => ?_)
                    go_simp
                    refine (leafC l1 l2 l4 l5).mono ?_
                    rintro ee wz ⟨rfl, b9⟩
                    replace BB := BB.trans (b9.mono BB.size); replace q3 := q3.below b9; clear l1 l2 l3 l4 l5
                    have hSS : (fun X : World => X.cell? ⟨X3, 0, none⟩ = some (.slice ba bn bc) ∧ X.cell? ⟨X3, 1, none⟩ = some (.slice ga gn gc)) wz ∧ True := ⟨⟨q3.cell 0, q3.cell 1⟩, trivial⟩
                    (try dsimp only)
                    refine hK.out _ _ ⟨hSS.1, fun _ => trivial⟩ ?_
                    clear hK
                    refine tkL (i := 25) rfl hSS ?_
                    refine wpAnyE_one (i := 26) (by kernel_rfl) rfl (fun Kn hK => ?_)
                    go_simp
                    refine hK.out _ _ ⟨hSS.1, fun _ => trivial⟩ ?_
                    refine wpAnyE_done (by kernel_rfl) ?_ _
                    clear hSS hK
                    go_wp2
                    go_ret
                    exact ⟨rfl, BB⟩
                  · go_simp
                    obtain ⟨V9, Xl2, hV, hX, al, l2⟩ := newLit V8 [.int .i64 0] 3
                    rw [← hV, ← hX]
                    replace BB := BB.trans (al.mono BB.size); replace l4 := l4.below al; replace l5 := l5.below al; replace l3 := l3.below al; replace q3 := q3.below al
                    refine hK.out _ _ ⟨⟨q3.cell 0, q3.cell 1⟩, fun _ => trivial⟩ ?_
                    clear hK hV hX al
                    refine wpAnyE_one (i := 18) (by kernel_rfl) rfl (fun Kn hK => ?_)
                    go_simp
                    obtain ⟨V10, Xl1, hV, hX, al, l1⟩ := newLit V9 [.int .i64 0, .int .i64 0, .int .i64 0] 3
                    rw [← hV, ← hX]
                    replace BB := BB.trans (al.mono BB.size); replace l4 := l4.below al; replace l5 := l5.below al; replace l3 := l3.below al; replace l2 := l2.below al; replace q3 := q3.below al
                    refine hK.out _ _ ⟨⟨q3.cell 0, q3.cell 1⟩, fun _ => trivial⟩ ?_
                    clear hK hV hX al
                    have hSS : (V10.cell? ⟨X3, 0, none⟩ = some (.slice ba bn bc) ∧ V10.cell? ⟨X3, 1, none⟩ = some (.slice ga gn gc)) ∧ True := ⟨⟨q3.cell 0, q3.cell 1⟩, trivial⟩
                    refine tkL (i := 20) rfl hSS ?_
                    clear hSS
                    refine wpAnyE_one (i := 24) (by kernel_rfl) rfl (fun Kn hK => ?_)
                    go_simp
                    refine (leafC l1 l2 l4 l5).mono ?_
                    rintro ee wz ⟨rfl, b9⟩
                    replace BB := BB.trans (b9.mono BB.size); replace q3 := q3.below b9; clear l1 l2 l3 l4 l5
                    have hSS : (fun X : World => X.cell? ⟨X3, 0, none⟩ = some (.slice ba bn bc) ∧ X.cell? ⟨X3, 1, none⟩ = some (.slice ga gn gc)) wz ∧ True := ⟨⟨q3.cell 0, q3.cell 1⟩, trivial⟩
                    (try dsimp only)
                    refine hK.out _ _ ⟨hSS.1, fun _ => trivial⟩ ?_
                    clear hK
                    refine tkL (i := 25) rfl hSS ?_
                    refine wpAnyE_one (i := 26) (by kernel_rfl) rfl (fun Kn hK => ?_)
                    go_simp
                    refine hK.out _ _ ⟨hSS.1, fun _ => trivial⟩ ?_
                    refine wpAnyE_done (by kernel_rfl) ?_ _
                    clear hSS hK
                    go_wp2
                    go_ret
                    exact ⟨rfl, BB⟩
          · have hgo2 : k < en ∧ allK bn gn B G ts es en k = true := by simpa using hgo
            obtain ⟨hlt, hA⟩ := hgo2
            have HA : Hid (allK bn gn B G ts es en (k + 1) = keepB bn gn B G ts (k : Int) (es[k]?.getD noI).n (es[k]?.getD noI).x) := allK_succ _ _ _ _ _ _ _ _ hA
            clear hgo hA
            have hlt' : (k : Int) < (en : Int) := by omega
            obtain ⟨b', o', e', hck, hIk, hnk⟩ := hE k (by rw [HE.out]; exact hlt)
            generalize es[k]?.getD noI = y at hck hIk hnk HA
            subst e'
            have hPl : Pl wc b' (o' + k) (.slice y.a y.n y.cap) := hck
            clear hck hE
            go_upto_region 8 with fail
            refine wp_region_ends (fun X => X.cell? ⟨X3, 0, none⟩ = some (.slice ba bn bc) ∧ X.cell? ⟨X3, 1, none⟩ = some (.slice ga gn gc) ∧ X.cell? ⟨b', (o' + k), none⟩ = some (.slice y.a y.n y.cap)) (fun _ => True) 8 (by kernel_rfl) ?_
            have dr : Below wc.heap.size wc wc.drew := (Below.refl _ _).drew
            replace BB := BB.trans (dr.mono BB.size)
            replace hb0 := hb0.trans (dr.mono hb0.size)
            replace hB := hB.below dr
            replace hG := hG.below dr
            replace hP := hP.below dr
            replace hIk := hIk.below dr
            replace hPl := hPl.below dr
            replace q3 := q3.below dr
            clear dr
            obtain ⟨V3, hV3⟩ : ∃ V, V = wc.drew := ⟨_, rfl⟩
            rw [← hV3]
            rw [← hV3] at hB hG hP hIk hPl q3 BB hb0
            clear hV3
            have hSS : (V3.cell? ⟨X3, 0, none⟩ = some (.slice ba bn bc) ∧ V3.cell? ⟨X3, 1, none⟩ = some (.slice ga gn gc) ∧ V3.cell? ⟨b', (o' + k), none⟩ = some (.slice y.a y.n y.cap)) ∧ True := ⟨⟨q3.cell 0, q3.cell 1, hPl⟩, trivial⟩
            refine wpAnyE_take0 (i := 0) (v := ?k1xv0) rfl (by kernel_rfl) (by kernel_rfl) (by kernel_rfl) (by decide) (fun _ _ _ h => h) (Or.inl ⟨by rfl, ?k1xhy0⟩) hSS ?_
            case k1xhy0 => (intro wz hSw; (try dsimp only at hSw); go_simp; try (with_reducible rfl))
            refine wpAnyE_take0 (i := 1) (v := ?k1xv1) rfl (by kernel_rfl) (by kernel_rfl) (by kernel_rfl) (by decide) (fun _ _ _ h => h) (Or.inl ⟨by rfl, ?k1xhy1⟩) hSS ?_
            case k1xhy1 => (intro wz hSw; (try dsimp only at hSw); go_simp; try (with_reducible rfl))
            refine wpAnyE_take0 (i := 2) (v := ?k1xv2) rfl (by kernel_rfl) (by kernel_rfl) (by kernel_rfl) (by decide) (fun _ _ _ h => h) (Or.inl ⟨by rfl, ?k1xhy2⟩) hSS ?_
            case k1xhy2 => (intro wz hSw; (try dsimp only at hSw); go_simp; try (with_reducible rfl))
            refine wpAnyE_take0 (i := 3) (v := ?k1xv3) rfl (by kernel_rfl) (by kernel_rfl) (by kernel_rfl) (by decide) (fun _ _ _ h => h) (Or.inl ⟨by rfl, ?k1xhy3⟩) hSS ?_
            case k1xhy3 => (intro wz hSw; (try dsimp only at hSw); go_simp; try (with_reducible rfl))
            simp only [Act.put, List.setIfInBounds_toArray, List.set_cons_succ, List.set_cons_zero, List.getElem_toArray, List.getElem_cons_succ, List.getElem_cons_zero]
            refine wpAnyE_take0 (i := 4) (v := ?k1xv4) rfl (by kernel_rfl) (by kernel_rfl) (by kernel_rfl) (by decide) (fun _ _ _ h => h) (Or.inl ⟨by rfl, ?k1xhy4⟩) hSS ?_
            case k1xhy4 => (intro wz hSw; (try dsimp only at hSw); go_simp; try (with_reducible rfl))
            refine wpAnyE_take0 (i := 5) (v := ?k1xv5) rfl (by kernel_rfl) (by kernel_rfl) (by kernel_rfl) (by decide) (fun _ _ _ h => h) (Or.inl ⟨by rfl, ?k1xhy5⟩) hSS ?_
            case k1xhy5 => (intro wz hSw; (try dsimp only at hSw); go_simp; try (with_reducible rfl))
            refine wpAnyE_take0 (i := 6) (v := ?k1xv6) rfl (by kernel_rfl) (by kernel_rfl) (by kernel_rfl) (by decide) (fun _ _ _ h => h) (Or.inl ⟨by rfl, ?k1xhy6⟩) hSS ?_
            case k1xhy6 => (intro wz hSw; (try dsimp only at hSw); go_simp; try (with_reducible rfl))
            refine wpAnyE_one (i := 7) (by kernel_rfl) rfl (fun K hK => ?_)
            go_simp
            refine (ikeep_any _ _ _ _ _ _ _ _ _ (k : Int) _ _ _ B G y.x ts _ hB hG hIk HP.out hP (by omega) (by omega) hnk (by omega)).mono ?_
            rintro ee w4 ⟨rfl, b9⟩
            replace BB := BB.trans (b9.mono BB.size)
            replace hb0 := hb0.trans (b9.mono hb0.size)
            replace hB := hB.below b9
            replace hG := hG.below b9
            replace hP := hP.below b9
            replace hIk := hIk.below b9
            replace hPl := hPl.below b9
            replace q3 := q3.below b9
            clear b9
            clear hSS
            have hSS : (w4.cell? ⟨X3, 0, none⟩ = some (.slice ba bn bc) ∧ w4.cell? ⟨X3, 1, none⟩ = some (.slice ga gn gc) ∧ w4.cell? ⟨b', (o' + k), none⟩ = some (.slice y.a y.n y.cap)) ∧ True := ⟨⟨q3.cell 0, q3.cell 1, hPl⟩, trivial⟩
            (try dsimp only)
            refine hK.out _ _ ⟨hSS.1, fun _ => trivial⟩ ?_
            clear hK K
            refine wpAnyE_one (i := 8) (by kernel_rfl) rfl (fun K hK => ?_)
            go_simp
            refine hK.out _ _ ⟨hSS.1, fun _ => trivial⟩ ?_
            clear hK K
            refine wpAnyE_done (by kernel_rfl) ?_ _
            clear hSS
            go_wp2
            go_roundw
            case rel => exact ⟨k + 1, by omega, by go_num, by rw [HA.out], hb0⟩
            case measure => simp [intOf]; omega
  · go_enter Try.func6, Try.ntmps6
    go_wp2
    go_ret
    exact ⟨rfl, Below.refl _ _⟩

/-! ### The row's step -/
set_option maxRecDepth 100000 in
theorem lifted (os : Os) (started : os.Started) (H : Type) (enc : TypeId × Value → H) :
    ReturnsInHanded {} Try.checked os 6 .any (Rows.fnTrtAllSpec.pre6 enc Try.prog Try.f6 Rows.fnTrtAllRow.domain false) (Rows.fnTrtAllSpec.post enc Try.prog Try.f6 false true false false) := by
  refine returnsInHanded_of_change (C := Try.checked) own started (by kernel_rfl) Try.func6
    (ChangeSpec.witness6 (enc := enc) (C := Try.checked) false ⟨#[], #[.slice none 0 0], []⟩ 8 (by kernel_rfl) (by kernel_rfl) (by kernel_rfl) (by kernel_rfl)) ?_
  intro W base args ds gs before hval0 hW hcnd _
  have hval : ∀ (j : Nat) t v, Try.f6.params[j]? = some t → args[j]? = some v → Value.okWide Try.prog W .any base t v := hval0
  have hW' := hW
  obtain ⟨p, q, hA0, hV, rfl, hfz, hnd⟩ := hW
  have hA : DataW.TrodAll enc Try.prog W 0 (fun _ => true) true Try.f6.params.toList args.toList ds p := hA0
  rw [Try.params6] at hA hval
  obtain ⟨v0, vs0, d0, ds0, p0, q0, hargs, rfl, rfl, h0, r0⟩ := trodAll_cons hA
  obtain ⟨rfl, rfl, rfl⟩ := trodAll_nil r0
  obtain rfl : args = #[v0] := by cases args; simp_all
  obtain ⟨rfl, rfl⟩ := trodVars_none hV
  have k0 := h0
  have lt0 : ∀ x ∈ p0, x.block < W.heap.size := by obtain ⟨m, hm⟩ := k0; exact DataW.trod_lt m _ _ _ hm
  obtain ⟨a0, n0, cap0, C0, rfl, hC0, hn0⟩ := open_bytesT (hval 0 22 v0 rfl rfl) h0
  clear hA0 hval0
  refine (walk W a0 n0 cap0 C0 hC0 hn0).mono fun e W' ⟨he, bel⟩ => ?_
  subst he
  exact ⟨_, rfl, _, _, _, [], _, [], hW', trodAll_mk1 (shut_bool Try.underlying4 _), (trodAll_cons_mk (Below.trod laidOut (by kernel_rfl) (of_decide_eq_true (by kernel_rfl)) k0 bel lt0) trodAll_mk0), rfl, bel.frame _, fun h => by cases h⟩

theorem over : Rows.fnTrtAllRow.holds Try.pinned (OpenSpec.ofChange Rows.fnTrtAllSpec) :=
  OpenClaim.holds_of_wide 6 Try.f6 rfl rfl rfl rfl rfl rfl rfl ⟨rfl, rfl, rfl, rfl, rfl⟩ rfl rfl rfl rfl rfl (by kernel_rfl) Try.func6 (by kernel_rfl)
    (of_decide_eq_true (by kernel_rfl)) (by unfold Func.isWrapper; first | (rw [if_pos (by decide +kernel)]; kernel_rfl) | (rw [if_neg (by decide +kernel)]; exact ⟨rfl, rfl⟩))
    (fun os started H enc _ => lifted os started H enc)

end Go.Proofs.Ytpnldfembbfgdaa.fnTrtAll
namespace Go.Proofs.Ytpnldfembbfgdaa
/-- The statement. -/
theorem fnTrtAll_holds : Rows.FnTrtAllSaid := fnTrtAll.over
#print axioms fnTrtAll_holds
end Go.Proofs.Ytpnldfembbfgdaa
