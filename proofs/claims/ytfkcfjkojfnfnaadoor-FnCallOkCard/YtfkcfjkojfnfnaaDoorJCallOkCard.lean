/-
  For all bytes FnCallOk returns true, and what came in reads behind the call as it did. The library's tables that are listed are as its text lays them; no other condition. (a call is ok by its plan)
-/
import Derived.Test.YtfkcfjkojfnfnaaDoorDrCl
import Derived.Test.YtfkcfjkojfnfnaaDoorDrPa
import Derived.Test.YtfkcfjkojfnfnaaDoorJCallOkCardA
import Derived.Test.YtfkcfjkojfnfnaaDoorFvC
import Derived.Test.YtfkcfjkojfnfnaaDoorOpen
import Derived.Test.YtfkcfjkojfnfnaaDoorTie
import Derived.Test.YtfkcfjkojfnfnaaDoorCards
import Derived.Stop.LaidErr
import Derived.Lib.LaidTab
import Derived.LaidMore
import Derived.Lay
import Derived.SevenTiedAt
import Derived.Stop.Joined
namespace Go.Proofs.YtfkcfjkojfnfnaaDoor.fnCallOk
open Go.ChangeShapes Go.WideShapes Go.ChangeAt Go.RowKit
set_option linter.unusedVariables false
set_option maxRecDepth 100000

theorem open_bytesT {H : Type} {enc : TypeId × Value → H} {W : World} {r : Reach} {b0 : Nat} {v : Value} {d : DataW H} {p : List MemPlace}
    (hv : Value.okWide Tryd.prog W r b0 22 v) (h : DataW.Trod enc Tryd.prog W 0 (fun _ => true) true 22 v d p) : ∃ a n cap zs, v = .slice a n cap ∧ BInts W a n zs ∧ (n ≤ cap ∧ cap ≤ maxLen) := by
  obtain ⟨a0, len0, cap0, rfl⟩ := okWide_slice Tryd.underlying22 hv
  obtain ⟨fuel, hf⟩ := h
  rcases open_ints Tryd.underlying22 Tryd.underlying5 (by kernel_rfl) hf with ⟨hcs, _⟩ | ⟨x, l, c, zs, hcs, _, hl, hm, hz, _, hcell, hwz⟩
  · simp [Value.cells] at hcs
    obtain ⟨rfl, rfl, rfl⟩ := hcs
    exact ⟨none, 0, 0, [], rfl, ⟨rfl, fun i hi => by omega, fun i => by simp⟩, by omega, by unfold maxLen; omega⟩
  · simp [Value.cells] at hcs
    obtain ⟨rfl, rfl, rfl⟩ := hcs
    have hz' : zs.length = cap0 := by simpa using hz
    refine ⟨some x, len0, cap0, zs.take len0, rfl, ⟨by rw [List.length_take]; omega, fun i hi => ?_, fun i => ?_⟩, hl, hm⟩
    · obtain ⟨b, off, spot⟩ := x
      have hc0 := hcell 0 (by omega)
      have hspot : spot = none := by simpa [Addr.add] using World.cell?_spot hc0
      subst hspot
      refine ⟨b, off, rfl, ?_⟩
      have hc := hcell i (by omega)
      have : W.cell? ⟨b, off + i, none⟩ = some (.int .u8 (zs.getD i 0)) := by
        by_cases h0 : i = 0
        · subst h0; simpa [Addr.add] using hc
        · simpa [Addr.add, h0] using hc
      rw [this]
      simp [hi]
    · by_cases hi : i < (zs.take len0).length
      · rw [List.getElem?_eq_getElem hi]
        have := hwz _ (List.mem_of_mem_take (List.getElem_mem hi))
        simpa [Lit.wf, IntKind.min, IntKind.max, IntKind.signed, IntKind.bits] using this
      · rw [List.getElem?_eq_none (by omega)]
        simp

set_option maxHeartbeats 6400000 in
theorem dCallOk (a : Option Addr) (n cap : Nat) (bs : List Int) (w : World) (h : BInts w a n bs) (hn : n ≤ cap) (hn1 : n ≤ 1048576) (hc : cap ≤ maxLen) :
    Calls Tryd.prog 33 #[.slice a n cap] w fun e w' => ∃ cl ad N c ss ga gn gc G sa sn sc S x s k ua un uc U, e = .returned (.tuple #[.agg #[.int .i64 cl, .slice ad N c, .slice ga gn gc, .slice sa sn sc], clV x s k ua un uc]) ∧ Below w.heap.size w w' ∧ PlAt w' ad N ss ga gn G sa sn S ∧ Ints w' ua un U ∧ un ≤ 4 ∧ (-10 ≤ x ∧ x ≤ 10) ∧ (-10 ≤ k ∧ k ≤ 10) ∧ (-10 ≤ s ∧ s ≤ 1000) ∧ N ≤ 5 := by
  have q2 := (Cel.new w [.int .i64 0, .slice none 0 0, .slice none 0 0, .slice none 0 0] 55).alloc (.cells #[.int .i64 0, .int .i64 0, .int .i64 0, .slice none 0 0] 57)
  have q3 := Cel.new (w.alloc (.cells #[.int .i64 0, .slice none 0 0, .slice none 0 0, .slice none 0 0] 55)) [.int .i64 0, .int .i64 0, .int .i64 0, .slice none 0 0] 57
  rw [World.size_alloc] at q3
  have al := ((Below.refl w.heap.size w).alloc (Nat.le_refl _) (.cells #[.int .i64 0, .slice none 0 0, .slice none 0 0, .slice none 0 0] 55)).alloc (by rw [World.size_alloc]; omega) (.cells #[.int .i64 0, .int .i64 0, .int .i64 0, .slice none 0 0] 57)
  go_enter Tryd.func33, Tryd.ntmps33
  go_wp2_with fail
  refine (open_any _ _ _ bs _ (h.below al) hn hn1 hc).mono ?_
  rintro e w1 ⟨R, n', cap2, bs', rfl, b1, hR, r1⟩
  rw [World.size_alloc, World.size_alloc] at hR
  replace q2 := q2.below b1
  replace q3 := q3.below b1
  have hw := q3.lt
  have hRl := r1.c.lt
  go_wp2_with fail
  refine (anyplan_f R a n' cap2 bs' 0 16 _ r1 (by omega) (by omega) (by omega) (by omega) r1.ha).mono ?_
  rintro e w2 ⟨cl, ad, N, c, ss, ga, gn, gc, G, sa, sn, sc, S, q, rfl, T, rd, PF, y0, y1⟩
  replace q2 := q2.touch T (by omega)
  replace q3 := q3.touch T (by omega)
  have hT := T.size
  have al2 := (Below.refl w2.heap.size w2).alloc (Nat.le_refl _) (.cells #[.int .i64 cl, .slice ad N c, .slice ga gn gc, .slice sa sn sc] 55)
  have q5 := Cel.new w2 [.int .i64 cl, .slice ad N c, .slice ga gn gc, .slice sa sn sc] 55
  clear r1
  go_upto_region 3 with fail
  obtain ⟨W3, hW3⟩ : ∃ W, W = w2.alloc (.cells #[.int .i64 cl, .slice ad N c, .slice ga gn gc, .slice sa sn sc] 55) := ⟨_, rfl⟩
  obtain ⟨P5, hP5⟩ : ∃ x, x = w2.heap.size := ⟨_, rfl⟩
  replace q2 := q2.below al2
  replace q3 := q3.below al2
  replace rd := rd.below al2
  replace PF := PF.touch (Touch.of (S := fun x => x = R) al2) (fun k hk => by omega)
  replace T := T.trans (Touch.of al2)
  have hP5b : w.heap.size + 2 ≤ P5 := by omega
  have hRP : R < P5 := by omega
  rw [← hP5, ← hW3]
  rw [← hW3] at q2 q3 q5 rd PF T
  rw [← hP5] at q5
  clear hW3 al2 hP5
  refine wp_region_ends (fun X => X.cell? ⟨P5, 0, none⟩ = some (.int .i64 cl) ∧ X.cell? ⟨P5, 1, none⟩ = some (.slice ad N c) ∧ X.cell? ⟨P5, 2, none⟩ = some (.slice ga gn gc) ∧ X.cell? ⟨P5, 3, none⟩ = some (.slice sa sn sc)) (fun _ => True) 5 (by kernel_rfl) ?_
  have dr : Below W3.heap.size W3 W3.drew := (Below.refl _ _).drew
  replace q2 := q2.below dr
  replace q3 := q3.below dr
  replace q5 := q5.below dr
  replace rd := rd.below dr
  replace PF := PF.touch (Touch.of (S := fun x => x = R) dr) (fun k hk => by omega)
  replace T := T.trans (Touch.of dr)
  clear dr
  obtain ⟨V, hV⟩ : ∃ V, V = W3.drew := ⟨_, rfl⟩
  rw [← hV]
  rw [← hV] at q2 q3 q5 rd PF T
  clear hV
  have hSS : (fun X : World => X.cell? ⟨P5, 0, none⟩ = some (.int .i64 cl) ∧ X.cell? ⟨P5, 1, none⟩ = some (.slice ad N c) ∧ X.cell? ⟨P5, 2, none⟩ = some (.slice ga gn gc) ∧ X.cell? ⟨P5, 3, none⟩ = some (.slice sa sn sc)) V ∧ True := ⟨⟨q5.cell 0, q5.cell 1, q5.cell 2, q5.cell 3⟩, trivial⟩
  refine tkL (i := 0) rfl hSS ?_
  refine tkL (i := 1) rfl hSS ?_
  refine tkL (i := 2) rfl hSS ?_
  clear hSS
  have l2 := q2.lt
  have l3 := q3.lt
  have l5 := q5.lt
  have n5 := PF.n5
  refine wpAnyE_one (i := 3) (by kernel_rfl) rfl (fun Kn hK => ?_)
  go_simp
  refine (call_f R a n' cap2 bs' q 2 cl ad N c (.slice ga gn gc) (.slice sa sn sc) _ rd (by omega) (by omega) (by omega) (by omega) (by omega) ⟨_, _, _, rfl⟩ ⟨_, _, _, rfl⟩ rd.ha).mono ?_
  rintro e w4 ⟨x, s, k, ua, un, uc, U, q4, rfl, d4⟩
  have u4 := d4.u4
  have lo := d4.lo
  have iu := d4.i
  have bx := d4.bx
  have bk := d4.bk
  have bs1 := d4.bs'
  replace q2 := q2.touch d4.t (by omega)
  replace q3 := q3.touch d4.t (by omega)
  replace q5 := q5.touch d4.t (by omega)
  replace PF := PF.touch d4.t (fun k hk => by omega)
  replace T := T.trans d4.t
  have l4 := T.size
  clear d4 rd
  dsimp only
  refine hK.out _ _ ⟨⟨q5.cell 0, q5.cell 1, q5.cell 2, q5.cell 3⟩, fun _ => trivial⟩ ?_
  clear hK
  have BB : Below w.heap.size w w4 := (al.trans (b1.mono al.size)).trans (T.below (by omega) (fun k hk => by omega))
  clear T b1 al
  have g0 := q2.cell 0
  have g1 := q2.cell 1
  have g2 := q2.cell 2
  have g3 := q2.cell 3
  have f0 := q2.free 0
  have f1 := q2.free 1
  have f2 := q2.free 2
  have f3 := q2.free 3
  have ll := q2.lt
  simp only [List.getElem?_cons_zero, List.getElem?_cons_succ] at g0 g1 g2 g3
  refine wpAnyE_one (i := 4) (by kernel_rfl) rfl (fun Kn hK => ?_)
  go_simp
  clear g0 g1 g2 g3 f0 f1 f2 f3 ll
  have TS : Touch (fun k => k = w.heap.size) w4 ((((w4.setCell ⟨w.heap.size, 0, none⟩ (.int .i64 cl)).setCell ⟨w.heap.size, 1, none⟩ (.slice ad N c)).setCell ⟨w.heap.size, 2, none⟩ (.slice ga gn gc)).setCell ⟨w.heap.size, 3, none⟩ (.slice sa sn sc)) := Touch.setCell (S := fun k => k = w.heap.size) (Touch.setCell (S := fun k => k = w.heap.size) (Touch.setCell (S := fun k => k = w.heap.size) (Touch.setCell (S := fun k => k = w.heap.size) (Touch.refl _ _) rfl _) rfl _) rfl _) rfl _
  replace q2 := (((q2.set 0 (.int .i64 cl)).set 1 (.slice ad N c)).set 2 (.slice ga gn gc)).set 3 (.slice sa sn sc)
  simp only [List.set_cons_succ, List.set_cons_zero] at q2
  replace q3 := q3.touch TS (by omega)
  replace q5 := q5.touch TS (by omega)
  replace PF := PF.touch TS (fun k hk => by omega)
  replace iu := iu.off TS (fun b o e hs => by have := lo b o e; omega)
  replace BB := (((BB.setCell (p := ⟨w.heap.size, 0, none⟩) (Nat.le_refl _) (.int .i64 cl)).setCell (p := ⟨w.heap.size, 1, none⟩) (Nat.le_refl _) (.slice ad N c)).setCell (p := ⟨w.heap.size, 2, none⟩) (Nat.le_refl _) (.slice ga gn gc)).setCell (p := ⟨w.heap.size, 3, none⟩) (Nat.le_refl _) (.slice sa sn sc)
  have l6 := TS.size
  obtain ⟨w5, hw5⟩ : ∃ W, W = ((((w4.setCell ⟨w.heap.size, 0, none⟩ (.int .i64 cl)).setCell ⟨w.heap.size, 1, none⟩ (.slice ad N c)).setCell ⟨w.heap.size, 2, none⟩ (.slice ga gn gc)).setCell ⟨w.heap.size, 3, none⟩ (.slice sa sn sc)) := ⟨_, rfl⟩
  rw [← hw5]
  rw [← hw5] at q2 q3 q5 PF iu BB l6
  clear hw5 TS
  refine hK.out _ _ ⟨⟨q5.cell 0, q5.cell 1, q5.cell 2, q5.cell 3⟩, fun _ => trivial⟩ ?_
  clear hK
  have g0 := q3.cell 0
  have g1 := q3.cell 1
  have g2 := q3.cell 2
  have g3 := q3.cell 3
  have f0 := q3.free 0
  have f1 := q3.free 1
  have f2 := q3.free 2
  have f3 := q3.free 3
  have ll := q3.lt
  simp only [List.getElem?_cons_zero, List.getElem?_cons_succ] at g0 g1 g2 g3
  refine wpAnyE_one (i := 5) (by kernel_rfl) rfl (fun Kn hK => ?_)
  go_simp
  clear g0 g1 g2 g3 f0 f1 f2 f3 ll
  have TS : Touch (fun k => k = w.heap.size + 1) w5 ((((w5.setCell ⟨w.heap.size + 1, 0, none⟩ (.int .i64 x)).setCell ⟨w.heap.size + 1, 1, none⟩ (.int .i64 s)).setCell ⟨w.heap.size + 1, 2, none⟩ (.int .i64 k)).setCell ⟨w.heap.size + 1, 3, none⟩ (.slice ua un uc)) := Touch.setCell (S := fun k => k = w.heap.size + 1) (Touch.setCell (S := fun k => k = w.heap.size + 1) (Touch.setCell (S := fun k => k = w.heap.size + 1) (Touch.setCell (S := fun k => k = w.heap.size + 1) (Touch.refl _ _) rfl _) rfl _) rfl _) rfl _
  replace q3 := (((q3.set 0 (.int .i64 x)).set 1 (.int .i64 s)).set 2 (.int .i64 k)).set 3 (.slice ua un uc)
  simp only [List.set_cons_succ, List.set_cons_zero] at q3
  replace q2 := q2.touch TS (by omega)
  replace q5 := q5.touch TS (by omega)
  replace PF := PF.touch TS (fun k hk => by omega)
  replace iu := iu.off TS (fun b o e hs => by have := lo b o e; omega)
  replace BB := (((BB.setCell (p := ⟨w.heap.size + 1, 0, none⟩) (by simp only []; omega) (.int .i64 x)).setCell (p := ⟨w.heap.size + 1, 1, none⟩) (by simp only []; omega) (.int .i64 s)).setCell (p := ⟨w.heap.size + 1, 2, none⟩) (by simp only []; omega) (.int .i64 k)).setCell (p := ⟨w.heap.size + 1, 3, none⟩) (by simp only []; omega) (.slice ua un uc)
  obtain ⟨w6, hw6⟩ : ∃ W, W = ((((w5.setCell ⟨w.heap.size + 1, 0, none⟩ (.int .i64 x)).setCell ⟨w.heap.size + 1, 1, none⟩ (.int .i64 s)).setCell ⟨w.heap.size + 1, 2, none⟩ (.int .i64 k)).setCell ⟨w.heap.size + 1, 3, none⟩ (.slice ua un uc)) := ⟨_, rfl⟩
  rw [← hw6]
  rw [← hw6] at q2 q3 q5 PF iu BB
  clear hw6 TS
  refine hK.out _ _ ⟨⟨q5.cell 0, q5.cell 1, q5.cell 2, q5.cell 3⟩, fun _ => trivial⟩ ?_
  clear hK
  refine wpAnyE_done (by kernel_rfl) ?_ _
  have e0 := q2.cell 0
  have e1 := q2.cell 1
  have e2 := q2.cell 2
  have e3 := q2.cell 3
  have e4 := q3.cell 0
  have e5 := q3.cell 1
  have e6 := q3.cell 2
  have e7 := q3.cell 3
  simp only [List.getElem?_cons_zero, List.getElem?_cons_succ] at e0 e1 e2 e3 e4 e5 e6 e7
  clear q2 q3 q5
  go_wp2
  exact bodyPost_ret (v := .tuple #[.agg #[.int .i64 cl, .slice ad N c, .slice ga gn gc, .slice sa sn sc], clV x s k ua un uc]) (by simp [results, Tryd.results33, go_sem, e0, e1, e2, e3, e4, e5, e6, e7]) rfl ⟨cl, ad, N, c, ss, ga, gn, gc, G, sa, sn, sc, S, x, s, k, ua, un, uc, U, rfl, BB, PF.at, iu, u4, bx, bk, bs1, n5⟩
def fullC (l : List UInt8) : Bool := !(⟨l.toArray⟩ : ByteArray).toList.isEmpty
theorem call_full {x s k : Int} {n : Nat} {U : List Int} : fullC (callText x s k n U) = callOkB x s k n U := by
  cases h : callOkB x s k n U
  · rw [callText_no h]; simp [fullC, ByteArray.toList_mk]
  · rw [callText_yes h, callL, wClient]; simp [fullC, ByteArray.toList_mk]
theorem callok_has {cl : Int} {N : Nat} {ss : List L2V} {gn : Nat} {G : List Int} {sn : Nat} {S : List Int} {x s k : Int} {n : Nat} {U : List Int} (h : plnB cl N ss gn G sn S = true) (hx : 0 ≤ x ∧ x < cl) (hk : 0 ≤ k ∧ k < (N : Int)) : inCallB cl N x s k n U = callOkB x s k n U := by
  have hN := pln_acts h
  have hc := (pln_parts h).1
  have a1 : inB x 0 (cl - 1) = true := inB_iff.2 (by omega)
  have a2 : inB x 0 3 = true := inB_iff.2 (by omega)
  have a3 : inB k 0 ((N : Int) - 1) = true := inB_iff.2 (by omega)
  have a4 : inB k 0 3 = true := inB_iff.2 (by omega)
  simp only [inCallB, callOkB, a1, a2, a3, a4]
theorem callok_no {cl : Int} {N : Nat} {x s k : Int} {n : Nat} {U : List Int} (h : ¬ (0 ≤ x ∧ x < cl ∧ 0 ≤ k ∧ k < (N : Int))) : inCallB cl N x s k n U = false := by
  cases e : inCallB cl N x s k n U
  · rfl
  · exfalso
    simp only [inCallB, Bool.and_eq_true] at e
    have a1 := inB_iff.1 e.1
    have a3 := inB_iff.1 e.2.2.1
    omega

set_option maxHeartbeats 6400000 in
theorem walk (w : World) (a : Option Addr) (n cap : Nat) (A0 : List Int) (hA0 : BInts w a n A0) (hn : n ≤ cap ∧ cap ≤ maxLen) (hT : Lib.TabBelow Tryd.prog w.heap.size w "internal/strconv.uint64pow10" .u64 Lib.pow10Tab) :
    Calls Tryd.prog 6 #[.slice a n cap] w fun e w' => e = .returned (.bool true) ∧ Below w.heap.size w w' := by
  obtain ⟨hn2, hn3⟩ := hn
  by_cases hn1 : n ≤ 1048576
  · have HTB : Hid _ := hT
    clear hT
    go_enter Tryd.func6, Tryd.ntmps6
    go_wp2_with fail
    refine (dCallOk _ _ _ A0 _ hA0 hn2 hn1 hn3).mono ?_
    rintro ee w1 ⟨cl, ad, N, c, ss, ga, gn, gc, G, sa, sn, sc, S, x, s, k, ua, un, uc, U, rfl, b1, hP, hU, hu4, bx, bk, bs1, hN5⟩
    have BB := b1
    clear b1
    obtain ⟨OK, hOK⟩ : ∃ b, plnB cl N ss gn G sn S = b := ⟨_, rfl⟩
    have HOK : Hid (plnB cl N ss gn G sn S = OK) := hOK
    clear hOK
    obtain ⟨IC, hIC⟩ : ∃ b, inCallB cl N x s k un U = b := ⟨_, rfl⟩
    have HIC : Hid (inCallB cl N x s k un U = IC) := hIC
    clear hIC
    have al := (Below.refl (w1).heap.size (w1)).alloc (Nat.le_refl _) (.cells #[.int .i64 cl, .slice ad N c, .slice ga gn gc, .slice sa sn sc] 55)
    replace BB := BB.trans (al.mono BB.size)
    replace hP := hP.below al
    replace hU := hU.below al
    clear al
    have q3 := Cel.new (w1) [.int .i64 cl, .slice ad N c, .slice ga gn gc, .slice sa sn sc] 55
    have al := (Below.refl ((w1).alloc (.cells #[.int .i64 cl, .slice ad N c, .slice ga gn gc, .slice sa sn sc] 55)).heap.size ((w1).alloc (.cells #[.int .i64 cl, .slice ad N c, .slice ga gn gc, .slice sa sn sc] 55))).alloc (Nat.le_refl _) (.cells #[.int .i64 x, .int .i64 s, .int .i64 k, .slice ua un uc] 57)
    replace BB := BB.trans (al.mono BB.size)
    replace hP := hP.below al
    replace hU := hU.below al
    replace q3 := q3.below al
    clear al
    have q4 := Cel.new ((w1).alloc (.cells #[.int .i64 cl, .slice ad N c, .slice ga gn gc, .slice sa sn sc] 55)) [.int .i64 x, .int .i64 s, .int .i64 k, .slice ua un uc] 57
    simp only [World.size_alloc] at q4
    have g3_0 := q3.cell 0
    have g3_1 := q3.cell 1
    have g3_2 := q3.cell 2
    have g3_3 := q3.cell 3
    have g4_0 := q4.cell 0
    have g4_1 := q4.cell 1
    have g4_2 := q4.cell 2
    have g4_3 := q4.cell 3
    simp only [List.getElem?_cons_zero, List.getElem?_cons_succ] at g3_0 g3_1 g3_2 g3_3 g4_0 g4_1 g4_2 g4_3
    go_wp2_with fail
    obtain ⟨W2, hW2⟩ : ∃ W, W = ((w1).alloc (.cells #[.int .i64 cl, .slice ad N c, .slice ga gn gc, .slice sa sn sc] 55)).alloc (.cells #[.int .i64 x, .int .i64 s, .int .i64 k, .slice ua un uc] 57) := ⟨_, rfl⟩
    rw [← hW2]
    rw [← hW2] at hP hU q3 q4 BB g3_0 g3_1 g3_2 g3_3 g4_0 g4_1 g4_2 g4_3
    clear hW2
    obtain ⟨X4, hX4⟩ : ∃ x, x = w1.heap.size + 1 := ⟨_, rfl⟩
    rw [← hX4]
    rw [← hX4] at q4 g4_0 g4_1 g4_2 g4_3
    clear hX4
    obtain ⟨X3, hX3⟩ : ∃ x, x = w1.heap.size := ⟨_, rfl⟩
    rw [← hX3]
    rw [← hX3] at q3 g3_0 g3_1 g3_2 g3_3
    clear hX3
    refine (icallok_any cl ad N c ss ga gn gc G sa sn sc S x s k ua un uc U _ hP hU (by omega) (fun X hX => HTB.out X (BB.trans (hX.mono BB.size)))).mono ?_
    rintro ee w3 ⟨rfl, b2⟩
    rw [HOK.out, HIC.out]
    clear g3_0 g3_1 g3_2 g3_3 g4_0 g4_1 g4_2 g4_3
    replace BB := BB.trans (b2.mono BB.size)
    replace hP := hP.below b2
    replace hU := hU.below b2
    replace q3 := q3.below b2
    replace q4 := q4.below b2
    clear b2
    have g3_0 := q3.cell 0
    have g3_1 := q3.cell 1
    have g3_2 := q3.cell 2
    have g3_3 := q3.cell 3
    have g4_0 := q4.cell 0
    have g4_1 := q4.cell 1
    have g4_2 := q4.cell 2
    have g4_3 := q4.cell 3
    simp only [List.getElem?_cons_zero, List.getElem?_cons_succ] at g3_0 g3_1 g3_2 g3_3 g4_0 g4_1 g4_2 g4_3
    go_wp2_with fail
    refine (scallok_any cl ad N c ss ga gn gc G sa sn sc S x s k ua un uc U _ hP hU (by omega)).mono ?_
    rintro ee w4 ⟨rfl, b3⟩
    rw [HOK.out, HIC.out]
    clear g3_0 g3_1 g3_2 g3_3 g4_0 g4_1 g4_2 g4_3
    replace BB := BB.trans (b3.mono BB.size)
    replace hP := hP.below b3
    replace hU := hU.below b3
    replace q3 := q3.below b3
    replace q4 := q4.below b3
    clear b3
    have hne : ((OK && IC) != (OK && IC)) = false := by simp
    have g3_0 := q3.cell 0
    have g3_1 := q3.cell 1
    have g3_2 := q3.cell 2
    have g3_3 := q3.cell 3
    have g4_0 := q4.cell 0
    have g4_1 := q4.cell 1
    have g4_2 := q4.cell 2
    have g4_3 := q4.cell 3
    simp only [List.getElem?_cons_zero, List.getElem?_cons_succ] at g3_0 g3_1 g3_2 g3_3 g4_0 g4_1 g4_2 g4_3
    go_wp2_with fail
    refine (iplnok_any cl ad N c ss ga gn gc G sa sn sc S _ hP).mono ?_
    rintro ee w5 ⟨rfl, b4⟩
    rw [HOK.out]
    clear g3_0 g3_1 g3_2 g3_3 g4_0 g4_1 g4_2 g4_3
    replace BB := BB.trans (b4.mono BB.size)
    replace hP := hP.below b4
    replace hU := hU.below b4
    replace q3 := q3.below b4
    replace q4 := q4.below b4
    clear b4
    cases OK
    · clear hne
      have g3_0 := q3.cell 0
      have g3_1 := q3.cell 1
      have g3_2 := q3.cell 2
      have g3_3 := q3.cell 3
      have g4_0 := q4.cell 0
      have g4_1 := q4.cell 1
      have g4_2 := q4.cell 2
      have g4_3 := q4.cell 3
      simp only [List.getElem?_cons_zero, List.getElem?_cons_succ] at g3_0 g3_1 g3_2 g3_3 g4_0 g4_1 g4_2 g4_3
      go_wp2_with fail
      refine (coHolds_any _).mono ?_
      rintro ee w6 ⟨rfl, bh⟩
      clear g3_0 g3_1 g3_2 g3_3 g4_0 g4_1 g4_2 g4_3
      replace BB := BB.trans (bh.mono BB.size)
      replace hP := hP.below bh
      replace hU := hU.below bh
      replace q3 := q3.below bh
      replace q4 := q4.below bh
      clear bh
      go_wp2
      go_ret
      exact ⟨rfl, BB⟩
    · clear hne
      by_cases h1 : 0 ≤ x
      · by_cases h2 : x < cl
        · by_cases h3 : 0 ≤ k
          · by_cases h4 : k < (N : Int)
            · have HF : Hid (fullC (callText x s k un U) = IC) := by (show _ = _; rw [call_full, ← HIC.out]; exact (callok_has HOK.out ⟨h1, h2⟩ ⟨h3, h4⟩).symm)
              clear HIC
              have g3_0 := q3.cell 0
              have g3_1 := q3.cell 1
              have g3_2 := q3.cell 2
              have g3_3 := q3.cell 3
              have g4_0 := q4.cell 0
              have g4_1 := q4.cell 1
              have g4_2 := q4.cell 2
              have g4_3 := q4.cell 3
              simp only [List.getElem?_cons_zero, List.getElem?_cons_succ] at g3_0 g3_1 g3_2 g3_3 g4_0 g4_1 g4_2 g4_3
              go_wp2_with fail
              refine (ictext_any x s k ua un uc U _ hU (by omega) (fun X hX => HTB.out X (BB.trans (hX.mono BB.size)))).mono ?_
              rintro ee w6 ⟨rfl, b5⟩
              clear g3_0 g3_1 g3_2 g3_3 g4_0 g4_1 g4_2 g4_3
              replace BB := BB.trans (b5.mono BB.size)
              replace hP := hP.below b5
              replace hU := hU.below b5
              replace q3 := q3.below b5
              replace q4 := q4.below b5
              clear b5
              obtain ⟨TX, hTX⟩ : ∃ T : ByteArray, (⟨(callText x s k un U).toArray⟩ : ByteArray) = T := ⟨_, rfl⟩
              rw [hTX]
              have HTX : Hid (TX.toList.isEmpty = !IC) := by (show _ = _; rw [← HF.out, fullC, hTX]; simp)
              clear hTX HF
              cases IC
              · have hE : TX.toList.isEmpty = true := HTX.out
                clear HTX
                have g3_0 := q3.cell 0
                have g3_1 := q3.cell 1
                have g3_2 := q3.cell 2
                have g3_3 := q3.cell 3
                have g4_0 := q4.cell 0
                have g4_1 := q4.cell 1
                have g4_2 := q4.cell 2
                have g4_3 := q4.cell 3
                simp only [List.getElem?_cons_zero, List.getElem?_cons_succ] at g3_0 g3_1 g3_2 g3_3 g4_0 g4_1 g4_2 g4_3
                go_wp2_with fail
                refine (coHolds_any _).mono ?_
                rintro ee w7 ⟨rfl, bh⟩
                clear g3_0 g3_1 g3_2 g3_3 g4_0 g4_1 g4_2 g4_3
                replace BB := BB.trans (bh.mono BB.size)
                replace hP := hP.below bh
                replace hU := hU.below bh
                replace q3 := q3.below bh
                replace q4 := q4.below bh
                clear bh
                go_wp2
                go_ret
                exact ⟨rfl, BB⟩
              · have hE : TX.toList.isEmpty = false := HTX.out
                clear HTX
                have g3_0 := q3.cell 0
                have g3_1 := q3.cell 1
                have g3_2 := q3.cell 2
                have g3_3 := q3.cell 3
                have g4_0 := q4.cell 0
                have g4_1 := q4.cell 1
                have g4_2 := q4.cell 2
                have g4_3 := q4.cell 3
                simp only [List.getElem?_cons_zero, List.getElem?_cons_succ] at g3_0 g3_1 g3_2 g3_3 g4_0 g4_1 g4_2 g4_3
                go_wp2_with fail
                refine (coHolds_any _).mono ?_
                rintro ee w7 ⟨rfl, bh⟩
                clear g3_0 g3_1 g3_2 g3_3 g4_0 g4_1 g4_2 g4_3
                replace BB := BB.trans (bh.mono BB.size)
                replace hP := hP.below bh
                replace hU := hU.below bh
                replace q3 := q3.below bh
                replace q4 := q4.below bh
                clear bh
                go_wp2
                go_ret
                exact ⟨rfl, BB⟩
            · obtain rfl : IC = false := by rw [← HIC.out]; exact callok_no (by omega)
              clear HIC
              have g3_0 := q3.cell 0
              have g3_1 := q3.cell 1
              have g3_2 := q3.cell 2
              have g3_3 := q3.cell 3
              have g4_0 := q4.cell 0
              have g4_1 := q4.cell 1
              have g4_2 := q4.cell 2
              have g4_3 := q4.cell 3
              simp only [List.getElem?_cons_zero, List.getElem?_cons_succ] at g3_0 g3_1 g3_2 g3_3 g4_0 g4_1 g4_2 g4_3
              go_wp2_with fail
              refine (coHolds_any _).mono ?_
              rintro ee w6 ⟨rfl, bh⟩
              clear g3_0 g3_1 g3_2 g3_3 g4_0 g4_1 g4_2 g4_3
              replace BB := BB.trans (bh.mono BB.size)
              replace hP := hP.below bh
              replace hU := hU.below bh
              replace q3 := q3.below bh
              replace q4 := q4.below bh
              clear bh
              go_wp2
              go_ret
              exact ⟨rfl, BB⟩
          · obtain rfl : IC = false := by rw [← HIC.out]; exact callok_no (by omega)
            clear HIC
            have g3_0 := q3.cell 0
            have g3_1 := q3.cell 1
            have g3_2 := q3.cell 2
            have g3_3 := q3.cell 3
            have g4_0 := q4.cell 0
            have g4_1 := q4.cell 1
            have g4_2 := q4.cell 2
            have g4_3 := q4.cell 3
            simp only [List.getElem?_cons_zero, List.getElem?_cons_succ] at g3_0 g3_1 g3_2 g3_3 g4_0 g4_1 g4_2 g4_3
            go_wp2_with fail
            refine (coHolds_any _).mono ?_
            rintro ee w6 ⟨rfl, bh⟩
            clear g3_0 g3_1 g3_2 g3_3 g4_0 g4_1 g4_2 g4_3
            replace BB := BB.trans (bh.mono BB.size)
            replace hP := hP.below bh
            replace hU := hU.below bh
            replace q3 := q3.below bh
            replace q4 := q4.below bh
            clear bh
            go_wp2
            go_ret
            exact ⟨rfl, BB⟩
        · obtain rfl : IC = false := by rw [← HIC.out]; exact callok_no (by omega)
          clear HIC
          have g3_0 := q3.cell 0
          have g3_1 := q3.cell 1
          have g3_2 := q3.cell 2
          have g3_3 := q3.cell 3
          have g4_0 := q4.cell 0
          have g4_1 := q4.cell 1
          have g4_2 := q4.cell 2
          have g4_3 := q4.cell 3
          simp only [List.getElem?_cons_zero, List.getElem?_cons_succ] at g3_0 g3_1 g3_2 g3_3 g4_0 g4_1 g4_2 g4_3
          go_wp2_with fail
          refine (coHolds_any _).mono ?_
          rintro ee w6 ⟨rfl, bh⟩
          clear g3_0 g3_1 g3_2 g3_3 g4_0 g4_1 g4_2 g4_3
          replace BB := BB.trans (bh.mono BB.size)
          replace hP := hP.below bh
          replace hU := hU.below bh
          replace q3 := q3.below bh
          replace q4 := q4.below bh
          clear bh
          go_wp2
          go_ret
          exact ⟨rfl, BB⟩
      · obtain rfl : IC = false := by rw [← HIC.out]; exact callok_no (by omega)
        clear HIC
        have g3_0 := q3.cell 0
        have g3_1 := q3.cell 1
        have g3_2 := q3.cell 2
        have g3_3 := q3.cell 3
        have g4_0 := q4.cell 0
        have g4_1 := q4.cell 1
        have g4_2 := q4.cell 2
        have g4_3 := q4.cell 3
        simp only [List.getElem?_cons_zero, List.getElem?_cons_succ] at g3_0 g3_1 g3_2 g3_3 g4_0 g4_1 g4_2 g4_3
        go_wp2_with fail
        refine (coHolds_any _).mono ?_
        rintro ee w6 ⟨rfl, bh⟩
        clear g3_0 g3_1 g3_2 g3_3 g4_0 g4_1 g4_2 g4_3
        replace BB := BB.trans (bh.mono BB.size)
        replace hP := hP.below bh
        replace hU := hU.below bh
        replace q3 := q3.below bh
        replace q4 := q4.below bh
        clear bh
        go_wp2
        go_ret
        exact ⟨rfl, BB⟩
  · go_enter Tryd.func6, Tryd.ntmps6
    go_wp2
    go_ret
    exact ⟨rfl, Below.refl _ _⟩

/-! ### The row's step -/
theorem tab_of {W : World} (h : laidMetH Tryd.prog Rows.fnCallOkRow.laid W) : Lib.TabIs Tryd.prog W "internal/strconv.uint64pow10" .u64 Lib.pow10Tab := by
  rw [MakeChecks.laidMetH_plain _ _ _ (by kernel_rfl)] at h
  have h2 : laidMet Tryd.prog [("internal/strconv.uint64pow10", Lib.tabData .u64 Lib.pow10Tab)] W := h.tail.tail
  exact Lib.tabIs_of_head (g := 3) (t := 184) (e := 171) (n := 20) (by kernel_rfl) (by kernel_rfl) Tryd.underlying184 Tryd.underlying171 (by kernel_rfl) (by kernel_rfl) h2

set_option maxRecDepth 100000 in
theorem lifted (os : Os) (started : os.Started) (H : Type) (enc : TypeId × Value → H) :
    ReturnsInHanded {} Tryd.checked os 6 .any (fun w args => (Rows.fnCallOkSpec.pre enc Tryd.prog Tryd.f6 Rows.fnCallOkRow.domain false w args ∧ laidMetH Tryd.prog Rows.fnCallOkRow.laid w) ∧ sizedMet enc Tryd.prog Tryd.f6 (OpenSpec.ofChange Rows.fnCallOkSpec) false w args) (Rows.fnCallOkSpec.post enc Tryd.prog Tryd.f6 false true false false) := by
  refine returnsInHanded_of_change_and (C := Tryd.checked) (X := fun w _ => laidMetH Tryd.prog Rows.fnCallOkRow.laid w) (fun _ _ _ hh h => h.of_heap hh) own started (by kernel_rfl) Tryd.func6
    (ChangeSpec.witness_shaped (enc := enc) (C := Tryd.checked) (os := os) (X := fun w _ => laidMetH Tryd.prog Rows.fnCallOkRow.laid w) false (World.laidAll Tryd.prog os Rows.fnCallOkRow.laid) #[.slice none 0 0] 8 (World.laidAll_os _ _ _)
      (World.shaped_of_ZipB (by kernel_rfl) (by kernel_rfl)) (by kernel_rfl) (by kernel_rfl) (by kernel_rfl)
      (by rw [MakeChecks.laidMetH_plain _ _ _ (by kernel_rfl)]; exact laidMet_laidAll _ (by kernel_rfl) (by kernel_rfl))) ?_
  intro W base args ds gs before hval0 hW hcnd _ hL _
  have hval : ∀ (j : Nat) t v, Tryd.f6.params[j]? = some t → args[j]? = some v → Value.okWide Tryd.prog W .any base t v := hval0
  have hW' := hW
  obtain ⟨p, q, hA0, hV, rfl, hfz, hnd⟩ := hW
  have hA : DataW.TrodAll enc Tryd.prog W 0 (fun _ => true) true Tryd.f6.params.toList args.toList ds p := hA0
  rw [Tryd.params6] at hA hval
  obtain ⟨v0, vs0, d0, ds0, p0, q0, hargs, rfl, rfl, h0, r0⟩ := trodAll_cons hA
  obtain ⟨rfl, rfl, rfl⟩ := trodAll_nil r0
  obtain rfl : args = #[v0] := by cases args; simp_all
  obtain ⟨rfl, rfl⟩ := trodVars_none hV
  have k0 := h0
  have lt0 : ∀ x ∈ p0, x.block < W.heap.size := by obtain ⟨m, hm⟩ := k0; exact DataW.trod_lt m _ _ _ hm
  obtain ⟨a0, n0, cap0, C0, rfl, hC0, hn0⟩ := open_bytesT (hval 0 22 v0 rfl rfl) h0
  clear hA0 hval0
  refine (walk W a0 n0 cap0 C0 hC0 hn0 (Lib.tabBelow_of_tabIs (tab_of hL))).mono fun e W' ⟨he, bel⟩ => ?_
  subst he
  exact ⟨_, rfl, _, _, _, [], _, [], hW', trodAll_mk1 (shut_bool Tryd.underlying4 _), (trodAll_cons_mk (Below.trod laidOut (by kernel_rfl) (of_decide_eq_true (by kernel_rfl)) k0 bel lt0) trodAll_mk0), rfl, bel.frame _, fun h => by cases h⟩

theorem over : Rows.fnCallOkRow.holds Tryd.pinned (OpenSpec.ofChange Rows.fnCallOkSpec) :=
  OpenClaim.holds_of_wide 6 Tryd.f6 rfl rfl rfl rfl rfl rfl rfl ⟨rfl, rfl, rfl, rfl, rfl⟩ rfl rfl rfl rfl rfl (by kernel_rfl) Tryd.func6 (by kernel_rfl)
    (of_decide_eq_true (by kernel_rfl)) (by unfold Func.isWrapper; first | (rw [if_pos (by decide +kernel)]; kernel_rfl) | (rw [if_neg (by decide +kernel)]; exact ⟨rfl, rfl⟩))
    (fun os started H enc _ => lifted os started H enc)

end Go.Proofs.YtfkcfjkojfnfnaaDoor.fnCallOk
namespace Go.Proofs.YtfkcfjkojfnfnaaDoor
/-- The statement. -/
theorem fnCallOk_holds : Rows.FnCallOkCardSaid :=
  Claim7.holds_tied_plain_at .later [] [.data, .data, .data] true Rows.fnCallOkCard.stood.harness Rows.fnCallOkCard.stood.looks fnCallOk.over (fun _ h => by cases h) (by kernel_rfl) (fun _ h => by cases h) fnCallOk_row_tie rfl ⟨rfl, rfl⟩ (by kernel_rfl) rfl
    (fun f fn hf hfn => by
      obtain rfl : f = 6 := Option.some.inj ((show Tryd.prog.funcNamed Rows.fnCallOkRow.func = some 6 by kernel_rfl).symm.trans hf) |>.symm
      obtain rfl : fn = Tryd.f6 := (Option.some.inj (Tryd.func6.symm.trans hfn)).symm
      exact ⟨by kernel_rfl, fun j t ht => by
        rw [Tryd.params6] at ht
        have hm : t ∈ [22] := by simpa using Array.mem_of_getElem? ht
        have hall : ([22].all fun u => !Tryd.prog.wantsStandIn u) = true := by kernel_rfl
        exact (show Tryd.prog.wantsStandIn t = false by simpa using List.all_eq_true.1 hall t hm)⟩)
    (by kernel_rfl)
#print axioms fnCallOk_holds
end Go.Proofs.YtfkcfjkojfnfnaaDoor
