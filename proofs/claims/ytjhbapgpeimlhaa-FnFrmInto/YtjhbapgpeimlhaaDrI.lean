/-
  A form and forms for the pots that are drawn.
-/
import Derived.Test.YtjhbapgpeimlhaaDrL
import Derived.Test.YtjhbapgpeimlhaaIntoP
namespace Go.Proofs.Ytjhbapgpeimlhaa
open Go.RowKit
set_option linter.unusedVariables false
set_option maxRecDepth 100000

/-- Forms in a row in one block. -/
theorem formsG_of {W : World} {B nC1 nD1 : Nat} {fs : List FV} {t : TypeId} (hc : Cel W B (fs.flatMap FV.cs) t) (hA : ∀ i, i < fs.length → (fs[i]?.getD noFV).At W) : FormsG W (some ⟨B, 0, none⟩) fs := by
  intro i hi
  have key : ∀ (gs : List FV) (i : Nat), i < gs.length → ∀ r, r < 3 → (gs.flatMap FV.cs)[i * 3 + r]? = (gs[i]?.getD noFV).cs[r]? := by
    intro gs
    induction gs with
    | nil => intro i hi; simp at hi
    | cons g gs ih =>
      intro i hi r hr
      rcases i with _ | i
      · simp only [List.flatMap_cons, Nat.zero_mul, Nat.zero_add, List.getElem?_cons_zero, Option.getD_some]
        rw [List.getElem?_append_left (by simp [FV.cs]; omega)]
      · simp only [List.flatMap_cons, List.getElem?_cons_succ]
        rw [List.getElem?_append_right (by simp [FV.cs]; omega)]
        have e : (i + 1) * 3 + r - g.cs.length = i * 3 + r := by simp [FV.cs]; omega
        rw [e]
        exact ih i (by simpa using hi) r hr
  have c0 := hc.cell (i * 3 + 0)
  have c1 := hc.cell (i * 3 + 1)
  have c2 := hc.cell (i * 3 + 2)
  rw [key fs i hi 0 (by omega)] at c0
  rw [key fs i hi 1 (by omega)] at c1
  rw [key fs i hi 2 (by omega)] at c2
  exact ⟨B, 0, rfl, by simpa [FV.cs] using c0, by simpa [FV.cs] using c1, by simpa [FV.cs] using c2, hA i hi⟩
theorem FormsG.off {S : Nat → Prop} {w w' : World} {ad : Option Addr} {fs : List FV} (h : FormsG w ad fs) (t : Touch S w w') (h0 : ∀ b o, ad = some ⟨b, o, none⟩ → ¬ S b) (h1 : ∀ i, i < fs.length → (∀ b o, (fs[i]?.getD noFV).a = some ⟨b, o, none⟩ → ¬ S b) ∧ (∀ b o, (fs[i]?.getD noFV).c = some ⟨b, o, none⟩ → ¬ S b)) : FormsG w' ad fs := by
  intro i hi
  obtain ⟨b, off, e, e0, e1, e2, e3⟩ := h i hi
  have hb := t.block b (block_lt e0) (h0 b off e)
  obtain ⟨k1, k2⟩ := h1 i hi
  exact ⟨b, off, e, (World.cell?_of_block hb).trans e0, (World.cell?_of_block hb).trans e1, (World.cell?_of_block hb).trans e2, ⟨e3.C.off t k1, e3.D.off t k2, e3.hn, e3.hm⟩⟩
theorem FormsG.cut {w : World} {ad : Option Addr} {fs : List FV} (h : FormsG w ad fs) (k : Nat) : FormsG w ad (fs.take k) := fun i hi => by
  have hi' : i < fs.length := by rw [List.length_take] at hi; omega
  have e : (fs.take k)[i]?.getD noFV = fs[i]?.getD noFV := by rw [List.getElem?_take_of_lt (by rw [List.length_take] at hi; omega)]
  obtain ⟨b, off, x⟩ := h i hi'
  exact ⟨b, off, by rw [e]; exact x⟩

set_option maxHeartbeats 3200000 in
theorem dInto (a : Option Addr) (n cap : Nat) (bs : List Int) (w : World) (h : BInts w a n bs) (hn : n ≤ cap) (hn1 : n ≤ 1048576) (hc : cap ≤ maxLen) :
    Calls Try.prog 24 #[.slice a n cap] w fun e w' => ∃ a1 n1 c1 a2 n2 c2 f ad N capN fs, e = .returned (.tuple #[formV a1 n1 c1 a2 n2 c2 f.2.2, .slice ad N capN]) ∧ Below w.heap.size w w' ∧ FA w' a1 n1 a2 n2 f ∧ FormsG w' ad fs ∧ fs.length = N ∧ N ≤ 3 := by
  have q0 := Cel.new w [.slice none 0 0, .slice none 0 0, .int .i64 0] 25
  have al := (Below.refl w.heap.size w).alloc (Nat.le_refl _) (.cells #[.slice none 0 0, .slice none 0 0, .int .i64 0] 25)
  go_enter Try.func24, Try.ntmps24
  go_wp2_with fail
  refine (open_any _ _ _ bs _ (h.below al) hn hn1 hc).mono ?_
  rintro e w1 ⟨R, n', cap2, bs', rfl, b1, hR, rd⟩
  have hle := b1.size
  rw [World.size_alloc] at hR hle
  have BB := al.trans (b1.mono al.size)
  replace q0 := q0.below b1
  clear al b1 h
  have nq0 : w.heap.size ≠ R := by omega
  have TT : Touch (fun x => x = R) w1 w1 := Touch.refl _ _
  have hRl := rd.c.lt
  have ha0 := rd.ha
  clear hn hn1 hc
  generalize n' = n at rd ha0
  generalize cap2 = cap at rd
  generalize bs' = bs at rd
  go_wp2_with fail
  refine (form_f R a n cap bs (0) 24 _ rd (by omega) (by omega) (by omega) (by omega) rd.ha).mono ?_
  rintro e w2 ⟨BA, nCA, cCA, DA, nDA, cDA, KA, LCA, LDA, qA, rfl, fm⟩
  have hqA0 := fm.q0
  have hqA1 := fm.q1
  have zA1 : w1.heap.size ≤ BA := Nat.le_trans TT.size fm.b1
  have zA2 : w1.heap.size ≤ DA := Nat.le_trans TT.size fm.b2
  have GA := fm.fa KA
  have t5 := fm.t
  have R5 := fm.r
  clear fm
  replace q0 := q0.touch t5 nq0
  replace TT := TT.trans t5
  replace rd := R5
  clear t5 R5
  go_wp2_with fail
  refine (form_f R a n cap bs (qA) 24 _ rd (by omega) (by omega) (by omega) (by omega) rd.ha).mono ?_
  rintro e w3 ⟨BF, nCF, cCF, DF, nDF, cDF, KF, LCF, LDF, qF, rfl, fm⟩
  have hqF0 := fm.q0
  have hqF1 := fm.q1
  have zF1 : w1.heap.size ≤ BF := Nat.le_trans TT.size fm.b1
  have zF2 : w1.heap.size ≤ DF := Nat.le_trans TT.size fm.b2
  have GF := fm.fa KF
  have t5 := fm.t
  have R5 := fm.r
  clear fm
  replace q0 := q0.touch t5 nq0
  replace GA := GA.far t5 (lo := w1.heap.size) (fun k hk => by omega) zA1 zA2
  replace TT := TT.trans t5
  replace rd := R5
  clear t5 R5
  go_wp2_with fail
  refine (form_f R a n cap bs (qF) 24 _ rd (by omega) (by omega) (by omega) (by omega) rd.ha).mono ?_
  rintro e w4 ⟨BH, nCH, cCH, DH, nDH, cDH, KH, LCH, LDH, qH, rfl, fm⟩
  have hqH0 := fm.q0
  have hqH1 := fm.q1
  have zH1 : w1.heap.size ≤ BH := Nat.le_trans TT.size fm.b1
  have zH2 : w1.heap.size ≤ DH := Nat.le_trans TT.size fm.b2
  have GH := fm.fa KH
  have t5 := fm.t
  have R5 := fm.r
  clear fm
  replace q0 := q0.touch t5 nq0
  replace GA := GA.far t5 (lo := w1.heap.size) (fun k hk => by omega) zA1 zA2
  replace GF := GF.far t5 (lo := w1.heap.size) (fun k hk => by omega) zF1 zF2
  replace TT := TT.trans t5
  replace rd := R5
  clear t5 R5
  have al := (Below.refl w4.heap.size w4).alloc (Nat.le_refl _) (.cells #[.slice (some ⟨BA, 0, none⟩) nCA cCA, .slice (some ⟨DA, 0, none⟩) nDA cDA, .int .i64 KA, .slice (some ⟨BF, 0, none⟩) nCF cCF, .slice (some ⟨DF, 0, none⟩) nDF cDF, .int .i64 KF, .slice (some ⟨BH, 0, none⟩) nCH cCH, .slice (some ⟨DH, 0, none⟩) nDH cDH, .int .i64 KH] 25)
  have hsz := TT.size
  have LF0 := Cel.new w4 [.slice (some ⟨BA, 0, none⟩) nCA cCA, .slice (some ⟨DA, 0, none⟩) nDA cDA, .int .i64 KA, .slice (some ⟨BF, 0, none⟩) nCF cCF, .slice (some ⟨DF, 0, none⟩) nDF cDF, .int .i64 KF, .slice (some ⟨BH, 0, none⟩) nCH cCH, .slice (some ⟨DH, 0, none⟩) nDH cDH, .int .i64 KH] 25
  replace q0 := q0.below al
  replace GA := GA.below al
  replace GF := GF.below al
  replace GH := GH.below al
  replace TT := TT.trans (Touch.of al)
  replace rd := rd.below al
  clear al
  have LF : FormsG (w4.alloc (.cells #[.slice (some ⟨BA, 0, none⟩) nCA cCA, .slice (some ⟨DA, 0, none⟩) nDA cDA, .int .i64 KA, .slice (some ⟨BF, 0, none⟩) nCF cCF, .slice (some ⟨DF, 0, none⟩) nDF cDF, .int .i64 KF, .slice (some ⟨BH, 0, none⟩) nCH cCH, .slice (some ⟨DH, 0, none⟩) nDH cDH, .int .i64 KH] 25)) (some ⟨w4.heap.size, 0, none⟩) [⟨some ⟨BA, 0, none⟩, nCA, cCA, some ⟨DA, 0, none⟩, nDA, cDA, KA, LCA, LDA⟩, ⟨some ⟨BF, 0, none⟩, nCF, cCF, some ⟨DF, 0, none⟩, nDF, cDF, KF, LCF, LDF⟩, ⟨some ⟨BH, 0, none⟩, nCH, cCH, some ⟨DH, 0, none⟩, nDH, cDH, KH, LCH, LDH⟩] := formsG_of (nC1 := 0) (nD1 := 0) (fs := [⟨some ⟨BA, 0, none⟩, nCA, cCA, some ⟨DA, 0, none⟩, nDA, cDA, KA, LCA, LDA⟩, ⟨some ⟨BF, 0, none⟩, nCF, cCF, some ⟨DF, 0, none⟩, nDF, cDF, KF, LCF, LDF⟩, ⟨some ⟨BH, 0, none⟩, nCH, cCH, some ⟨DH, 0, none⟩, nDH, cDH, KH, LCH, LDH⟩]) LF0 (fun i hi => by rcases i with _ | _ | _ | i; exact ⟨GA.C, GA.D, GA.hn, GA.hm⟩; exact ⟨GF.C, GF.D, GF.hn, GF.hm⟩; exact ⟨GH.C, GH.D, GH.hn, GH.hm⟩; simp at hi; omega)
  clear LF0 GA GF GH
  go_wp2_with fail
  obtain ⟨W5, hW5⟩ : ∃ W, W = (w4.alloc (.cells #[.slice (some ⟨BA, 0, none⟩) nCA cCA, .slice (some ⟨DA, 0, none⟩) nDA cDA, .int .i64 KA, .slice (some ⟨BF, 0, none⟩) nCF cCF, .slice (some ⟨DF, 0, none⟩) nDF cDF, .int .i64 KF, .slice (some ⟨BH, 0, none⟩) nCH cCH, .slice (some ⟨DH, 0, none⟩) nDH cDH, .int .i64 KH] 25)) := ⟨_, rfl⟩
  rw [← hW5]
  rw [← hW5] at TT rd q0 LF
  clear hW5
  obtain ⟨XL, hXL⟩ : ∃ x, x = w4.heap.size := ⟨_, rfl⟩
  rw [← hXL]
  rw [← hXL] at LF hsz
  clear hXL
  refine (pick_any R a n cap bs (qH) 12 _ rd (by omega) (by omega) (by omega) (by omega)).mono ?_
  rintro e w6 ⟨rj, hj0, hj1, rfl, t5, R5⟩
  obtain ⟨j, rfl⟩ := Int.eq_ofNat_of_zero_le hj0
  clear hj0
  replace q0 := q0.touch t5 nq0
  replace LF := LF.off t5 (fun b o e hs => by simp only [Option.some.injEq, Addr.mk.injEq] at e; omega) (fun i hi => by rcases i with _ | _ | _ | i; exact ⟨fun b o e hs => by simp only [List.getElem?_cons_zero, Option.getD_some, Option.some.injEq, Addr.mk.injEq] at e; omega, fun b o e hs => by simp only [List.getElem?_cons_zero, Option.getD_some, Option.some.injEq, Addr.mk.injEq] at e; omega⟩; exact ⟨fun b o e hs => by simp only [List.getElem?_cons_zero, List.getElem?_cons_succ, Option.getD_some, Option.some.injEq, Addr.mk.injEq] at e; omega, fun b o e hs => by simp only [List.getElem?_cons_zero, List.getElem?_cons_succ, Option.getD_some, Option.some.injEq, Addr.mk.injEq] at e; omega⟩; exact ⟨fun b o e hs => by simp only [List.getElem?_cons_zero, List.getElem?_cons_succ, Option.getD_some, Option.some.injEq, Addr.mk.injEq] at e; omega, fun b o e hs => by simp only [List.getElem?_cons_zero, List.getElem?_cons_succ, Option.getD_some, Option.some.injEq, Addr.mk.injEq] at e; omega⟩; simp at hi; omega)
  replace TT := TT.trans t5
  replace rd := R5
  clear t5 R5
  by_cases hj0 : (j : Int) = 0
  · have hj' : ((j : Int) == 0) = true := by simpa using hj0
    go_wp2_with fail
    refine (form_f R a n cap bs (qH + 1) 12 _ rd (by omega) (by omega) (by omega) (by omega) rd.ha).mono ?_
    rintro e w7 ⟨BE, nCE, cCE, DE, nDE, cDE, KE, LCE, LDE, qE, rfl, fm⟩
    have hqE0 := fm.q0
    have hqE1 := fm.q1
    have zE1 : w1.heap.size ≤ BE := Nat.le_trans TT.size fm.b1
    have zE2 : w1.heap.size ≤ DE := Nat.le_trans TT.size fm.b2
    have GE := fm.fa KE
    have t5 := fm.t
    have R5 := fm.r
    clear fm
    replace q0 := q0.touch t5 nq0
    replace LF := LF.off t5 (fun b o e hs => by simp only [Option.some.injEq, Addr.mk.injEq] at e; omega) (fun i hi => by rcases i with _ | _ | _ | i; exact ⟨fun b o e hs => by simp only [List.getElem?_cons_zero, Option.getD_some, Option.some.injEq, Addr.mk.injEq] at e; omega, fun b o e hs => by simp only [List.getElem?_cons_zero, Option.getD_some, Option.some.injEq, Addr.mk.injEq] at e; omega⟩; exact ⟨fun b o e hs => by simp only [List.getElem?_cons_zero, List.getElem?_cons_succ, Option.getD_some, Option.some.injEq, Addr.mk.injEq] at e; omega, fun b o e hs => by simp only [List.getElem?_cons_zero, List.getElem?_cons_succ, Option.getD_some, Option.some.injEq, Addr.mk.injEq] at e; omega⟩; exact ⟨fun b o e hs => by simp only [List.getElem?_cons_zero, List.getElem?_cons_succ, Option.getD_some, Option.some.injEq, Addr.mk.injEq] at e; omega, fun b o e hs => by simp only [List.getElem?_cons_zero, List.getElem?_cons_succ, Option.getD_some, Option.some.injEq, Addr.mk.injEq] at e; omega⟩; simp at hi; omega)
    replace TT := TT.trans t5
    replace rd := R5
    clear t5 R5
    have gq0_0 := q0.cell 0
    have gq0_1 := q0.cell 1
    have gq0_2 := q0.cell 2
    simp only [List.getElem?_cons_zero, List.getElem?_cons_succ] at gq0_0 gq0_1 gq0_2
    have fq0_0 := q0.free 0
    have fq0_1 := q0.free 1
    have fq0_2 := q0.free 2
    have lq0 := q0.lt
    have lt1 := TT.size
    have BZ := BB.trans (TT.below (B := w.heap.size) (by omega) (fun k hk => by omega))
    clear TT rd
    have OF : ∀ X, X = w.heap.size → ∀ i v, ∀ W : World, FormsG W (some ⟨XL, 0, none⟩) [⟨some ⟨BA, 0, none⟩, nCA, cCA, some ⟨DA, 0, none⟩, nDA, cDA, KA, LCA, LDA⟩, ⟨some ⟨BF, 0, none⟩, nCF, cCF, some ⟨DF, 0, none⟩, nDF, cDF, KF, LCF, LDF⟩, ⟨some ⟨BH, 0, none⟩, nCH, cCH, some ⟨DH, 0, none⟩, nDH, cDH, KH, LCH, LDH⟩] → FormsG (W.setCell ⟨X, i, none⟩ v) (some ⟨XL, 0, none⟩) [⟨some ⟨BA, 0, none⟩, nCA, cCA, some ⟨DA, 0, none⟩, nDA, cDA, KA, LCA, LDA⟩, ⟨some ⟨BF, 0, none⟩, nCF, cCF, some ⟨DF, 0, none⟩, nDF, cDF, KF, LCF, LDF⟩, ⟨some ⟨BH, 0, none⟩, nCH, cCH, some ⟨DH, 0, none⟩, nDH, cDH, KH, LCH, LDH⟩] := fun X hX i v W h => h.off (Touch.setCell (S := fun x => x = X) (Touch.refl _ _) rfl _) (fun b o e hs => by simp only [Option.some.injEq, Addr.mk.injEq] at e; omega) (fun i hi => by rcases i with _ | _ | _ | i; exact ⟨fun b o e hs => by simp only [List.getElem?_cons_zero, Option.getD_some, Option.some.injEq, Addr.mk.injEq] at e; omega, fun b o e hs => by simp only [List.getElem?_cons_zero, Option.getD_some, Option.some.injEq, Addr.mk.injEq] at e; omega⟩; exact ⟨fun b o e hs => by simp only [List.getElem?_cons_zero, List.getElem?_cons_succ, Option.getD_some, Option.some.injEq, Addr.mk.injEq] at e; omega, fun b o e hs => by simp only [List.getElem?_cons_zero, List.getElem?_cons_succ, Option.getD_some, Option.some.injEq, Addr.mk.injEq] at e; omega⟩; exact ⟨fun b o e hs => by simp only [List.getElem?_cons_zero, List.getElem?_cons_succ, Option.getD_some, Option.some.injEq, Addr.mk.injEq] at e; omega, fun b o e hs => by simp only [List.getElem?_cons_zero, List.getElem?_cons_succ, Option.getD_some, Option.some.injEq, Addr.mk.injEq] at e; omega⟩; simp at hi; omega)
    go_wp2
    have LG := OF _ rfl 2 (.int .i64 KE) _ (OF _ rfl 1 (.slice (some ⟨DE, 0, none⟩) nDE cDE) _ (OF _ rfl 0 (.slice (some ⟨BE, 0, none⟩) nCE cCE) _ LF))
    refine bodyPost_ret (v := .tuple #[formV (some ⟨BE, 0, none⟩) nCE cCE (some ⟨DE, 0, none⟩) nDE cDE KE, .slice (some ⟨XL, 0, none⟩) 2 3]) (by simp [results, Try.results24, go_sem, gq0_0, gq0_1, gq0_2]) rfl ⟨_, nCE, cCE, _, nDE, cDE, (LCE, LDE, KE), _, 2, 3, List.take 2 [⟨some ⟨BA, 0, none⟩, nCA, cCA, some ⟨DA, 0, none⟩, nDA, cDA, KA, LCA, LDA⟩, ⟨some ⟨BF, 0, none⟩, nCF, cCF, some ⟨DF, 0, none⟩, nDF, cDF, KF, LCF, LDF⟩, ⟨some ⟨BH, 0, none⟩, nCH, cCH, some ⟨DH, 0, none⟩, nDH, cDH, KH, LCH, LDH⟩], rfl, ((BZ.setCell (Nat.le_refl _) _).setCell (Nat.le_refl _) _).setCell (Nat.le_refl _) _, ((GE.setFar (X := w.heap.size) (by omega) (by omega) 0 _).setFar (X := w.heap.size) (by omega) (by omega) 1 _).setFar (X := w.heap.size) (by omega) (by omega) 2 _, LG.cut 2, rfl, by omega⟩
  · have hj' : ((j : Int) == 0) = false := by simpa using hj0
    go_wp2_with fail
    refine (form_f R a n cap bs (qH + 1) 12 _ rd (by omega) (by omega) (by omega) (by omega) rd.ha).mono ?_
    rintro e w7 ⟨BE, nCE, cCE, DE, nDE, cDE, KE, LCE, LDE, qE, rfl, fm⟩
    have hqE0 := fm.q0
    have hqE1 := fm.q1
    have zE1 : w1.heap.size ≤ BE := Nat.le_trans TT.size fm.b1
    have zE2 : w1.heap.size ≤ DE := Nat.le_trans TT.size fm.b2
    have GE := fm.fa KE
    have t5 := fm.t
    have R5 := fm.r
    clear fm
    replace q0 := q0.touch t5 nq0
    replace LF := LF.off t5 (fun b o e hs => by simp only [Option.some.injEq, Addr.mk.injEq] at e; omega) (fun i hi => by rcases i with _ | _ | _ | i; exact ⟨fun b o e hs => by simp only [List.getElem?_cons_zero, Option.getD_some, Option.some.injEq, Addr.mk.injEq] at e; omega, fun b o e hs => by simp only [List.getElem?_cons_zero, Option.getD_some, Option.some.injEq, Addr.mk.injEq] at e; omega⟩; exact ⟨fun b o e hs => by simp only [List.getElem?_cons_zero, List.getElem?_cons_succ, Option.getD_some, Option.some.injEq, Addr.mk.injEq] at e; omega, fun b o e hs => by simp only [List.getElem?_cons_zero, List.getElem?_cons_succ, Option.getD_some, Option.some.injEq, Addr.mk.injEq] at e; omega⟩; exact ⟨fun b o e hs => by simp only [List.getElem?_cons_zero, List.getElem?_cons_succ, Option.getD_some, Option.some.injEq, Addr.mk.injEq] at e; omega, fun b o e hs => by simp only [List.getElem?_cons_zero, List.getElem?_cons_succ, Option.getD_some, Option.some.injEq, Addr.mk.injEq] at e; omega⟩; simp at hi; omega)
    replace TT := TT.trans t5
    replace rd := R5
    clear t5 R5
    have gq0_0 := q0.cell 0
    have gq0_1 := q0.cell 1
    have gq0_2 := q0.cell 2
    simp only [List.getElem?_cons_zero, List.getElem?_cons_succ] at gq0_0 gq0_1 gq0_2
    have fq0_0 := q0.free 0
    have fq0_1 := q0.free 1
    have fq0_2 := q0.free 2
    have lq0 := q0.lt
    have lt1 := TT.size
    have BZ := BB.trans (TT.below (B := w.heap.size) (by omega) (fun k hk => by omega))
    clear TT rd
    have OF : ∀ X, X = w.heap.size → ∀ i v, ∀ W : World, FormsG W (some ⟨XL, 0, none⟩) [⟨some ⟨BA, 0, none⟩, nCA, cCA, some ⟨DA, 0, none⟩, nDA, cDA, KA, LCA, LDA⟩, ⟨some ⟨BF, 0, none⟩, nCF, cCF, some ⟨DF, 0, none⟩, nDF, cDF, KF, LCF, LDF⟩, ⟨some ⟨BH, 0, none⟩, nCH, cCH, some ⟨DH, 0, none⟩, nDH, cDH, KH, LCH, LDH⟩] → FormsG (W.setCell ⟨X, i, none⟩ v) (some ⟨XL, 0, none⟩) [⟨some ⟨BA, 0, none⟩, nCA, cCA, some ⟨DA, 0, none⟩, nDA, cDA, KA, LCA, LDA⟩, ⟨some ⟨BF, 0, none⟩, nCF, cCF, some ⟨DF, 0, none⟩, nDF, cDF, KF, LCF, LDF⟩, ⟨some ⟨BH, 0, none⟩, nCH, cCH, some ⟨DH, 0, none⟩, nDH, cDH, KH, LCH, LDH⟩] := fun X hX i v W h => h.off (Touch.setCell (S := fun x => x = X) (Touch.refl _ _) rfl _) (fun b o e hs => by simp only [Option.some.injEq, Addr.mk.injEq] at e; omega) (fun i hi => by rcases i with _ | _ | _ | i; exact ⟨fun b o e hs => by simp only [List.getElem?_cons_zero, Option.getD_some, Option.some.injEq, Addr.mk.injEq] at e; omega, fun b o e hs => by simp only [List.getElem?_cons_zero, Option.getD_some, Option.some.injEq, Addr.mk.injEq] at e; omega⟩; exact ⟨fun b o e hs => by simp only [List.getElem?_cons_zero, List.getElem?_cons_succ, Option.getD_some, Option.some.injEq, Addr.mk.injEq] at e; omega, fun b o e hs => by simp only [List.getElem?_cons_zero, List.getElem?_cons_succ, Option.getD_some, Option.some.injEq, Addr.mk.injEq] at e; omega⟩; exact ⟨fun b o e hs => by simp only [List.getElem?_cons_zero, List.getElem?_cons_succ, Option.getD_some, Option.some.injEq, Addr.mk.injEq] at e; omega, fun b o e hs => by simp only [List.getElem?_cons_zero, List.getElem?_cons_succ, Option.getD_some, Option.some.injEq, Addr.mk.injEq] at e; omega⟩; simp at hi; omega)
    go_wp2
    have LG := OF _ rfl 2 (.int .i64 KE) _ (OF _ rfl 1 (.slice (some ⟨DE, 0, none⟩) nDE cDE) _ (OF _ rfl 0 (.slice (some ⟨BE, 0, none⟩) nCE cCE) _ LF))
    refine bodyPost_ret (v := .tuple #[formV (some ⟨BE, 0, none⟩) nCE cCE (some ⟨DE, 0, none⟩) nDE cDE KE, .slice (some ⟨XL, 0, none⟩) 3 3]) (by simp [results, Try.results24, go_sem, gq0_0, gq0_1, gq0_2]) rfl ⟨_, nCE, cCE, _, nDE, cDE, (LCE, LDE, KE), _, 3, 3, [⟨some ⟨BA, 0, none⟩, nCA, cCA, some ⟨DA, 0, none⟩, nDA, cDA, KA, LCA, LDA⟩, ⟨some ⟨BF, 0, none⟩, nCF, cCF, some ⟨DF, 0, none⟩, nDF, cDF, KF, LCF, LDF⟩, ⟨some ⟨BH, 0, none⟩, nCH, cCH, some ⟨DH, 0, none⟩, nDH, cDH, KH, LCH, LDH⟩], rfl, ((BZ.setCell (Nat.le_refl _) _).setCell (Nat.le_refl _) _).setCell (Nat.le_refl _) _, ((GE.setFar (X := w.heap.size) (by omega) (by omega) 0 _).setFar (X := w.heap.size) (by omega) (by omega) 1 _).setFar (X := w.heap.size) (by omega) (by omega) 2 _, LG, rfl, by omega⟩

end Go.Proofs.Ytjhbapgpeimlhaa
