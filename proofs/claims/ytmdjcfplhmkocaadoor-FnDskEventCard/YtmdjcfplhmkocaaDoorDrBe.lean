/-
  A text that is bent, one in two (l20Bent, l20Maybe): at most one byte longer.
-/
import Derived.Test.YtmdjcfplhmkocaaDoorDrL
import Derived.Test.YtmdjcfplhmkocaaDoorTk
import Derived.Test.YtmdjcfplhmkocaaDoorDig
namespace Go.Proofs.YtmdjcfplhmkocaaDoor
open Go.RowKit
set_option linter.unusedVariables false
set_option maxRecDepth 100000

theorem bytes_ex (S : ByteArray) : ∃ l : List UInt8, S = ⟨l.toArray⟩ ∧ l.length = S.size := ⟨S.data.toList, by cases S; simp, by cases S; simp [ByteArray.size]⟩
theorem cat_ex (A B : ByteArray) (M N : Nat) (ha : A.size ≤ M) (hb : B.size ≤ N) (h : M + N ≤ 100000) : ∃ S : ByteArray, (∀ X : World, (Op.stringOp .add A B).run Tryd.prog X = .ok (.string S) X) ∧ S.size ≤ M + N :=
  ⟨A ++ B, fun X => run_string_add_sum X _ _ (show A.size + B.size ≤ maxLen by unfold maxLen; omega), by rw [ByteArray.size_append]; omega⟩
theorem to_ex (S : ByteArray) (k : Int) (h0 : 0 ≤ k) (h1 : k ≤ S.size) : ∃ A : ByteArray, (∀ X : World, (Instr.slice 9 (.string S) none (some (.int .i64 k)) none).run Tryd.prog X = .ok (.string A) X) ∧ A.size ≤ k.toNat :=
  ⟨S.extract 0 k.toNat, fun X => run_slice_string_h X 9 S Tryd.underlying9 .i64 k h0 h1, by simp [ByteArray.size_extract]; omega⟩
theorem from_ex (S : ByteArray) (k : Int) (h0 : 0 ≤ k) (h1 : k ≤ S.size) : ∃ A : ByteArray, (∀ X : World, (Instr.slice 9 (.string S) (some (.int .i64 k)) none none).run Tryd.prog X = .ok (.string A) X) ∧ A.size ≤ S.size - k.toNat :=
  ⟨S.extract k.toNat S.size, fun X => run_slice_string_l X 9 S Tryd.underlying9 .i64 k h0 h1, by simp [ByteArray.size_extract]⟩
theorem one_ex (W : World) (b : Int) (h0 : 0 ≤ b) (h1 : b < 256) : ∃ C : ByteArray, (convert 22 9 (.slice (some ⟨W.heap.size, 0, none⟩) 1 1)).run Tryd.prog (W.alloc (.cells #[.int .u8 b] 5)) = .ok (.string C) (W.alloc (.cells #[.int .u8 b] 5)) ∧ C.size = 1 := by
  obtain ⟨m, rfl⟩ := Int.eq_ofNat_of_zero_le h0
  exact ⟨⟨#[UInt8.ofNat m]⟩, run_convert_bytes_back (P := Tryd.prog) (W.alloc (.cells #[.int .u8 (m : Int)] 5)) 22 9 5 ⟨W.heap.size, 0, none⟩ 1 [UInt8.ofNat m] Tryd.underlying22 Tryd.underlying5 Tryd.underlying9 (fun j hj => by
    have : j = 0 := by simpa using hj
    subst this
    have hm : m < 256 := by omega
    simp [go_sem, Addr.add, Nat.mod_eq_of_lt hm]), rfl⟩
theorem lit8 (j : Nat) (hj : j < 8) (r : Int) (h0 : 0 ≤ r) (h1 : r < 256) : 0 ≤ ([32, 48, 49, 120, 45, 97, 0, r] : List Int)[j]?.getD 0 ∧ ([32, 48, 49, 120, 45, 97, 0, r] : List Int)[j]?.getD 0 < 256 := by
  rcases j with _ | _ | _ | _ | _ | _ | _ | _ | j <;> first | omega | simp_all
/-- What bending leaves. -/
def BentM (w w' : World) (e : Ending) (R : Nat) (a : Option Addr) (n cap : Nat) (bs : List Int) (p : Int) (m : Nat) (d : Int) : Prop := ∃ (S : ByteArray) (q : Int), e = .returned (.string S) ∧ S.size ≤ m ∧ Touch (fun x => x = R) w w' ∧ Rd w' R a n cap bs q ∧ p ≤ q ∧ q ≤ p + d

set_option maxHeartbeats 6400000 in
theorem bent_f (R : Nat) (a : Option Addr) (n cap : Nat) (bs : List Int) (p : Int) (S : ByteArray) (w : World) (hR : Rd w R a n cap bs p) (hp : 0 ≤ p) (hp1 : p ≤ 4000000) (hS : S.size ≤ 990) (ha : 0 < n → ∀ b o, a = some ⟨b, o, none⟩ → b < w.heap.size) :
    Calls Tryd.prog 27 #[.pointer (some ⟨R, 0, none⟩), .string S] w fun e w' => BentM w w' e R a n cap bs p (S.size + 1) 10 := by
  have hRl := hR.c.lt
  go_enter Tryd.func27, Tryd.ntmps27
  go_wp2_with fail
  refine (pick_any R a n cap bs p ((S.size : Int) + 1) _ hR (by omega) (by omega) (by omega) (by omega)).mono ?_
  rintro e w1 ⟨k, k0, k1, rfl, t1, R1⟩
  go_wp2_with fail
  refine (pick_any R a n cap bs (p + 1) 256 _ R1 (by omega) (by omega) (by omega) (by omega)).mono ?_
  rintro e w2 ⟨r, r0, r1, rfl, t2, R2⟩
  have al := (Below.refl w2.heap.size w2).alloc (Nat.le_refl _) (.cells #[.int .i64 32, .int .i64 48, .int .i64 49, .int .i64 120, .int .i64 45, .int .i64 97, .int .i64 0, .int .i64 r] 3)
  have lb := Cel.new w2 [.int .i64 32, .int .i64 48, .int .i64 49, .int .i64 120, .int .i64 45, .int .i64 97, .int .i64 0, .int .i64 r] 3
  have TT := (t1.trans t2).trans (Touch.of al)
  have rd := R2.below al
  have nl : w2.heap.size ≠ R := by have h2 := (t1.trans t2).size; omega
  have z2 := (t1.trans t2).size
  clear hR R1 R2 t1 t2 al
  go_wp2_with fail
  refine (pick_any R a n cap bs (p + 1 + 1) 8 _ rd (by omega) (by omega) (by omega) (by omega)).mono ?_
  rintro e w3 ⟨j, j0, j1, rfl, t3, R3⟩
  obtain ⟨j, rfl⟩ := Int.eq_ofNat_of_zero_le j0
  have hj : j < 8 := by omega
  have hj' : (j : Int) < 8 := by omega
  replace lb := lb.touch t3 nl
  replace TT := TT.trans t3
  clear rd t3 j0 j1
  have hc := lit_cell (xs := [32, 48, 49, 120, 45, 97, 0, r]) lb hj
  have hy := lit8 j hj r r0 r1
  generalize ([32, 48, 49, 120, 45, 97, 0, r] : List Int)[j]?.getD 0 = b at hc hy
  obtain ⟨b0, b1⟩ := hy
  obtain ⟨C, hcv, hC⟩ := one_ex w3 b b0 b1
  have hw8 : IntKind.u8.wrap b = b := by simp [IntKind.wrap, IntKind.signed, IntKind.bits]; omega
  have al := (Below.refl w3.heap.size w3).alloc (Nat.le_refl _) (.cells #[.int .u8 b] 5)
  have rd := R3.below al
  replace TT := TT.trans (Touch.of al)
  clear lb R3
  go_upto_region 3 with fail
  clear hc hcv hw8
  obtain ⟨W4, hW4⟩ : ∃ W, W = w3.alloc (.cells #[.int .u8 b] 5) := ⟨_, rfl⟩
  rw [← hW4]
  rw [← hW4] at rd TT
  clear hW4 al
  go_wp2_with fail
  refine (pick_any R a n cap bs (p + 1 + 1 + 1) 3 _ rd (by omega) (by omega) (by omega) (by omega)).mono ?_
  rintro e w5 ⟨u, u0, u1, rfl, t5, R5⟩
  replace TT := TT.trans t5
  clear rd t5
  obtain ⟨A1, a1, s1⟩ := to_ex S k (by omega) (by omega)
  by_cases hu : u = 0
  · have hu' : (u == 0) = true := by simpa using hu
    obtain ⟨A2, a2, s2⟩ := from_ex S k (by omega) (by omega)
    obtain ⟨B1, c1, e1⟩ := cat_ex A1 C k.toNat 1 s1 (by omega) (by omega)
    obtain ⟨B2, c2, e2⟩ := cat_ex B1 A2 (k.toNat + 1) (S.size - k.toNat) e1 s2 (by omega)
    go_upto_region 4 with fail
    refine wp_region_ends (fun _ => True) (fun _ => True) 9 (by kernel_rfl) ?_
    have TTD := TT.trans (Touch.of (S := fun x => x = R) ((Below.refl w5.heap.size w5).drew))
    replace R5 := R5.below ((Below.refl w5.heap.size w5).drew)
    have hSS : (fun _ : World => True) w5.drew ∧ True := ⟨trivial, trivial⟩
    refine tkL (i := 0) rfl hSS ?_
    refine tkL (i := 1) rfl hSS ?_
    refine tkL (i := 2) rfl hSS ?_
    refine tkL (i := 3) rfl hSS ?_
    simp only [Act.put, List.setIfInBounds_toArray, List.set_cons_succ, List.set_cons_zero, List.getElem_toArray, List.getElem_cons_succ, List.getElem_cons_zero]
    refine tkL (i := 4) rfl hSS ?_
    refine tkL (i := 5) rfl hSS ?_
    refine tkL (i := 6) rfl hSS ?_
    refine tkL (i := 7) rfl hSS ?_
    simp only [Act.put, List.setIfInBounds_toArray, List.set_cons_succ, List.set_cons_zero, List.getElem_toArray, List.getElem_cons_succ, List.getElem_cons_zero]
    refine tkL (i := 8) rfl hSS ?_
    refine wpAnyE_one (i := 9) (by kernel_rfl) rfl (fun Kn hK => ?_)
    go_simp
    refine hK.out _ _ ⟨trivial, fun _ => trivial⟩ ?_
    clear hK
    refine wpAnyE_done (by kernel_rfl) ?_ _
    clear hSS
    clear a1 a2 c1 c2
    go_wp2
    go_ret
    exact ⟨B2, _, rfl, by omega, TTD, R5, by omega, by omega⟩
  · have hu' : (u == 0) = false := by simpa using hu
    by_cases hk : k = S.size
    · have hk' : (k == (S.size : Int)) = true := by simpa using hk
      obtain ⟨B1, c1, e1⟩ := cat_ex S C S.size 1 (by omega) (by omega) (by omega)
      go_wp2
      go_ret
      exact ⟨B1, _, rfl, by omega, TT, R5, by omega, by omega⟩
    · have hk' : (k == (S.size : Int)) = false := by simpa using hk
      go_wp2_with fail
      refine (pick_any R a n cap bs (p + 1 + 1 + 1 + 1) 2 _ R5 (by omega) (by omega) (by omega) (by omega)).mono ?_
      rintro e w6 ⟨v, v0, v1, rfl, t6, R6⟩
      replace TT := TT.trans t6
      clear R5 t6
      obtain ⟨A2, a2, s2⟩ := from_ex S (k + 1) (by omega) (by omega)
      have hw1 : IntKind.i64.wrap (k + 1) = k + 1 := wrap_id (by omega) (by omega)
      by_cases hv : v = 0
      · have hv' : (v == 0) = true := by simpa using hv
        obtain ⟨B2, c2, e2⟩ := cat_ex A1 A2 k.toNat (S.size - (k + 1).toNat) s1 s2 (by omega)
        go_upto_region 8 with fail
        refine wp_region_ends (fun _ => True) (fun _ => True) 8 (by kernel_rfl) ?_
        have TTD := TT.trans (Touch.of (S := fun x => x = R) ((Below.refl w6.heap.size w6).drew))
        replace R6 := R6.below ((Below.refl w6.heap.size w6).drew)
        have hSS : (fun _ : World => True) w6.drew ∧ True := ⟨trivial, trivial⟩
        refine tkL (i := 0) rfl hSS ?_
        refine tkL (i := 1) rfl hSS ?_
        refine tkL (i := 2) rfl hSS ?_
        refine tkL (i := 3) rfl hSS ?_
        simp only [Act.put, List.setIfInBounds_toArray, List.set_cons_succ, List.set_cons_zero, List.getElem_toArray, List.getElem_cons_succ, List.getElem_cons_zero]
        refine tkL (i := 4) rfl hSS ?_
        refine tkL (i := 5) rfl hSS ?_
        refine tkL (i := 6) rfl hSS ?_
        refine tkL (i := 7) rfl hSS ?_
        simp only [Act.put, List.setIfInBounds_toArray, List.set_cons_succ, List.set_cons_zero, List.getElem_toArray, List.getElem_cons_succ, List.getElem_cons_zero]
        refine wpAnyE_one (i := 8) (by kernel_rfl) rfl (fun Kn hK => ?_)
        go_simp
        refine hK.out _ _ ⟨trivial, fun _ => trivial⟩ ?_
        clear hK
        refine wpAnyE_done (by kernel_rfl) ?_ _
        clear hSS
        clear a1 a2 c2
        go_wp2
        go_ret
        exact ⟨B2, _, rfl, by omega, TTD, R6, by omega, by omega⟩
      · have hv' : (v == 0) = false := by simpa using hv
        obtain ⟨B1, c1, e1⟩ := cat_ex A1 C k.toNat 1 s1 (by omega) (by omega)
        obtain ⟨B2, c2, e2⟩ := cat_ex B1 A2 (k.toNat + 1) (S.size - (k + 1).toNat) e1 s2 (by omega)
        go_upto_region 9 with fail
        refine wp_region_ends (fun _ => True) (fun _ => True) 10 (by kernel_rfl) ?_
        have TTD := TT.trans (Touch.of (S := fun x => x = R) ((Below.refl w6.heap.size w6).drew))
        replace R6 := R6.below ((Below.refl w6.heap.size w6).drew)
        have hSS : (fun _ : World => True) w6.drew ∧ True := ⟨trivial, trivial⟩
        refine tkL (i := 0) rfl hSS ?_
        refine tkL (i := 1) rfl hSS ?_
        refine tkL (i := 2) rfl hSS ?_
        refine tkL (i := 3) rfl hSS ?_
        simp only [Act.put, List.setIfInBounds_toArray, List.set_cons_succ, List.set_cons_zero, List.getElem_toArray, List.getElem_cons_succ, List.getElem_cons_zero]
        refine tkL (i := 4) rfl hSS ?_
        refine tkL (i := 5) rfl hSS ?_
        refine tkL (i := 6) rfl hSS ?_
        refine tkL (i := 7) rfl hSS ?_
        simp only [Act.put, List.setIfInBounds_toArray, List.set_cons_succ, List.set_cons_zero, List.getElem_toArray, List.getElem_cons_succ, List.getElem_cons_zero]
        refine tkL (i := 8) rfl hSS ?_
        refine tkL (i := 9) rfl hSS ?_
        refine wpAnyE_one (i := 10) (by kernel_rfl) rfl (fun Kn hK => ?_)
        go_simp
        refine hK.out _ _ ⟨trivial, fun _ => trivial⟩ ?_
        clear hK
        refine wpAnyE_done (by kernel_rfl) ?_ _
        clear hSS
        clear a1 a2 c1 c2
        go_wp2
        go_ret
        exact ⟨B2, _, rfl, by omega, TTD, R6, by omega, by omega⟩

end Go.Proofs.YtmdjcfplhmkocaaDoor
