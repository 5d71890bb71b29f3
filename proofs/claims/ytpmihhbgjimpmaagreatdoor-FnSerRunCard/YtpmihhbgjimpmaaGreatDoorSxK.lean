/-
  Lemmas that the claim's last text rests on.
-/
import Derived.Test.YtpmihhbgjimpmaaGreatDoorSxJ
namespace Go.Proofs.YtpmihhbgjimpmaaGreatDoor
open Go.RowKit
open List renaming getElem?_cons_zero → qA, getElem?_cons_succ → qB, length_append → qC, length_cons → qD, length_nil → qE
open Nat renaming le_refl → qF
set_option linter.unusedVariables false
set_option maxRecDepth 100000
set_option maxHeartbeats 25600000
variable {N cap n : Nat} {a : Option Addr} {ac c cl sq : Int}
theorem one_intsC (w : World) (x : Int) (t : TypeId) : Ints (w.alloc (.cells #[.int .i64 x] t)) (some ⟨w.heap.size, 0, none⟩) 1 [x] :=
 ⟨rfl, fun i hi => ⟨w.heap.size, 0, rfl, by
  obtain rfl : i = 0 := by omega
  simp [go_sem]⟩⟩
theorem bet_oneC (x lo hi : Int) : betB lo hi [x] = inB x lo hi := by simp [betB]
theorem tail_one (x : Int) : tailL [x] = [32] ++ Lib.itoa x := by simp [tailL, Lib.joinTail]
def casL (cl sq : Int) : List UInt8 := wClient ++ ([32] ++ Lib.itoa cl) ++ [32] ++ (wCall ++ ([32] ++ Lib.itoa sq))
theorem ba_app (x y : List UInt8) : (⟨x.toArray⟩ : ByteArray) ++ (⟨y.toArray⟩ : ByteArray) = ⟨(x ++ y).toArray⟩ := by
 apply ByteArray.ext
 simp
theorem ba_len (x : List UInt8) : (⟨x.toArray⟩ : ByteArray).size = x.length := by simp [ByteArray.size]
theorem run_add (X : World) {x : List UInt8} (y : List UInt8) (h : x.length + y.length <= 100000) : (Op.stringOp .add (⟨x.toArray⟩ : ByteArray) (⟨y.toArray⟩ : ByteArray)).run Tryz.prog X = .ok (.string ⟨(x ++ y).toArray⟩) X := by
 have h2 : (⟨x.toArray⟩ : ByteArray).size + (⟨y.toArray⟩ : ByteArray).size <= maxLen := by rw [ba_len, ba_len]; unfold maxLen; omega
 rw [run_string_add_sum X _ _ h2, ba_app]
theorem icas_any (cl sq ac : Int) (a : Option Addr) (n cap : Nat) {w : World} (h1 : 0 <= cl /\ cl < 4) (h2 : 1 <= sq /\ sq <= 300) (hT : Lib.TabBelow Tryz.prog w.heap.size w "internal/strconv.uint64pow10" .u64 Lib.pow10Tab) :
  Calls Tryz.prog 161 #[clV cl sq ac a n cap] w fun e w' => e = .returned (.string ⟨(casL cl sq).toArray⟩) /\ Below w.heap.size w w' := by
 have HTB : Hid _ := hT;clear hT;have q0 := Cel.new w [.int .i64 cl, .int .i64 sq, .int .i64 ac, .slice a n cap] 59;have BZ := (Below.refl w.heap.size w).alloc (qF _) (.cells #[.int .i64 cl, .int .i64 sq, .int .i64 ac, .slice a n cap] 59);have l1 := Lib.itoa_length_le cl (by omega) (by omega);have l2 := Lib.itoa_length_le sq (by omega) (by omega);obtain ⟨T1, e1⟩ : ∃ T : ByteArray, (⟨(wClient ++ tailL [cl]).toArray⟩ : ByteArray) = T := ⟨_, rfl⟩
 obtain ⟨T2, e2⟩ : ∃ T : ByteArray, (⟨(wClient ++ tailL [cl] ++ [32]).toArray⟩ : ByteArray) = T := ⟨_, rfl⟩
 obtain ⟨T3, e3⟩ : ∃ T : ByteArray, (⟨(wCall ++ tailL [sq]).toArray⟩ : ByteArray) = T := ⟨_, rfl⟩
 obtain ⟨T4, e4⟩ : ∃ T : ByteArray, (⟨(casL cl sq).toArray⟩ : ByteArray) = T := ⟨_, rfl⟩
 have A1 : ∀ X : World, (Op.stringOp .add (T1 : ByteArray) (⟨#[32]⟩ : ByteArray)).run Tryz.prog X = .ok (.string T2) X := fun X => by
  rw [<- e1, <- e2]
  exact run_add X [32] (by rw [tail_one]; simp only [qC, qD, qE, wClient]; omega)
 have A2 : ∀ X : World, (Op.stringOp .add (T2 : ByteArray) (T3 : ByteArray)).run Tryz.prog X = .ok (.string T4) X := fun X => by
  rw [<- e2, <- e3, <- e4];rw [run_add X _ (by rw [tail_one, tail_one]; simp only [qC, qD, qE, wClient, wCall]; omega)];rw [tail_one, tail_one, casL]
 have E1 : Hid _ := e1;have E3 : Hid _ := e3;rw [e4];clear e1 e2 e3 e4 l1 l2
 go_enter Tryz.func161, Tryz.ntmps161
 go_upto_region 1 with fail
 obtain ⟨W, hW⟩ : ∃ W, W = w.alloc (.cells #[.int .i64 cl, .int .i64 sq, .int .i64 ac, .slice a n cap] 59) := ⟨_, rfl⟩
 obtain ⟨Q, hQ⟩ : ∃ Q, Q = w.heap.size := ⟨_, rfl⟩
 rw [<- hQ, <- hW];rw [<- hW] at q0 BZ;rw [<- hQ] at q0;clear hW hQ;refine wp_region_ends (fun X => X.cell? ⟨Q, 0, none⟩ = some (.int .i64 cl) /\ X.cell? ⟨Q, 1, none⟩ = some (.int .i64 sq)) (fun _ => True) 10 (by kernel_rfl) ?_;have dr : Below W.heap.size W W.drew := (Below.refl _ _).drew;replace BZ := btr BZ dr;replace q0 := q0.below dr;clear dr;generalize W.drew = V at BZ q0 ⊢;have hSS : (fun X : World => X.cell? ⟨Q, 0, none⟩ = some (.int .i64 cl) /\ X.cell? ⟨Q, 1, none⟩ = some (.int .i64 sq)) V /\ True := ⟨⟨q0.cell 0, q0.cell 1⟩, trivial⟩
 refine tkl 0 rfl hSS ?_;refine tkl 1 rfl hSS ?_;refine tkl 5 rfl hSS ?_;refine tkl 6 rfl hSS ?_;simp only [Act.put, List.setIfInBounds_toArray, List.set_cons_succ, List.set_cons_zero, List.getElem_toArray, List.getElem_cons_succ, List.getElem_cons_zero];refine wpAnyE_two (i := 2) (j := 7) (by kernel_rfl) rfl rfl (fun Kn hK => ?_) (fun Kn hK => ?_)
 ·go_simp;have al := (Below.refl V.heap.size V).alloc (qF _) (.cells #[.int .i64 cl] 3);have ia := one_intsC V cl 3;replace BZ := btr BZ al;replace q0 := q0.below al;clear al;generalize V.alloc (.cells #[.int .i64 cl] 3) = Y1 at BZ q0 ia ⊢;clear hSS;have hSS : (fun X : World => X.cell? ⟨Q, 0, none⟩ = some (.int .i64 cl) /\ X.cell? ⟨Q, 1, none⟩ = some (.int .i64 sq)) Y1 /\ True := ⟨⟨q0.cell 0, q0.cell 1⟩, trivial⟩
  refine kk0 hK (hSS.1) ?_;clear hK;refine wpAnyE_two (i := 3) (j := 7) (by kernel_rfl) rfl rfl (fun Kn hK => ?_) (fun Kn hK => ?_)
  ·go_simp;refine (itwn_any wClient _ _ _ [cl] _ ia (by omega) (by decide) (fun i => by match i with | 0 => (simp only [qA, Option.getD_some]; omega) | i + 1 => simp) (fun X hX => HTB.out X (btr BZ hX))).mono ?_;rintro ee w2 ⟨rfl, b9⟩;rw [E1.out];replace BZ := btr BZ b9;replace q0 := q0.below b9;replace ia := ia.below b9;clear b9;dsimp only;clear hSS;have hSS : (fun X : World => X.cell? ⟨Q, 0, none⟩ = some (.int .i64 cl) /\ X.cell? ⟨Q, 1, none⟩ = some (.int .i64 sq)) w2 /\ True := ⟨⟨q0.cell 0, q0.cell 1⟩, trivial⟩
   refine kk0 hK (hSS.1) ?_;clear hK;refine wpAnyE_two (i := 4) (j := 7) (by kernel_rfl) rfl rfl (fun Kn hK => ?_) (fun Kn hK => ?_)
   ·go_simp;clear hSS;have hSS : (fun X : World => X.cell? ⟨Q, 0, none⟩ = some (.int .i64 cl) /\ X.cell? ⟨Q, 1, none⟩ = some (.int .i64 sq)) w2 /\ True := ⟨⟨q0.cell 0, q0.cell 1⟩, trivial⟩
    refine kk0 hK (hSS.1) ?_;clear hK;refine wpAnyE_one (i := 7) (by kernel_rfl) rfl (fun Kn hK => ?_);go_simp;have al := (Below.refl w2.heap.size w2).alloc (qF _) (.cells #[.int .i64 sq] 3);have ib := one_intsC w2 sq 3;replace BZ := btr BZ al;replace q0 := q0.below al;replace ia := ia.below al;clear al;generalize w2.alloc (.cells #[.int .i64 sq] 3) = Y3 at BZ q0 ia ib ⊢;clear hSS;have hSS : (fun X : World => X.cell? ⟨Q, 0, none⟩ = some (.int .i64 cl) /\ X.cell? ⟨Q, 1, none⟩ = some (.int .i64 sq)) Y3 /\ True := ⟨⟨q0.cell 0, q0.cell 1⟩, trivial⟩
    refine kk0 hK (hSS.1) ?_;clear hK;refine wpAnyE_one (i := 8) (by kernel_rfl) rfl (fun Kn hK => ?_);go_simp;refine (itwn_any wCall _ _ _ [sq] _ ib (by omega) (by decide) (fun i => by match i with | 0 => (simp only [qA, Option.getD_some]; omega) | i + 1 => simp) (fun X hX => HTB.out X (btr BZ hX))).mono ?_;rintro ee w4 ⟨rfl, b9⟩;rw [E3.out];replace BZ := btr BZ b9;replace q0 := q0.below b9;replace ia := ia.below b9;replace ib := ib.below b9;clear b9;dsimp only;clear hSS;have hSS : (fun X : World => X.cell? ⟨Q, 0, none⟩ = some (.int .i64 cl) /\ X.cell? ⟨Q, 1, none⟩ = some (.int .i64 sq)) w4 /\ True := ⟨⟨q0.cell 0, q0.cell 1⟩, trivial⟩
    refine kk0 hK (hSS.1) ?_;clear hK;refine wpAnyE_one (i := 9) (by kernel_rfl) rfl (fun Kn hK => ?_);go_simp;clear hSS;have hSS : (fun X : World => X.cell? ⟨Q, 0, none⟩ = some (.int .i64 cl) /\ X.cell? ⟨Q, 1, none⟩ = some (.int .i64 sq)) w4 /\ True := ⟨⟨q0.cell 0, q0.cell 1⟩, trivial⟩
    refine kk0 hK (hSS.1) ?_;clear hK;refine wpAnyE_one (i := 10) (by kernel_rfl) rfl (fun Kn hK => ?_);go_simp;clear hSS;have hSS : (fun X : World => X.cell? ⟨Q, 0, none⟩ = some (.int .i64 cl) /\ X.cell? ⟨Q, 1, none⟩ = some (.int .i64 sq)) w4 /\ True := ⟨⟨q0.cell 0, q0.cell 1⟩, trivial⟩
    refine kk0 hK (hSS.1) ?_;clear hK;refine wod ?_ _;clear hSS;clear q0 A1 A2
    go_wp2
    go_ret
    exact ⟨rfl, BZ⟩
   go_simp;have al := (Below.refl w2.heap.size w2).alloc (qF _) (.cells #[.int .i64 sq] 3);have ib := one_intsC w2 sq 3;replace BZ := btr BZ al;replace q0 := q0.below al;replace ia := ia.below al;clear al;generalize w2.alloc (.cells #[.int .i64 sq] 3) = Y3 at BZ q0 ia ib ⊢;clear hSS;have hSS : (fun X : World => X.cell? ⟨Q, 0, none⟩ = some (.int .i64 cl) /\ X.cell? ⟨Q, 1, none⟩ = some (.int .i64 sq)) Y3 /\ True := ⟨⟨q0.cell 0, q0.cell 1⟩, trivial⟩
   refine kk0 hK (hSS.1) ?_;clear hK;refine wpAnyE_two (i := 4) (j := 8) (by kernel_rfl) rfl rfl (fun Kn hK => ?_) (fun Kn hK => ?_)
   ·go_simp;clear hSS;have hSS : (fun X : World => X.cell? ⟨Q, 0, none⟩ = some (.int .i64 cl) /\ X.cell? ⟨Q, 1, none⟩ = some (.int .i64 sq)) Y3 /\ True := ⟨⟨q0.cell 0, q0.cell 1⟩, trivial⟩
    refine kk0 hK (hSS.1) ?_;clear hK;refine wpAnyE_one (i := 8) (by kernel_rfl) rfl (fun Kn hK => ?_);go_simp;refine (itwn_any wCall _ _ _ [sq] _ ib (by omega) (by decide) (fun i => by match i with | 0 => (simp only [qA, Option.getD_some]; omega) | i + 1 => simp) (fun X hX => HTB.out X (btr BZ hX))).mono ?_;rintro ee w4 ⟨rfl, b9⟩;rw [E3.out];replace BZ := btr BZ b9;replace q0 := q0.below b9;replace ia := ia.below b9;replace ib := ib.below b9;clear b9;dsimp only;clear hSS;have hSS : (fun X : World => X.cell? ⟨Q, 0, none⟩ = some (.int .i64 cl) /\ X.cell? ⟨Q, 1, none⟩ = some (.int .i64 sq)) w4 /\ True := ⟨⟨q0.cell 0, q0.cell 1⟩, trivial⟩
    refine kk0 hK (hSS.1) ?_;clear hK;refine wpAnyE_one (i := 9) (by kernel_rfl) rfl (fun Kn hK => ?_);go_simp;clear hSS;have hSS : (fun X : World => X.cell? ⟨Q, 0, none⟩ = some (.int .i64 cl) /\ X.cell? ⟨Q, 1, none⟩ = some (.int .i64 sq)) w4 /\ True := ⟨⟨q0.cell 0, q0.cell 1⟩, trivial⟩
    refine kk0 hK (hSS.1) ?_;clear hK;refine wpAnyE_one (i := 10) (by kernel_rfl) rfl (fun Kn hK => ?_);go_simp;clear hSS;have hSS : (fun X : World => X.cell? ⟨Q, 0, none⟩ = some (.int .i64 cl) /\ X.cell? ⟨Q, 1, none⟩ = some (.int .i64 sq)) w4 /\ True := ⟨⟨q0.cell 0, q0.cell 1⟩, trivial⟩
    refine kk0 hK (hSS.1) ?_;clear hK;refine wod ?_ _;clear hSS;clear q0 A1 A2
    go_wp2
    go_ret
    exact ⟨rfl, BZ⟩
   go_simp;refine (itwn_any wCall _ _ _ [sq] _ ib (by omega) (by decide) (fun i => by match i with | 0 => (simp only [qA, Option.getD_some]; omega) | i + 1 => simp) (fun X hX => HTB.out X (btr BZ hX))).mono ?_;rintro ee w4 ⟨rfl, b9⟩;rw [E3.out];replace BZ := btr BZ b9;replace q0 := q0.below b9;replace ia := ia.below b9;replace ib := ib.below b9;clear b9;dsimp only;clear hSS;have hSS : (fun X : World => X.cell? ⟨Q, 0, none⟩ = some (.int .i64 cl) /\ X.cell? ⟨Q, 1, none⟩ = some (.int .i64 sq)) w4 /\ True := ⟨⟨q0.cell 0, q0.cell 1⟩, trivial⟩
   refine kk0 hK (hSS.1) ?_;clear hK;refine wpAnyE_one (i := 4) (by kernel_rfl) rfl (fun Kn hK => ?_);go_simp;clear hSS;have hSS : (fun X : World => X.cell? ⟨Q, 0, none⟩ = some (.int .i64 cl) /\ X.cell? ⟨Q, 1, none⟩ = some (.int .i64 sq)) w4 /\ True := ⟨⟨q0.cell 0, q0.cell 1⟩, trivial⟩
   refine kk0 hK (hSS.1) ?_;clear hK;refine wpAnyE_one (i := 9) (by kernel_rfl) rfl (fun Kn hK => ?_);go_simp;clear hSS;have hSS : (fun X : World => X.cell? ⟨Q, 0, none⟩ = some (.int .i64 cl) /\ X.cell? ⟨Q, 1, none⟩ = some (.int .i64 sq)) w4 /\ True := ⟨⟨q0.cell 0, q0.cell 1⟩, trivial⟩
   refine kk0 hK (hSS.1) ?_;clear hK;refine wpAnyE_one (i := 10) (by kernel_rfl) rfl (fun Kn hK => ?_);go_simp;clear hSS;have hSS : (fun X : World => X.cell? ⟨Q, 0, none⟩ = some (.int .i64 cl) /\ X.cell? ⟨Q, 1, none⟩ = some (.int .i64 sq)) w4 /\ True := ⟨⟨q0.cell 0, q0.cell 1⟩, trivial⟩
   refine kk0 hK (hSS.1) ?_;clear hK;refine wod ?_ _;clear hSS;clear q0 A1 A2
   go_wp2
   go_ret
   exact ⟨rfl, BZ⟩
  go_simp;have al := (Below.refl Y1.heap.size Y1).alloc (qF _) (.cells #[.int .i64 sq] 3);have ib := one_intsC Y1 sq 3;replace BZ := btr BZ al;replace q0 := q0.below al;replace ia := ia.below al;clear al;generalize Y1.alloc (.cells #[.int .i64 sq] 3) = Y2 at BZ q0 ia ib ⊢;clear hSS;have hSS : (fun X : World => X.cell? ⟨Q, 0, none⟩ = some (.int .i64 cl) /\ X.cell? ⟨Q, 1, none⟩ = some (.int .i64 sq)) Y2 /\ True := ⟨⟨q0.cell 0, q0.cell 1⟩, trivial⟩
  refine kk0 hK (hSS.1) ?_;clear hK;refine wpAnyE_one (i := 3) (by kernel_rfl) rfl (fun Kn hK => ?_);go_simp;refine (itwn_any wClient _ _ _ [cl] _ ia (by omega) (by decide) (fun i => by match i with | 0 => (simp only [qA, Option.getD_some]; omega) | i + 1 => simp) (fun X hX => HTB.out X (btr BZ hX))).mono ?_;rintro ee w3 ⟨rfl, b9⟩;rw [E1.out];replace BZ := btr BZ b9;replace q0 := q0.below b9;replace ia := ia.below b9;replace ib := ib.below b9;clear b9;dsimp only;clear hSS;have hSS : (fun X : World => X.cell? ⟨Q, 0, none⟩ = some (.int .i64 cl) /\ X.cell? ⟨Q, 1, none⟩ = some (.int .i64 sq)) w3 /\ True := ⟨⟨q0.cell 0, q0.cell 1⟩, trivial⟩
  refine kk0 hK (hSS.1) ?_;clear hK;refine wpAnyE_two (i := 4) (j := 8) (by kernel_rfl) rfl rfl (fun Kn hK => ?_) (fun Kn hK => ?_)
  ·go_simp;clear hSS;have hSS : (fun X : World => X.cell? ⟨Q, 0, none⟩ = some (.int .i64 cl) /\ X.cell? ⟨Q, 1, none⟩ = some (.int .i64 sq)) w3 /\ True := ⟨⟨q0.cell 0, q0.cell 1⟩, trivial⟩
   refine kk0 hK (hSS.1) ?_;clear hK;refine wpAnyE_one (i := 8) (by kernel_rfl) rfl (fun Kn hK => ?_);go_simp;refine (itwn_any wCall _ _ _ [sq] _ ib (by omega) (by decide) (fun i => by match i with | 0 => (simp only [qA, Option.getD_some]; omega) | i + 1 => simp) (fun X hX => HTB.out X (btr BZ hX))).mono ?_;rintro ee w4 ⟨rfl, b9⟩;rw [E3.out];replace BZ := btr BZ b9;replace q0 := q0.below b9;replace ia := ia.below b9;replace ib := ib.below b9;clear b9;dsimp only;clear hSS;have hSS : (fun X : World => X.cell? ⟨Q, 0, none⟩ = some (.int .i64 cl) /\ X.cell? ⟨Q, 1, none⟩ = some (.int .i64 sq)) w4 /\ True := ⟨⟨q0.cell 0, q0.cell 1⟩, trivial⟩
   refine kk0 hK (hSS.1) ?_;clear hK;refine wpAnyE_one (i := 9) (by kernel_rfl) rfl (fun Kn hK => ?_);go_simp;clear hSS;have hSS : (fun X : World => X.cell? ⟨Q, 0, none⟩ = some (.int .i64 cl) /\ X.cell? ⟨Q, 1, none⟩ = some (.int .i64 sq)) w4 /\ True := ⟨⟨q0.cell 0, q0.cell 1⟩, trivial⟩
   refine kk0 hK (hSS.1) ?_;clear hK;refine wpAnyE_one (i := 10) (by kernel_rfl) rfl (fun Kn hK => ?_);go_simp;clear hSS;have hSS : (fun X : World => X.cell? ⟨Q, 0, none⟩ = some (.int .i64 cl) /\ X.cell? ⟨Q, 1, none⟩ = some (.int .i64 sq)) w4 /\ True := ⟨⟨q0.cell 0, q0.cell 1⟩, trivial⟩
   refine kk0 hK (hSS.1) ?_;clear hK;refine wod ?_ _;clear hSS;clear q0 A1 A2
   go_wp2
   go_ret
   exact ⟨rfl, BZ⟩
  go_simp;refine (itwn_any wCall _ _ _ [sq] _ ib (by omega) (by decide) (fun i => by match i with | 0 => (simp only [qA, Option.getD_some]; omega) | i + 1 => simp) (fun X hX => HTB.out X (btr BZ hX))).mono ?_;rintro ee w4 ⟨rfl, b9⟩;rw [E3.out];replace BZ := btr BZ b9;replace q0 := q0.below b9;replace ia := ia.below b9;replace ib := ib.below b9;clear b9;dsimp only;clear hSS;have hSS : (fun X : World => X.cell? ⟨Q, 0, none⟩ = some (.int .i64 cl) /\ X.cell? ⟨Q, 1, none⟩ = some (.int .i64 sq)) w4 /\ True := ⟨⟨q0.cell 0, q0.cell 1⟩, trivial⟩
  refine kk0 hK (hSS.1) ?_;clear hK;refine wpAnyE_one (i := 4) (by kernel_rfl) rfl (fun Kn hK => ?_);go_simp;clear hSS;have hSS : (fun X : World => X.cell? ⟨Q, 0, none⟩ = some (.int .i64 cl) /\ X.cell? ⟨Q, 1, none⟩ = some (.int .i64 sq)) w4 /\ True := ⟨⟨q0.cell 0, q0.cell 1⟩, trivial⟩
  refine kk0 hK (hSS.1) ?_;clear hK;refine wpAnyE_one (i := 9) (by kernel_rfl) rfl (fun Kn hK => ?_);go_simp;clear hSS;have hSS : (fun X : World => X.cell? ⟨Q, 0, none⟩ = some (.int .i64 cl) /\ X.cell? ⟨Q, 1, none⟩ = some (.int .i64 sq)) w4 /\ True := ⟨⟨q0.cell 0, q0.cell 1⟩, trivial⟩
  refine kk0 hK (hSS.1) ?_;clear hK;refine wpAnyE_one (i := 10) (by kernel_rfl) rfl (fun Kn hK => ?_);go_simp;clear hSS;have hSS : (fun X : World => X.cell? ⟨Q, 0, none⟩ = some (.int .i64 cl) /\ X.cell? ⟨Q, 1, none⟩ = some (.int .i64 sq)) w4 /\ True := ⟨⟨q0.cell 0, q0.cell 1⟩, trivial⟩
  refine kk0 hK (hSS.1) ?_;clear hK;refine wod ?_ _;clear hSS;clear q0 A1 A2
  go_wp2
  go_ret
  exact ⟨rfl, BZ⟩
 go_simp;have al := (Below.refl V.heap.size V).alloc (qF _) (.cells #[.int .i64 sq] 3);have ib := one_intsC V sq 3;replace BZ := btr BZ al;replace q0 := q0.below al;clear al;generalize V.alloc (.cells #[.int .i64 sq] 3) = Y1 at BZ q0 ib ⊢;clear hSS;have hSS : (fun X : World => X.cell? ⟨Q, 0, none⟩ = some (.int .i64 cl) /\ X.cell? ⟨Q, 1, none⟩ = some (.int .i64 sq)) Y1 /\ True := ⟨⟨q0.cell 0, q0.cell 1⟩, trivial⟩
 refine kk0 hK (hSS.1) ?_;clear hK;refine wpAnyE_one (i := 2) (by kernel_rfl) rfl (fun Kn hK => ?_);go_simp;have al := (Below.refl Y1.heap.size Y1).alloc (qF _) (.cells #[.int .i64 cl] 3);have ia := one_intsC Y1 cl 3;replace BZ := btr BZ al;replace q0 := q0.below al;replace ib := ib.below al;clear al;generalize Y1.alloc (.cells #[.int .i64 cl] 3) = Y2 at BZ q0 ib ia ⊢;clear hSS;have hSS : (fun X : World => X.cell? ⟨Q, 0, none⟩ = some (.int .i64 cl) /\ X.cell? ⟨Q, 1, none⟩ = some (.int .i64 sq)) Y2 /\ True := ⟨⟨q0.cell 0, q0.cell 1⟩, trivial⟩
 refine kk0 hK (hSS.1) ?_;clear hK;refine wpAnyE_one (i := 3) (by kernel_rfl) rfl (fun Kn hK => ?_);go_simp;refine (itwn_any wClient _ _ _ [cl] _ ia (by omega) (by decide) (fun i => by match i with | 0 => (simp only [qA, Option.getD_some]; omega) | i + 1 => simp) (fun X hX => HTB.out X (btr BZ hX))).mono ?_;rintro ee w3 ⟨rfl, b9⟩;rw [E1.out];replace BZ := btr BZ b9;replace q0 := q0.below b9;replace ib := ib.below b9;replace ia := ia.below b9;clear b9;dsimp only;clear hSS;have hSS : (fun X : World => X.cell? ⟨Q, 0, none⟩ = some (.int .i64 cl) /\ X.cell? ⟨Q, 1, none⟩ = some (.int .i64 sq)) w3 /\ True := ⟨⟨q0.cell 0, q0.cell 1⟩, trivial⟩
 refine kk0 hK (hSS.1) ?_;clear hK;refine wpAnyE_two (i := 4) (j := 8) (by kernel_rfl) rfl rfl (fun Kn hK => ?_) (fun Kn hK => ?_)
 ·go_simp;clear hSS;have hSS : (fun X : World => X.cell? ⟨Q, 0, none⟩ = some (.int .i64 cl) /\ X.cell? ⟨Q, 1, none⟩ = some (.int .i64 sq)) w3 /\ True := ⟨⟨q0.cell 0, q0.cell 1⟩, trivial⟩
  refine kk0 hK (hSS.1) ?_;clear hK;refine wpAnyE_one (i := 8) (by kernel_rfl) rfl (fun Kn hK => ?_);go_simp;refine (itwn_any wCall _ _ _ [sq] _ ib (by omega) (by decide) (fun i => by match i with | 0 => (simp only [qA, Option.getD_some]; omega) | i + 1 => simp) (fun X hX => HTB.out X (btr BZ hX))).mono ?_;rintro ee w4 ⟨rfl, b9⟩;rw [E3.out];replace BZ := btr BZ b9;replace q0 := q0.below b9;replace ib := ib.below b9;replace ia := ia.below b9;clear b9;dsimp only;clear hSS;have hSS : (fun X : World => X.cell? ⟨Q, 0, none⟩ = some (.int .i64 cl) /\ X.cell? ⟨Q, 1, none⟩ = some (.int .i64 sq)) w4 /\ True := ⟨⟨q0.cell 0, q0.cell 1⟩, trivial⟩
  refine kk0 hK (hSS.1) ?_;clear hK;refine wpAnyE_one (i := 9) (by kernel_rfl) rfl (fun Kn hK => ?_);go_simp;clear hSS;have hSS : (fun X : World => X.cell? ⟨Q, 0, none⟩ = some (.int .i64 cl) /\ X.cell? ⟨Q, 1, none⟩ = some (.int .i64 sq)) w4 /\ True := ⟨⟨q0.cell 0, q0.cell 1⟩, trivial⟩
  refine kk0 hK (hSS.1) ?_;clear hK;refine wpAnyE_one (i := 10) (by kernel_rfl) rfl (fun Kn hK => ?_);go_simp;clear hSS;have hSS : (fun X : World => X.cell? ⟨Q, 0, none⟩ = some (.int .i64 cl) /\ X.cell? ⟨Q, 1, none⟩ = some (.int .i64 sq)) w4 /\ True := ⟨⟨q0.cell 0, q0.cell 1⟩, trivial⟩
  refine kk0 hK (hSS.1) ?_;clear hK;refine wod ?_ _;clear hSS;clear q0 A1 A2
  go_wp2
  go_ret
  exact ⟨rfl, BZ⟩
 go_simp;refine (itwn_any wCall _ _ _ [sq] _ ib (by omega) (by decide) (fun i => by match i with | 0 => (simp only [qA, Option.getD_some]; omega) | i + 1 => simp) (fun X hX => HTB.out X (btr BZ hX))).mono ?_;rintro ee w4 ⟨rfl, b9⟩;rw [E3.out];replace BZ := btr BZ b9;replace q0 := q0.below b9;replace ib := ib.below b9;replace ia := ia.below b9;clear b9;dsimp only;clear hSS;have hSS : (fun X : World => X.cell? ⟨Q, 0, none⟩ = some (.int .i64 cl) /\ X.cell? ⟨Q, 1, none⟩ = some (.int .i64 sq)) w4 /\ True := ⟨⟨q0.cell 0, q0.cell 1⟩, trivial⟩
 refine kk0 hK (hSS.1) ?_;clear hK;refine wpAnyE_one (i := 4) (by kernel_rfl) rfl (fun Kn hK => ?_);go_simp;clear hSS;have hSS : (fun X : World => X.cell? ⟨Q, 0, none⟩ = some (.int .i64 cl) /\ X.cell? ⟨Q, 1, none⟩ = some (.int .i64 sq)) w4 /\ True := ⟨⟨q0.cell 0, q0.cell 1⟩, trivial⟩
 refine kk0 hK (hSS.1) ?_;clear hK;refine wpAnyE_one (i := 9) (by kernel_rfl) rfl (fun Kn hK => ?_);go_simp;clear hSS;have hSS : (fun X : World => X.cell? ⟨Q, 0, none⟩ = some (.int .i64 cl) /\ X.cell? ⟨Q, 1, none⟩ = some (.int .i64 sq)) w4 /\ True := ⟨⟨q0.cell 0, q0.cell 1⟩, trivial⟩
 refine kk0 hK (hSS.1) ?_;clear hK;refine wpAnyE_one (i := 10) (by kernel_rfl) rfl (fun Kn hK => ?_);go_simp;clear hSS;have hSS : (fun X : World => X.cell? ⟨Q, 0, none⟩ = some (.int .i64 cl) /\ X.cell? ⟨Q, 1, none⟩ = some (.int .i64 sq)) w4 /\ True := ⟨⟨q0.cell 0, q0.cell 1⟩, trivial⟩
 refine kk0 hK (hSS.1) ?_;clear hK;refine wod ?_ _;clear hSS;clear q0 A1 A2
 go_wp2
 go_ret
 exact ⟨rfl, BZ⟩
theorem JT.lit3 (w : World) (x1 x2 x3 : ByteArray) : JT w (.slice (some ⟨w.heap.size, 0, none⟩) 3 3) [x1, x2, x3] (w.alloc (.cells #[.string x1, .string x2, .string x3] 9)) :=
 ⟨bal, World.ownsRow_lit w #[.string x1, .string x2, .string x3] 3 (qF _) (by unfold maxLen; omega) rfl⟩
theorem cjoin (cl sq ac : Int) (zs : List Int) : Lib.join ([(⟨(casL cl sq).toArray⟩ : ByteArray), ⟨(wAct ++ tailL [ac]).toArray⟩, ⟨(wWith ++ tailL zs).toArray⟩].map (·.data.toList)) [32] = callL cl sq ac zs := by
 rw [List.map_cons, Lib.join_cons, callL, casL, tail_one];simp [Lib.joinTail]
theorem ictext_any (zs : List Int) {w : World} (hC : Ints w a n zs) (hn : n <= 1048576) (hT : Lib.TabBelow Tryz.prog w.heap.size w "internal/strconv.uint64pow10" .u64 Lib.pow10Tab) :
  Calls Tryz.prog 139 #[clV cl sq ac a n cap] w fun e w' => e = .returned (.string ⟨(callText cl sq ac n zs).toArray⟩) /\ Below w.heap.size w w' := by
 have HTB : Hid _ := hT;clear hT;have q_0 := Cel.new w [.int .i64 cl, .int .i64 sq, .int .i64 ac, .slice a n cap] 59;have B_0 := (Below.refl w.heap.size w).alloc (qF _) (.cells #[.int .i64 cl, .int .i64 sq, .int .i64 ac, .slice a n cap] 59);have q_s := q_0.alloc (.cells #[.int .i64 sq] 3);have B_s := B_0.alloc B_0.size (.cells #[.int .i64 sq] 3);have i_s := one_intsC (w.alloc (.cells #[.int .i64 cl, .int .i64 sq, .int .i64 ac, .slice a n cap] 59)) sq 3;rw [World.size_alloc] at i_s;obtain ⟨i0, hi, hz0, hz1, hz2⟩ := info_parts Tryz.infoStr;obtain ⟨x1, hx1⟩ : ∃ x, x = decide (0 <= cl /\ cl < 4) := ⟨_, rfl⟩
 obtain ⟨x2, hx2⟩ : ∃ x, x = betB 1 300 [sq] := ⟨_, rfl⟩
 obtain ⟨x3, hx3⟩ : ∃ x, x = decide (0 <= ac /\ ac < 4) := ⟨_, rfl⟩
 obtain ⟨x4, hx4⟩ : ∃ x, x = okN 2 9 n zs := ⟨_, rfl⟩
 have pl : ∀ z : Int, decide (0 <= z /\ z < 4) = inB z 0 3 := fun z => by
  cases h : inB z 0 3
  ·have := inB_not.1 h; simp; omega
  have := inB_iff.1 h; simp; omega
 have HB : Hid (callOkB cl sq ac n zs = (x1 && (x2 && (x3 && x4)))) := by show _ = _; rw [callOkB, hx1, hx2, hx3, hx4, bet_oneC, pl, pl]
 have H1 : Hid _ := hx1;have H2 : Hid _ := hx2;have H3 : Hid _ := hx3;have H4 : Hid _ := hx4;clear hx1 hx2 hx3 hx4 pl
 go_enter Tryz.func139, Tryz.ntmps139
 go_wp2_with fail
 refine (place_any).mono ?_;rintro e w1 ⟨rfl, rfl⟩;rw [<- H1.out]
 cases x1
 ·go_wp2
  go_ret
  exact ⟨ret_str (callText_no (by rw [HB.out]; rfl)).symm, B_0⟩
 go_wp2_with fail
 refine (between_any [sq] _ _ i_s (by omega)).mono ?_;rintro e w1 ⟨rfl, rfl⟩;rw [<- H2.out];clear i_s q_0
 cases x2
 ·go_wp2
  go_ret
  exact ⟨ret_str (callText_no (by rw [HB.out]; rfl)).symm, B_s⟩
 go_wp2_with fail
 refine (place_any).mono ?_;rintro e w1 ⟨rfl, rfl⟩;rw [<- H3.out]
 cases x3
 ·go_wp2
  go_ret
  exact ⟨ret_str (callText_no (by rw [HB.out]; rfl)).symm, B_s⟩
 go_wp2_with fail
 refine (iarg_any zs (hC.below B_s) hn).mono ?_;rintro e w1 ⟨rfl, rfl⟩;rw [<- H4.out]
 cases x4
 ·go_wp2
  go_ret
  exact ⟨ret_str (callText_no (by rw [HB.out]; rfl)).symm, B_s⟩
 have b1 := of_decide_eq_true H1.out.symm;have b2 := inB_iff.1 ((bet_oneC sq 1 300).symm.trans H2.out.symm);have b3 := of_decide_eq_true H3.out.symm
 have hn2 : (n : Int) = 2 := by
  by_cases h : (n : Int) = 2
  ·exact h
  have := H4.out; rw [okN_not h] at this; cases this
 have hal : allB 9 zs = true := by have := H4.out; rw [okN_is hn2] at this; exact this.symm
 obtain rfl : n = 2 := by omega
 have BZ : Hid (∀ i : Nat, -9 <= zs[i]?.getD 0 /\ zs[i]?.getD 0 <= 9) := allB_bnd' (by omega) hal;have HL : Hid (zs.length = 2) := hC.1;have HT : Hid (callText cl sq ac 2 zs = callL cl sq ac zs) := callText_yes (by rw [HB.out]; rfl);clear hal hn2 HB H1 H2 H3 H4 B_0;obtain ⟨T1, e1⟩ : ∃ T : ByteArray, (⟨(casL cl sq).toArray⟩ : ByteArray) = T := ⟨_, rfl⟩
 obtain ⟨T2, e2⟩ : ∃ T : ByteArray, (⟨(wAct ++ tailL [ac]).toArray⟩ : ByteArray) = T := ⟨_, rfl⟩
 obtain ⟨T3, e3⟩ : ∃ T : ByteArray, (⟨(wWith ++ tailL zs).toArray⟩ : ByteArray) = T := ⟨_, rfl⟩
 have HJE : Hid (Lib.join ([T1, T2, T3].map (·.data.toList)) [32] = callL cl sq ac zs) := by show _ = _; rw [<- e1, <- e2, <- e3]; exact cjoin cl sq ac zs
 have HLE : Hid ((callL cl sq ac zs).length <= 1000) := by
  show _ <= _
  have t1 := tail_len (zs := zs) (fun i => by have := BZ.out i; omega) zs.length (qF _);rw [List.take_length, HL.out] at t1;have u1 := Lib.itoa_length_le cl (by omega) (by omega);have u2 := Lib.itoa_length_le sq (by omega) (by omega);have u3 := Lib.itoa_length_le ac (by omega) (by omega);rw [callL];simp only [qC, qD, qE, wClient, wCall, wAct, wWith]
  omega
 have E1 : Hid _ := e1;have E2 : Hid _ := e2;have E3 : Hid _ := e3;have HZ : Hid (∀ i : Nat, -9 <= zs[i]?.getD 0 /\ zs[i]?.getD 0 <= 9) := BZ.out;clear e1 e2 e3 BZ;have hCs := hC.below B_s;clear hC
 go_upto_region 3 with fail
 obtain ⟨W, hW⟩ : ∃ W, W = (w.alloc (.cells #[.int .i64 cl, .int .i64 sq, .int .i64 ac, .slice a 2 cap] 59)).alloc (.cells #[.int .i64 sq] 3) := ⟨_, rfl⟩
 obtain ⟨Q, hQ⟩ : ∃ Q, Q = w.heap.size := ⟨_, rfl⟩
 rw [<- hQ, <- hW];rw [<- hW] at q_s B_s hCs;rw [<- hQ] at q_s;clear hW hQ;have BZ := B_s;clear B_s;refine wp_region_ends (fun X => X.cell? ⟨Q, 0, none⟩ = some (.int .i64 cl) /\ X.cell? ⟨Q, 1, none⟩ = some (.int .i64 sq) /\ X.cell? ⟨Q, 2, none⟩ = some (.int .i64 ac) /\ X.cell? ⟨Q, 3, none⟩ = some (.slice a 2 cap)) (fun _ => True) 10 (by kernel_rfl) ?_;have dr : Below W.heap.size W W.drew := (Below.refl _ _).drew;replace BZ := btr BZ dr;replace q_s := q_s.below dr;replace hCs := hCs.below dr;clear dr;generalize W.drew = V at BZ q_s hCs ⊢;have hSS : (fun X : World => X.cell? ⟨Q, 0, none⟩ = some (.int .i64 cl) /\ X.cell? ⟨Q, 1, none⟩ = some (.int .i64 sq) /\ X.cell? ⟨Q, 2, none⟩ = some (.int .i64 ac) /\ X.cell? ⟨Q, 3, none⟩ = some (.slice a 2 cap)) V /\ True := ⟨⟨q_s.cell 0, q_s.cell 1, q_s.cell 2, q_s.cell 3⟩, trivial⟩
 refine tkl 0 rfl hSS ?_;refine tkl 2 rfl hSS ?_;refine tkl 3 rfl hSS ?_;refine tkl 6 rfl hSS ?_;simp only [Act.put, List.setIfInBounds_toArray, List.set_cons_succ, List.set_cons_zero, List.getElem_toArray, List.getElem_cons_succ, List.getElem_cons_zero];refine tkl 7 rfl hSS ?_;refine wpAnyE_two (i := 1) (j := 4) (by kernel_rfl) rfl rfl (fun Kn hK => ?_) (fun Kn hK => ?_)
 ·go_simp;refine (icas_any cl sq ac a 2 cap b1 b2 (fun X hX => HTB.out X (btr BZ hX))).mono ?_;rintro ee w1 ⟨rfl, b9⟩;rw [E1.out];replace BZ := btr BZ b9;replace q_s := q_s.below b9;replace hCs := hCs.below b9;clear b9;dsimp only;clear hSS;have hSS : (fun X : World => X.cell? ⟨Q, 0, none⟩ = some (.int .i64 cl) /\ X.cell? ⟨Q, 1, none⟩ = some (.int .i64 sq) /\ X.cell? ⟨Q, 2, none⟩ = some (.int .i64 ac) /\ X.cell? ⟨Q, 3, none⟩ = some (.slice a 2 cap)) w1 /\ True := ⟨⟨q_s.cell 0, q_s.cell 1, q_s.cell 2, q_s.cell 3⟩, trivial⟩
  refine kk0 hK (hSS.1) ?_;clear hK;refine wpAnyE_one (i := 4) (by kernel_rfl) rfl (fun Kn hK => ?_);go_simp;have al := (Below.refl w1.heap.size w1).alloc (qF _) (.cells #[.int .i64 ac] 3);have ia := one_intsC w1 ac 3;replace BZ := btr BZ al;replace q_s := q_s.below al;replace hCs := hCs.below al;clear al;generalize w1.alloc (.cells #[.int .i64 ac] 3) = Y2 at BZ q_s hCs ia ⊢;clear hSS;have hSS : (fun X : World => X.cell? ⟨Q, 0, none⟩ = some (.int .i64 cl) /\ X.cell? ⟨Q, 1, none⟩ = some (.int .i64 sq) /\ X.cell? ⟨Q, 2, none⟩ = some (.int .i64 ac) /\ X.cell? ⟨Q, 3, none⟩ = some (.slice a 2 cap)) Y2 /\ True := ⟨⟨q_s.cell 0, q_s.cell 1, q_s.cell 2, q_s.cell 3⟩, trivial⟩
  refine kk0 hK (hSS.1) ?_;clear hK;refine wpAnyE_one (i := 5) (by kernel_rfl) rfl (fun Kn hK => ?_);go_simp;refine (itwn_any wAct _ _ _ [ac] _ ia (by omega) (by decide) (fun i => by match i with | 0 => (simp only [qA, Option.getD_some]; omega) | i + 1 => simp) (fun X hX => HTB.out X (btr BZ hX))).mono ?_;rintro ee w3 ⟨rfl, b9⟩;rw [E2.out];replace BZ := btr BZ b9;replace q_s := q_s.below b9;replace hCs := hCs.below b9;replace ia := ia.below b9;clear b9;dsimp only;clear hSS;have hSS : (fun X : World => X.cell? ⟨Q, 0, none⟩ = some (.int .i64 cl) /\ X.cell? ⟨Q, 1, none⟩ = some (.int .i64 sq) /\ X.cell? ⟨Q, 2, none⟩ = some (.int .i64 ac) /\ X.cell? ⟨Q, 3, none⟩ = some (.slice a 2 cap)) w3 /\ True := ⟨⟨q_s.cell 0, q_s.cell 1, q_s.cell 2, q_s.cell 3⟩, trivial⟩
  refine kk0 hK (hSS.1) ?_;clear hK;refine wpAnyE_one (i := 8) (by kernel_rfl) rfl (fun Kn hK => ?_);go_simp;refine (itwn_any wWith _ _ _ zs _ hCs (by omega) (by decide) (fun i => by have := HZ.out i; omega) (fun X hX => HTB.out X (btr BZ hX))).mono ?_;rintro ee w4 ⟨rfl, b9⟩;rw [E3.out];replace BZ := btr BZ b9;replace q_s := q_s.below b9;replace hCs := hCs.below b9;replace ia := ia.below b9;clear b9;dsimp only;clear hSS;have hSS : (fun X : World => X.cell? ⟨Q, 0, none⟩ = some (.int .i64 cl) /\ X.cell? ⟨Q, 1, none⟩ = some (.int .i64 sq) /\ X.cell? ⟨Q, 2, none⟩ = some (.int .i64 ac) /\ X.cell? ⟨Q, 3, none⟩ = some (.slice a 2 cap)) w4 /\ True := ⟨⟨q_s.cell 0, q_s.cell 1, q_s.cell 2, q_s.cell 3⟩, trivial⟩
  refine kk0 hK (hSS.1) ?_;clear hK;refine wpAnyE_one (i := 9) (by kernel_rfl) rfl (fun Kn hK => ?_);go_simp;have J0 := JT.lit3 w4 T1 T2 T3;have al := J0.b;have jo := J0;replace BZ := btr BZ al;replace q_s := q_s.below al;replace hCs := hCs.below al;replace ia := ia.below al;clear al;generalize w4.alloc (.cells #[.string T1, .string T2, .string T3] 9) = Y5 at BZ J0 jo q_s hCs ia ⊢;clear hSS;have hSS : (fun X : World => X.cell? ⟨Q, 0, none⟩ = some (.int .i64 cl) /\ X.cell? ⟨Q, 1, none⟩ = some (.int .i64 sq) /\ X.cell? ⟨Q, 2, none⟩ = some (.int .i64 ac) /\ X.cell? ⟨Q, 3, none⟩ = some (.slice a 2 cap)) Y5 /\ True := ⟨⟨q_s.cell 0, q_s.cell 1, q_s.cell 2, q_s.cell 3⟩, trivial⟩
  refine kk0 hK (hSS.1) ?_;clear hK;refine wpAnyE_one (i := 10) (by kernel_rfl) rfl (fun Kn hK => ?_);go_simp;clear hSS;have hSS : (fun X : World => X.cell? ⟨Q, 0, none⟩ = some (.int .i64 cl) /\ X.cell? ⟨Q, 1, none⟩ = some (.int .i64 sq) /\ X.cell? ⟨Q, 2, none⟩ = some (.int .i64 ac) /\ X.cell? ⟨Q, 3, none⟩ = some (.slice a 2 cap)) Y5 /\ True := ⟨⟨q_s.cell 0, q_s.cell 1, q_s.cell 2, q_s.cell 3⟩, trivial⟩
  refine kk0 hK (hSS.1) ?_;clear hK;refine wod ?_ _;clear hSS;clear q_s hCs;obtain ⟨g, gc, eg, hcap, hg, hcs⟩ := J0.cells (k := 3) rfl (by omega);rw [eg];clear eg
  have HJ := Tryz.strings_Join g 0 gc [T1, T2, T3] ⟨#[32]⟩ Y5 hcs hg (by simp) (by simpa using hcap) (by
   rw [show (⟨#[32]⟩ : ByteArray).data.toList = [32] from rfl, HJE.out];have := HLE.out
   omega)
  clear hcs hcap hg J0 jo
  go_wp2_with fail
  refine HJ.mono ?_;rintro e wE ⟨rfl, b9⟩;have B2 := btr BZ b9;rw [HJE.out, <- HT.out];obtain ⟨ZZ, hZZ⟩ : ∃ Z : ByteArray, (⟨(callText cl sq ac 2 zs).toArray⟩ : ByteArray) = Z := ⟨_, rfl⟩
  rw [hZZ];have HZZ : Hid _ := hZZ;clear hZZ HJ
  go_wp2
  go_ret
  exact ⟨by rw [HZZ.out]; rfl, B2⟩
 go_simp;have al := (Below.refl V.heap.size V).alloc (qF _) (.cells #[.int .i64 ac] 3);have ia := one_intsC V ac 3;replace BZ := btr BZ al;replace q_s := q_s.below al;replace hCs := hCs.below al;clear al;generalize V.alloc (.cells #[.int .i64 ac] 3) = Y1 at BZ q_s hCs ia ⊢;clear hSS;have hSS : (fun X : World => X.cell? ⟨Q, 0, none⟩ = some (.int .i64 cl) /\ X.cell? ⟨Q, 1, none⟩ = some (.int .i64 sq) /\ X.cell? ⟨Q, 2, none⟩ = some (.int .i64 ac) /\ X.cell? ⟨Q, 3, none⟩ = some (.slice a 2 cap)) Y1 /\ True := ⟨⟨q_s.cell 0, q_s.cell 1, q_s.cell 2, q_s.cell 3⟩, trivial⟩
 refine kk0 hK (hSS.1) ?_;clear hK;refine wpAnyE_one (i := 1) (by kernel_rfl) rfl (fun Kn hK => ?_);go_simp;refine (icas_any cl sq ac a 2 cap b1 b2 (fun X hX => HTB.out X (btr BZ hX))).mono ?_;rintro ee w2 ⟨rfl, b9⟩;rw [E1.out];replace BZ := btr BZ b9;replace q_s := q_s.below b9;replace hCs := hCs.below b9;replace ia := ia.below b9;clear b9;dsimp only;clear hSS;have hSS : (fun X : World => X.cell? ⟨Q, 0, none⟩ = some (.int .i64 cl) /\ X.cell? ⟨Q, 1, none⟩ = some (.int .i64 sq) /\ X.cell? ⟨Q, 2, none⟩ = some (.int .i64 ac) /\ X.cell? ⟨Q, 3, none⟩ = some (.slice a 2 cap)) w2 /\ True := ⟨⟨q_s.cell 0, q_s.cell 1, q_s.cell 2, q_s.cell 3⟩, trivial⟩
 refine kk0 hK (hSS.1) ?_;clear hK;refine wpAnyE_one (i := 5) (by kernel_rfl) rfl (fun Kn hK => ?_);go_simp;refine (itwn_any wAct _ _ _ [ac] _ ia (by omega) (by decide) (fun i => by match i with | 0 => (simp only [qA, Option.getD_some]; omega) | i + 1 => simp) (fun X hX => HTB.out X (btr BZ hX))).mono ?_;rintro ee w3 ⟨rfl, b9⟩;rw [E2.out];replace BZ := btr BZ b9;replace q_s := q_s.below b9;replace hCs := hCs.below b9;replace ia := ia.below b9;clear b9;dsimp only;clear hSS;have hSS : (fun X : World => X.cell? ⟨Q, 0, none⟩ = some (.int .i64 cl) /\ X.cell? ⟨Q, 1, none⟩ = some (.int .i64 sq) /\ X.cell? ⟨Q, 2, none⟩ = some (.int .i64 ac) /\ X.cell? ⟨Q, 3, none⟩ = some (.slice a 2 cap)) w3 /\ True := ⟨⟨q_s.cell 0, q_s.cell 1, q_s.cell 2, q_s.cell 3⟩, trivial⟩
 refine kk0 hK (hSS.1) ?_;clear hK;refine wpAnyE_one (i := 8) (by kernel_rfl) rfl (fun Kn hK => ?_);go_simp;refine (itwn_any wWith _ _ _ zs _ hCs (by omega) (by decide) (fun i => by have := HZ.out i; omega) (fun X hX => HTB.out X (btr BZ hX))).mono ?_;rintro ee w4 ⟨rfl, b9⟩;rw [E3.out];replace BZ := btr BZ b9;replace q_s := q_s.below b9;replace hCs := hCs.below b9;replace ia := ia.below b9;clear b9;dsimp only;clear hSS;have hSS : (fun X : World => X.cell? ⟨Q, 0, none⟩ = some (.int .i64 cl) /\ X.cell? ⟨Q, 1, none⟩ = some (.int .i64 sq) /\ X.cell? ⟨Q, 2, none⟩ = some (.int .i64 ac) /\ X.cell? ⟨Q, 3, none⟩ = some (.slice a 2 cap)) w4 /\ True := ⟨⟨q_s.cell 0, q_s.cell 1, q_s.cell 2, q_s.cell 3⟩, trivial⟩
 refine kk0 hK (hSS.1) ?_;clear hK;refine wpAnyE_one (i := 9) (by kernel_rfl) rfl (fun Kn hK => ?_);go_simp;have J0 := JT.lit3 w4 T1 T2 T3;have al := J0.b;have jo := J0;replace BZ := btr BZ al;replace q_s := q_s.below al;replace hCs := hCs.below al;replace ia := ia.below al;clear al;generalize w4.alloc (.cells #[.string T1, .string T2, .string T3] 9) = Y5 at BZ J0 jo q_s hCs ia ⊢;clear hSS;have hSS : (fun X : World => X.cell? ⟨Q, 0, none⟩ = some (.int .i64 cl) /\ X.cell? ⟨Q, 1, none⟩ = some (.int .i64 sq) /\ X.cell? ⟨Q, 2, none⟩ = some (.int .i64 ac) /\ X.cell? ⟨Q, 3, none⟩ = some (.slice a 2 cap)) Y5 /\ True := ⟨⟨q_s.cell 0, q_s.cell 1, q_s.cell 2, q_s.cell 3⟩, trivial⟩
 refine kk0 hK (hSS.1) ?_;clear hK;refine wpAnyE_one (i := 10) (by kernel_rfl) rfl (fun Kn hK => ?_);go_simp;clear hSS;have hSS : (fun X : World => X.cell? ⟨Q, 0, none⟩ = some (.int .i64 cl) /\ X.cell? ⟨Q, 1, none⟩ = some (.int .i64 sq) /\ X.cell? ⟨Q, 2, none⟩ = some (.int .i64 ac) /\ X.cell? ⟨Q, 3, none⟩ = some (.slice a 2 cap)) Y5 /\ True := ⟨⟨q_s.cell 0, q_s.cell 1, q_s.cell 2, q_s.cell 3⟩, trivial⟩
 refine kk0 hK (hSS.1) ?_;clear hK;refine wod ?_ _;clear hSS;clear q_s hCs;obtain ⟨g, gc, eg, hcap, hg, hcs⟩ := J0.cells (k := 3) rfl (by omega);rw [eg];clear eg
 have HJ := Tryz.strings_Join g 0 gc [T1, T2, T3] ⟨#[32]⟩ Y5 hcs hg (by simp) (by simpa using hcap) (by
  rw [show (⟨#[32]⟩ : ByteArray).data.toList = [32] from rfl, HJE.out];have := HLE.out
  omega)
 clear hcs hcap hg J0 jo
 go_wp2_with fail
 refine HJ.mono ?_;rintro e wE ⟨rfl, b9⟩;have B2 := btr BZ b9;rw [HJE.out, <- HT.out];obtain ⟨ZZ, hZZ⟩ : ∃ Z : ByteArray, (⟨(callText cl sq ac 2 zs).toArray⟩ : ByteArray) = Z := ⟨_, rfl⟩
 rw [hZZ];have HZZ : Hid _ := hZZ;clear hZZ HJ
 go_wp2
 go_ret
 exact ⟨by rw [HZZ.out]; rfl, B2⟩
def fullC (l : List UInt8) : Bool := !(⟨l.toArray⟩ : ByteArray).toList.isEmpty
theorem full_call (x sq ac : Int) (n : Nat) (zs : List Int) : fullC (callText x sq ac n zs) = callOkB x sq ac n zs := by
 cases h : callOkB x sq ac n zs
 ·rw [callText_no h, fullC, ByteArray.toList_mk]; rfl
 rw [callText_yes h, fullC, ByteArray.toList_mk, callL]; rfl
def inCallB (cl : Int) (N : Nat) (x sq ac : Int) (n : Nat) (zs : List Int) : Bool := inB x 0 (cl - 1) && (inB sq 1 300 && (inB ac 0 (N - 1) && okN 2 9 n zs))
theorem pln_acts {ss : List L2V} {gn : Nat} {G : List Int} {sn : Nat} {S : List Int} (h : plnB cl N ss gn G sn S = true) : 1 <= N /\ N <= 4 := by
 simp only [plnB, catB, Bool.and_eq_true] at h;have h1 := inB_iff.1 h.2.1.1
 omega
theorem inCall_same {x : Int} {zs : List Int} (h1 : cl <= 4) (h2 : N <= 4) : (decide (0 <= x /\ x < cl) && (decide (0 <= ac /\ ac < (N : Int)) && fullC (callText x sq ac n zs))) = inCallB cl N x sq ac n zs := by
 rw [full_call, callOkB, inCallB]
 have e1 : decide (0 <= x /\ x < cl) = inB x 0 (cl - 1) := by
  cases h : inB x 0 (cl - 1)
  ·have := inB_not.1 h; simp; omega
  have := inB_iff.1 h; simp; omega
 have e2 : decide (0 <= ac /\ ac < (N : Int)) = inB ac 0 (N - 1) := by
  cases h : inB ac 0 (N - 1)
  ·have := inB_not.1 h; simp; omega
  have := inB_iff.1 h; simp; omega
 rw [e1, e2]
 cases h : inB x 0 (cl - 1)
 ·simp
 have g1 := inB_iff.1 h;rw [inB_iff.2 (show 0 <= x /\ x <= 3 by omega)]
 cases h' : inB ac 0 (N - 1)
 ·simp
 have g2 := inB_iff.1 h';rw [inB_iff.2 (show 0 <= ac /\ ac <= 3 by omega)];simp
theorem l6call_any {ad : Option Addr} {ga : Option Addr} {gn gc : Nat} {sa : Option Addr} {sn sc : Nat} {x : Int} {cc : Nat} (zs : List Int) {w : World} (hC : Ints w a n zs) (hn : n <= 1048576) (h1 : 1 <= cl /\ cl <= 4) (h2 : 1 <= N /\ N <= 4) :
  Calls Tryz.prog 108 #[plV cl ad N cap ga gn gc sa sn sc, clV x sq ac a n cc] w fun e w' => e = .returned (.bool (inCallB cl N x sq ac n zs)) /\ Below w.heap.size w w' := by
 have B_0 := ((Below.refl w.heap.size w).alloc (qF _) (.cells #[.int .i64 cl, .slice ad N cap, .slice ga gn gc, .slice sa sn sc] 26)).alloc (by simp) (.cells #[.int .i64 x, .int .i64 sq, .int .i64 ac, .slice a n cc] 59);obtain ⟨x1, hx1⟩ : ∃ y, y = inB x 0 (cl - 1) := ⟨_, rfl⟩
 obtain ⟨x2, hx2⟩ : ∃ y, y = inB sq 1 300 := ⟨_, rfl⟩
 obtain ⟨x3, hx3⟩ : ∃ y, y = inB ac 0 ((N : Int) - 1) := ⟨_, rfl⟩
 obtain ⟨x4, hx4⟩ : ∃ y, y = okN 2 9 n zs := ⟨_, rfl⟩
 have HB : Hid (inCallB cl N x sq ac n zs = (x1 && (x2 && (x3 && x4)))) := by show _ = _; rw [inCallB, hx1, hx2, hx3, hx4]
 have H1 : Hid _ := hx1;have H2 : Hid _ := hx2;have H3 : Hid _ := hx3;have H4 : Hid _ := hx4;clear hx1 hx2 hx3 hx4;obtain ⟨c1, c2⟩ := h1;obtain ⟨d1, d2⟩ := h2
 go_enter Tryz.func108, Tryz.ntmps108
 go_wp2_with fail
 refine (in_any).mono ?_;rintro e w1 ⟨rfl, rfl⟩;rw [<- H1.out]
 cases x1
 ·go_wp2
  go_ret
  exact ⟨ret_bool (by rw [HB.out]; rfl), B_0⟩
 go_wp2_with fail
 refine (in_any).mono ?_;rintro e w1 ⟨rfl, rfl⟩;rw [<- H2.out]
 cases x2
 ·go_wp2
  go_ret
  exact ⟨ret_bool (by rw [HB.out]; rfl), B_0⟩
 go_wp2_with fail
 refine (in_any).mono ?_;rintro e w1 ⟨rfl, rfl⟩;rw [<- H3.out]
 cases x3
 ·go_wp2
  go_ret
  exact ⟨ret_bool (by rw [HB.out]; rfl), B_0⟩
 go_wp2_with fail
 refine (sarg_any zs (hC.below B_0) hn).mono ?_;rintro e w1 ⟨rfl, rfl⟩;rw [<- H4.out]
 go_wp2
 go_ret
 exact ⟨ret_bool (by rw [HB.out]; rfl), B_0⟩
theorem icallok_any {ad : Option Addr} (ss : List L2V) {ga : Option Addr} {gn gc : Nat} (G : List Int) {sa : Option Addr} {sn sc : Nat} (S : List Int) {x sq ac : Int} {a : Option Addr} {n cc : Nat} (zs : List Int) {w : World} (h : PlAt w ad N ss ga gn G sa sn S) (hC : Ints w a n zs) (hn : n <= 1048576) (hT : Lib.TabBelow Tryz.prog w.heap.size w "internal/strconv.uint64pow10" .u64 Lib.pow10Tab) :
  Calls Tryz.prog 98 #[plV cl ad N cap ga gn gc sa sn sc, clV x sq ac a n cc] w fun e w' => e = .returned (.bool (plnB cl N ss gn G sn S && inCallB cl N x sq ac n zs)) /\ Below w.heap.size w w' := by
 have HTB : Hid _ := hT;clear hT;have q_0 := (BP.new w [.int .i64 cl, .slice ad N cap, .slice ga gn gc, .slice sa sn sc] 26).alloc (.cells #[.int .i64 x, .int .i64 sq, .int .i64 ac, .slice a n cc] 59);have y_0 := Cel.new (w.alloc (.cells #[.int .i64 cl, .slice ad N cap, .slice ga gn gc, .slice sa sn sc] 26)) [.int .i64 x, .int .i64 sq, .int .i64 ac, .slice a n cc] 59;rw [World.size_alloc] at y_0
 cases hp : plnB cl N ss gn G sn S
 ·have HP : Hid _ := hp;clear hp
  go_enter Tryz.func98, Tryz.ntmps98
  go_wp2_with fail
  refine (iplnok_any _ _ _ _ ss _ _ _ G _ _ _ S ((h.alloc _).alloc _)).mono ?_;rintro e w1 ⟨rfl, b1⟩;rw [HP.out];have q_1 := q_0.below b1
  go_wp2
  go_ret
  exact ⟨ret_bool (by simp), q_1.b⟩
 have pp := (pln_parts hp).1;have pa := pln_acts hp;have HP : Hid _ := hp;clear hp;obtain ⟨x1, hx1⟩ : ∃ y, y = decide (0 <= x /\ x < cl) := ⟨_, rfl⟩
 obtain ⟨x2, hx2⟩ : ∃ y, y = decide (0 <= ac /\ ac < (N : Int)) := ⟨_, rfl⟩
 obtain ⟨T, hx3⟩ : ∃ y : ByteArray, y = ⟨(callText x sq ac n zs).toArray⟩ := ⟨_, rfl⟩
 have HB : Hid (inCallB cl N x sq ac n zs = (x1 && (x2 && !T.toList.isEmpty))) := by show _ = _; rw [<- inCall_same pp.2 pa.2, hx1, hx2, hx3]; rfl
 have H1 : Hid _ := hx1;have H2 : Hid _ := hx2;have H3 : Hid _ := hx3;clear hx1 hx2 hx3
 go_enter Tryz.func98, Tryz.ntmps98
 go_wp2_with fail
 refine (iplnok_any _ _ _ _ ss _ _ _ G _ _ _ S ((h.alloc _).alloc _)).mono ?_;rintro e w1 ⟨rfl, b1⟩;rw [HP.out];have q_1 := q_0.below b1;have y_1 := y_0.below b1;clear q_0 y_0 b1;obtain ⟨c0, c1, c2, c3⟩ := q_1.p.quadP;obtain ⟨d0, d1, d2, d3⟩ := y_1.quadC
 go_wp2_with fail
 refine (place_any).mono ?_;rintro e w2 ⟨rfl, rfl⟩;rw [<- H1.out]
 cases x1
 ·go_wp2
  go_ret
  exact ⟨ret_bool (by rw [HB.out]; rfl), q_1.b⟩
 go_wp2_with fail
 refine (place_any).mono ?_;rintro e w2 ⟨rfl, rfl⟩;rw [<- H2.out]
 cases x2
 ·go_wp2
  go_ret
  exact ⟨ret_bool (by rw [HB.out]; rfl), q_1.b⟩
 have B_1 := q_1.b
 go_wp2_with fail
 refine (ictext_any zs (hC.below q_1.b) hn (fun w' h' => HTB.out w' (btr B_1 h'))).mono ?_;rintro e w2 ⟨rfl, b2⟩;rw [<- H3.out];have q_2 := q_1.below b2;clear c0 c1 c2 c3 d0 d1 d2 d3 q_1 y_1 B_1 b2
 go_wp2
 go_ret
 exact ⟨ret_bool (by rw [HB.out]; rfl), q_2.b⟩
theorem itext_any (zs : List Int) {w : World} (hC : Ints w a n zs) (hn : n <= 1048576) (hT : Lib.TabBelow Tryz.prog w.heap.size w "internal/strconv.uint64pow10" .u64 Lib.pow10Tab) :
  Calls Tryz.prog 141 #[resP c a n cap] w fun e w' => e = .returned (.string ⟨(resText c n zs).toArray⟩) /\ Below w.heap.size w w' := by
 have HL : Hid (zs.length = n) := hC.1;have HTB : Hid _ := hT;clear hT;have B0 := (Below.refl w.heap.size w).alloc (qF _) (.cells #[.int .i64 c, .slice a n cap] 54);obtain ⟨i0, hi, hz0, hz1, hz2⟩ := info_parts Tryz.infoStr
 cases h1 : inB c 1 3
 ·have HR : Hid _ := resText_no (c := c) (n := n) (zs := zs) (by simp [resOkB, h1]);have c13 := inB_not.1 h1;have hw : (⟨(wordL c).toArray⟩ : ByteArray) = ⟨#[]⟩ := by rw [wordL, if_neg (by omega), if_neg (by omega), if_neg (by omega)]
  have HW : Hid _ := hw;clear hw h1
  go_enter Tryz.func141, Tryz.ntmps141
  go_wp2_with fail
  refine (word_any).mono ?_;rintro e w1 ⟨rfl, rfl⟩;rw [HW.out]
  go_wp2
  go_ret
  exact ⟨by rw [HR.out]; rfl, B0⟩
 have c13 := inB_iff.1 h1
 by_cases h2 : c = 1 \/ n = 0
 ·by_cases h3 : n <= 6
  ·cases h4 : allB 999999999999 zs
   ·have HR : Hid _ := resText_no (c := c) (n := n) (zs := zs) (by simp [resOkB, h4])
    rcases h2 with rfl | rfl
    ·go_enter Tryz.func141, Tryz.ntmps141
     go_wp2_with fail
     refine (word_any).mono ?_;rintro e w1 ⟨rfl, rfl⟩;rw [show (⟨(wordL 1).toArray⟩ : ByteArray) = ⟨#[100, 111, 110, 101]⟩ from rfl]
     go_wp2_with fail
     refine (within_any _ _ _ zs (hC.below B0) hn).mono ?_;rintro e w1 ⟨rfl, rfl⟩;rw [h4]
     go_wp2
     go_ret
     exact ⟨by rw [HR.out]; rfl, B0⟩
    exfalso
    have : zs = [] := List.eq_nil_of_length_eq_zero HL.out;subst this
    cases h4
   have H4 : Hid (allB 999999999999 zs = true) := h4;have HR : Hid _ := resText_yes (c := c) (n := n) (zs := zs) (by simp [resOkB, h1, h2, h3, h4]);have BZ : Hid (∀ i : Nat, -999999999999 <= zs[i]?.getD 0 /\ zs[i]?.getD 0 <= 999999999999) := allB_bnd' (by omega) h4;clear h1 h4
   by_cases e1 : c = 1
   ·subst e1;clear h2
    go_enter Tryz.func141, Tryz.ntmps141
    go_wp2_with fail
    refine (word_any).mono ?_;rintro e w1 ⟨rfl, rfl⟩;rw [show (⟨(wordL 1).toArray⟩ : ByteArray) = ⟨#[100, 111, 110, 101]⟩ from rfl]
    go_wp2_with fail
    refine (within_any _ _ _ zs (hC.below B0) hn).mono ?_;rintro e w1 ⟨rfl, rfl⟩;rw [H4.out];obtain ⟨W, hW⟩ : ∃ W, W = w.alloc (.cells #[.int .i64 1, .slice a n cap] 54) := ⟨_, rfl⟩
    have bx : Cel W w.heap.size [.int .i64 1, .slice a n cap] 54 := by rw [hW]; exact Cel.new w _ _
    rw [<- hW] at B0 ⊢;clear hW;have k1 := bx.cell 1;simp only [qA, qB] at k1;have hCW := hC.below B0;clear hC
    go_wp2_with fail
    refine (itwn_any (wordL 1) a n cap zs W hCW (by omega) (by have := word_len 1; omega) BZ.out (fun X hX => HTB.out X (btr B0 hX))).mono ?_;rintro e w2 ⟨rfl, b2⟩;have B2 := btr B0 b2;obtain ⟨Z, hZ⟩ : ∃ Z : ByteArray, Z = ⟨(wordL 1 ++ tailL zs).toArray⟩ := ⟨_, rfl⟩
    have HZ : Hid (Z = ⟨(wordL 1 ++ tailL zs).toArray⟩) := hZ;rw [<- hZ];clear hZ k1 bx hCW
    go_wp2
    go_ret
    exact ⟨by rw [HR.out, HZ.out]; rfl, B2⟩
   have hn0 : n <= 0 := by omega
   have hn0' : ((n : Int) == 0) = true := by simp; omega
   clear h2
   by_cases e2 : c = 2
   ·subst e2
    go_enter Tryz.func141, Tryz.ntmps141
    go_wp2_with fail
    refine (word_any).mono ?_;rintro e w1 ⟨rfl, rfl⟩;rw [show (⟨(wordL 2).toArray⟩ : ByteArray) = ⟨#[115, 116, 111, 112, 112, 101, 100]⟩ from rfl]
    go_wp2_with fail
    refine (within_any _ _ _ zs (hC.below B0) hn).mono ?_;rintro e w1 ⟨rfl, rfl⟩;rw [H4.out];obtain ⟨W, hW⟩ : ∃ W, W = w.alloc (.cells #[.int .i64 2, .slice a n cap] 54) := ⟨_, rfl⟩
    have bx : Cel W w.heap.size [.int .i64 2, .slice a n cap] 54 := by rw [hW]; exact Cel.new w _ _
    rw [<- hW] at B0 ⊢;clear hW;have k1 := bx.cell 1;simp only [qA, qB] at k1;have hCW := hC.below B0;clear hC
    go_wp2_with fail
    refine (itwn_any (wordL 2) a n cap zs W hCW (by omega) (by have := word_len 2; omega) BZ.out (fun X hX => HTB.out X (btr B0 hX))).mono ?_;rintro e w2 ⟨rfl, b2⟩;have B2 := btr B0 b2;obtain ⟨Z, hZ⟩ : ∃ Z : ByteArray, Z = ⟨(wordL 2 ++ tailL zs).toArray⟩ := ⟨_, rfl⟩
    have HZ : Hid (Z = ⟨(wordL 2 ++ tailL zs).toArray⟩) := hZ;rw [<- hZ];clear hZ k1 bx hCW
    go_wp2
    go_ret
    exact ⟨by rw [HR.out, HZ.out]; rfl, B2⟩
   obtain rfl : c = 3 := by omega
   go_enter Tryz.func141, Tryz.ntmps141
   go_wp2_with fail
   refine (word_any).mono ?_;rintro e w1 ⟨rfl, rfl⟩;rw [show (⟨(wordL 3).toArray⟩ : ByteArray) = ⟨#[111, 118, 101, 114]⟩ from rfl]
   go_wp2_with fail
   refine (within_any _ _ _ zs (hC.below B0) hn).mono ?_;rintro e w1 ⟨rfl, rfl⟩;rw [H4.out];obtain ⟨W, hW⟩ : ∃ W, W = w.alloc (.cells #[.int .i64 3, .slice a n cap] 54) := ⟨_, rfl⟩
   have bx : Cel W w.heap.size [.int .i64 3, .slice a n cap] 54 := by rw [hW]; exact Cel.new w _ _
   rw [<- hW] at B0 ⊢;clear hW;have k1 := bx.cell 1;simp only [qA, qB] at k1;have hCW := hC.below B0;clear hC
   go_wp2_with fail
   refine (itwn_any (wordL 3) a n cap zs W hCW (by omega) (by have := word_len 3; omega) BZ.out (fun X hX => HTB.out X (btr B0 hX))).mono ?_;rintro e w2 ⟨rfl, b2⟩;have B2 := btr B0 b2;obtain ⟨Z, hZ⟩ : ∃ Z : ByteArray, Z = ⟨(wordL 3 ++ tailL zs).toArray⟩ := ⟨_, rfl⟩
   have HZ : Hid (Z = ⟨(wordL 3 ++ tailL zs).toArray⟩) := hZ;rw [<- hZ];clear hZ k1 bx hCW
   go_wp2
   go_ret
   exact ⟨by rw [HR.out, HZ.out]; rfl, B2⟩
  have HR : Hid _ := resText_no (c := c) (n := n) (zs := zs) (by simp [resOkB, h3]);obtain rfl : c = 1 := by omega
  go_enter Tryz.func141, Tryz.ntmps141
  go_wp2_with fail
  refine (word_any).mono ?_;rintro e w1 ⟨rfl, rfl⟩;rw [show (⟨(wordL 1).toArray⟩ : ByteArray) = ⟨#[100, 111, 110, 101]⟩ from rfl]
  go_wp2
  go_ret
  exact ⟨by rw [HR.out]; rfl, B0⟩
 have HR : Hid _ := resText_no (c := c) (n := n) (zs := zs) (by simp [resOkB, h2]);have hn0 : ((n : Int) == 0) = false := by simp; omega
 clear h1
 by_cases e2 : c = 2
 ·subst e2
  go_enter Tryz.func141, Tryz.ntmps141
  go_wp2_with fail
  refine (word_any).mono ?_;rintro e w1 ⟨rfl, rfl⟩;rw [show (⟨(wordL 2).toArray⟩ : ByteArray) = ⟨#[115, 116, 111, 112, 112, 101, 100]⟩ from rfl]
  go_wp2
  go_ret
  exact ⟨by rw [HR.out]; rfl, B0⟩
 obtain rfl : c = 3 := by omega
 go_enter Tryz.func141, Tryz.ntmps141
 go_wp2_with fail
 refine (word_any).mono ?_;rintro e w1 ⟨rfl, rfl⟩;rw [show (⟨(wordL 3).toArray⟩ : ByteArray) = ⟨#[111, 118, 101, 114]⟩ from rfl]
 go_wp2
 go_ret
 exact ⟨by rw [HR.out]; rfl, B0⟩
def fullB (l : List UInt8) : Bool := !(⟨l.toArray⟩ : ByteArray).toList.isEmpty
theorem sresok_any (zs : List Int) {w : World} (hC : Ints w a n zs) (hn : n <= 1048576) :
  Calls Tryz.prog 109 #[resP c a n cap] w fun e w' => e = .returned (.bool (fullB (resText c n zs))) /\ Below w.heap.size w w' := by
 obtain ⟨T, hTx⟩ : ∃ T : ByteArray, T = ⟨(resText c n zs).toArray⟩ := ⟨_, rfl⟩
 have HTX : Hid _ := hTx;clear hTx;have B0 := (Below.refl w.heap.size w).alloc (qF _) (.cells #[.int .i64 c, .slice a n cap] 54)
 go_enter Tryz.func109, Tryz.ntmps109
 go_wp2_with fail
 refine (stext_any zs (hC.alloc _) hn).mono ?_;rintro e w1 ⟨rfl, b1⟩;rw [<- HTX.out]
 go_wp2
 go_ret
 exact ⟨by rw [fullB, <- HTX.out]; rfl, btr B0 b1⟩
theorem iresok_any (zs : List Int) {w : World} (hC : Ints w a n zs) (hn : n <= 1048576) (hT : Lib.TabBelow Tryz.prog w.heap.size w "internal/strconv.uint64pow10" .u64 Lib.pow10Tab) :
  Calls Tryz.prog 106 #[resP c a n cap] w fun e w' => e = .returned (.bool (fullB (resText c n zs))) /\ Below w.heap.size w w' := by
 obtain ⟨T, hTx⟩ : ∃ T : ByteArray, T = ⟨(resText c n zs).toArray⟩ := ⟨_, rfl⟩
 have HTX : Hid _ := hTx;have HT : Hid _ := hT;clear hTx hT;have B0 := (Below.refl w.heap.size w).alloc (qF _) (.cells #[.int .i64 c, .slice a n cap] 54)
 go_enter Tryz.func106, Tryz.ntmps106
 go_wp2_with fail
 refine (itext_any zs (hC.alloc _) hn (fun w' h' => HT.out w' (btr B0 h'))).mono ?_;rintro e w1 ⟨rfl, b1⟩;rw [<- HTX.out]
 go_wp2
 go_ret
 exact ⟨by rw [fullB, <- HTX.out]; rfl, btr B0 b1⟩
end Go.Proofs.YtpmihhbgjimpmaaGreatDoor
