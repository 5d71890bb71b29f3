/-
  The text of a call, as the program writes it: the same. Lengths at most 1048576; the library's table of powers of ten is as its text lays it.
-/
import Derived.Test.YtfmpcihghlnlnaaGreatDoorQj
namespace Go.Proofs.YtfmpcihghlnlnaaGreatDoor
open Go.RowKit
open List renaming getElem?_cons_zero → qA, length_append → qB, length_cons → qC, length_nil → qD
open Nat renaming le_refl → qE
set_option linter.unusedVariables false
set_option maxRecDepth 100000
set_option maxHeartbeats 25600000
theorem one_intsC (w : World) (x : Int) (t : TypeId) : Ints (w.alloc (.cells #[.int .i64 x] t)) (some ⟨w.heap.size, 0, none⟩) 1 [x] :=
 ⟨rfl, fun i hi => ⟨w.heap.size, 0, rfl, by
  obtain rfl : i = 0 := by omega
  simp [go_sem]⟩⟩
theorem bet_oneC (x lo hi : Int) : betB lo hi [x] = inB x lo hi := by simp [betB]
theorem tail_one (x : Int) : tailL [x] = [32] ++ Lib.itoa x := by simp [tailL, Lib.joinTail]
def casL (cl sq : Int) : List UInt8 := wClient ++ ([32] ++ Lib.itoa cl) ++ [32] ++ (wCall ++ ([32] ++ Lib.itoa sq))
theorem ba_app (x y : List UInt8) : (⟨x.toArray⟩ : ByteArray) ++ (⟨y.toArray⟩ : ByteArray) = ⟨(x ++ y).toArray⟩ := by
 apply ByteArray.ext
 simp
theorem ba_len (x : List UInt8) : (⟨x.toArray⟩ : ByteArray).size = x.length := by simp [ByteArray.size]
theorem run_add (X : World) {x : List UInt8} (y : List UInt8) (h : x.length + y.length <= 100000) : (Op.stringOp .add (⟨x.toArray⟩ : ByteArray) (⟨y.toArray⟩ : ByteArray)).run Tryz.prog X = .ok (.string ⟨(x ++ y).toArray⟩) X := by
 have h2 : (⟨x.toArray⟩ : ByteArray).size + (⟨y.toArray⟩ : ByteArray).size <= maxLen := by rw [ba_len, ba_len]; unfold maxLen; omega
 rw [run_string_add_sum X _ _ h2, ba_app]
theorem icas_any (cl sq ac : Int) (a : Option Addr) (n cap : Nat) {w : World} (h1 : 0 <= cl /\ cl < 4) (h2 : 1 <= sq /\ sq <= 300) (hT : Lib.TabBelow Tryz.prog w.heap.size w "internal/strconv.uint64pow10" .u64 Lib.pow10Tab) :
  Calls Tryz.prog 84 #[clV cl sq ac a n cap] w fun e w' => e = .returned (.string ⟨(casL cl sq).toArray⟩) /\ Below w.heap.size w w' := by
 have HTB : Hid _ := hT;clear hT;have q0 := Cel.new w [.int .i64 cl, .int .i64 sq, .int .i64 ac, .slice a n cap] 43;have BZ := (Below.refl w.heap.size w).alloc (qE _) (.cells #[.int .i64 cl, .int .i64 sq, .int .i64 ac, .slice a n cap] 43);have l1 := Lib.itoa_length_le cl (by omega) (by omega);have l2 := Lib.itoa_length_le sq (by omega) (by omega);obtain ⟨T1, e1⟩ : ∃ T : ByteArray, (⟨(wClient ++ tailL [cl]).toArray⟩ : ByteArray) = T := ⟨_, rfl⟩
 obtain ⟨T2, e2⟩ : ∃ T : ByteArray, (⟨(wClient ++ tailL [cl] ++ [32]).toArray⟩ : ByteArray) = T := ⟨_, rfl⟩
 obtain ⟨T3, e3⟩ : ∃ T : ByteArray, (⟨(wCall ++ tailL [sq]).toArray⟩ : ByteArray) = T := ⟨_, rfl⟩
 obtain ⟨T4, e4⟩ : ∃ T : ByteArray, (⟨(casL cl sq).toArray⟩ : ByteArray) = T := ⟨_, rfl⟩
 have A1 : ∀ X : World, (Op.stringOp .add (T1 : ByteArray) (⟨#[32]⟩ : ByteArray)).run Tryz.prog X = .ok (.string T2) X := fun X => by
  rw [<- e1, <- e2]
  exact run_add X [32] (by rw [tail_one]; simp only [qB, qC, qD, wClient]; omega)
 have A2 : ∀ X : World, (Op.stringOp .add (T2 : ByteArray) (T3 : ByteArray)).run Tryz.prog X = .ok (.string T4) X := fun X => by
  rw [<- e2, <- e3, <- e4];rw [run_add X _ (by rw [tail_one, tail_one]; simp only [qB, qC, qD, wClient, wCall]; omega)];rw [tail_one, tail_one, casL]
 have E1 : Hid _ := e1;have E3 : Hid _ := e3;rw [e4];clear e1 e2 e3 e4 l1 l2
 go_enter Tryz.func84, Tryz.ntmps84
 go_upto_region 1 with fail
 obtain ⟨W, hW⟩ : ∃ W, W = w.alloc (.cells #[.int .i64 cl, .int .i64 sq, .int .i64 ac, .slice a n cap] 43) := ⟨_, rfl⟩
 obtain ⟨Q, hQ⟩ : ∃ Q, Q = w.heap.size := ⟨_, rfl⟩
 rw [<- hQ, <- hW];rw [<- hW] at q0 BZ;rw [<- hQ] at q0;clear hW hQ;refine wp_region_ends (fun X => X.cell? ⟨Q, 0, none⟩ = some (.int .i64 cl) /\ X.cell? ⟨Q, 1, none⟩ = some (.int .i64 sq)) (fun _ => True) 10 (by kernel_rfl) ?_;have dr : Below W.heap.size W W.drew := (Below.refl _ _).drew;replace BZ := btr BZ dr;replace q0 := q0.below dr;clear dr;generalize W.drew = V at BZ q0 ⊢;have hSS : (fun X : World => X.cell? ⟨Q, 0, none⟩ = some (.int .i64 cl) /\ X.cell? ⟨Q, 1, none⟩ = some (.int .i64 sq)) V /\ True := ⟨⟨q0.cell 0, q0.cell 1⟩, trivial⟩
 refine tkl 0 rfl hSS ?_;refine tkl 1 rfl hSS ?_;refine tkl 5 rfl hSS ?_;refine tkl 6 rfl hSS ?_;simp only [Act.put, List.setIfInBounds_toArray, List.set_cons_succ, List.set_cons_zero, List.getElem_toArray, List.getElem_cons_succ, List.getElem_cons_zero];refine wpAnyE_two (i := 2) (j := 7) (by kernel_rfl) rfl rfl (fun Kn hK => ?_) (fun Kn hK => ?_)
 ·go_simp;have al := (Below.refl V.heap.size V).alloc (qE _) (.cells #[.int .i64 cl] 3);have ia := one_intsC V cl 3;replace BZ := btr BZ al;replace q0 := q0.below al;clear al;generalize V.alloc (.cells #[.int .i64 cl] 3) = Y1 at BZ q0 ia ⊢;clear hSS;have hSS : (fun X : World => X.cell? ⟨Q, 0, none⟩ = some (.int .i64 cl) /\ X.cell? ⟨Q, 1, none⟩ = some (.int .i64 sq)) Y1 /\ True := ⟨⟨q0.cell 0, q0.cell 1⟩, trivial⟩
  refine kk0 hK (hSS.1) ?_;clear hK;refine wpAnyE_two (i := 3) (j := 7) (by kernel_rfl) rfl rfl (fun Kn hK => ?_) (fun Kn hK => ?_)
  ·go_simp;refine (itwn_any wClient _ _ _ [cl] _ ia (by omega) (by decide) (fun i => by match i with | 0 => (simp only [qA, Option.getD_some]; omega) | i + 1 => simp) (fun X hX => HTB.out X (btr BZ hX))).mono ?_;rintro ee w2 ⟨rfl, b9⟩;rw [E1.out];replace BZ := btr BZ b9;replace q0 := q0.below b9;replace ia := ia.below b9;clear b9;dsimp only;clear hSS;have hSS : (fun X : World => X.cell? ⟨Q, 0, none⟩ = some (.int .i64 cl) /\ X.cell? ⟨Q, 1, none⟩ = some (.int .i64 sq)) w2 /\ True := ⟨⟨q0.cell 0, q0.cell 1⟩, trivial⟩
   refine kk0 hK (hSS.1) ?_;clear hK;refine wpAnyE_two (i := 4) (j := 7) (by kernel_rfl) rfl rfl (fun Kn hK => ?_) (fun Kn hK => ?_)
   ·go_simp;clear hSS;have hSS : (fun X : World => X.cell? ⟨Q, 0, none⟩ = some (.int .i64 cl) /\ X.cell? ⟨Q, 1, none⟩ = some (.int .i64 sq)) w2 /\ True := ⟨⟨q0.cell 0, q0.cell 1⟩, trivial⟩
    refine kk0 hK (hSS.1) ?_;clear hK;refine wpAnyE_one (i := 7) (by kernel_rfl) rfl (fun Kn hK => ?_);go_simp;have al := (Below.refl w2.heap.size w2).alloc (qE _) (.cells #[.int .i64 sq] 3);have ib := one_intsC w2 sq 3;replace BZ := btr BZ al;replace q0 := q0.below al;replace ia := ia.below al;clear al;generalize w2.alloc (.cells #[.int .i64 sq] 3) = Y3 at BZ q0 ia ib ⊢;clear hSS;have hSS : (fun X : World => X.cell? ⟨Q, 0, none⟩ = some (.int .i64 cl) /\ X.cell? ⟨Q, 1, none⟩ = some (.int .i64 sq)) Y3 /\ True := ⟨⟨q0.cell 0, q0.cell 1⟩, trivial⟩
    refine kk0 hK (hSS.1) ?_;clear hK;refine wpAnyE_one (i := 8) (by kernel_rfl) rfl (fun Kn hK => ?_);go_simp;refine (itwn_any wCall _ _ _ [sq] _ ib (by omega) (by decide) (fun i => by match i with | 0 => (simp only [qA, Option.getD_some]; omega) | i + 1 => simp) (fun X hX => HTB.out X (btr BZ hX))).mono ?_;rintro ee w4 ⟨rfl, b9⟩;rw [E3.out];replace BZ := btr BZ b9;replace q0 := q0.below b9;replace ia := ia.below b9;replace ib := ib.below b9;clear b9;dsimp only;clear hSS;have hSS : (fun X : World => X.cell? ⟨Q, 0, none⟩ = some (.int .i64 cl) /\ X.cell? ⟨Q, 1, none⟩ = some (.int .i64 sq)) w4 /\ True := ⟨⟨q0.cell 0, q0.cell 1⟩, trivial⟩
    refine kk0 hK (hSS.1) ?_;clear hK;refine wpAnyE_one (i := 9) (by kernel_rfl) rfl (fun Kn hK => ?_);go_simp;clear hSS;have hSS : (fun X : World => X.cell? ⟨Q, 0, none⟩ = some (.int .i64 cl) /\ X.cell? ⟨Q, 1, none⟩ = some (.int .i64 sq)) w4 /\ True := ⟨⟨q0.cell 0, q0.cell 1⟩, trivial⟩
    refine kk0 hK (hSS.1) ?_;clear hK;refine wpAnyE_one (i := 10) (by kernel_rfl) rfl (fun Kn hK => ?_);go_simp;clear hSS;have hSS : (fun X : World => X.cell? ⟨Q, 0, none⟩ = some (.int .i64 cl) /\ X.cell? ⟨Q, 1, none⟩ = some (.int .i64 sq)) w4 /\ True := ⟨⟨q0.cell 0, q0.cell 1⟩, trivial⟩
    refine kk0 hK (hSS.1) ?_;clear hK;refine wod ?_ _;clear hSS;clear q0 A1 A2
    go_wp2
    go_ret
    exact ⟨rfl, BZ⟩
   go_simp;have al := (Below.refl w2.heap.size w2).alloc (qE _) (.cells #[.int .i64 sq] 3);have ib := one_intsC w2 sq 3;replace BZ := btr BZ al;replace q0 := q0.below al;replace ia := ia.below al;clear al;generalize w2.alloc (.cells #[.int .i64 sq] 3) = Y3 at BZ q0 ia ib ⊢;clear hSS;have hSS : (fun X : World => X.cell? ⟨Q, 0, none⟩ = some (.int .i64 cl) /\ X.cell? ⟨Q, 1, none⟩ = some (.int .i64 sq)) Y3 /\ True := ⟨⟨q0.cell 0, q0.cell 1⟩, trivial⟩
   refine kk0 hK (hSS.1) ?_;clear hK;refine wpAnyE_two (i := 4) (j := 8) (by kernel_rfl) rfl rfl (fun Kn hK => ?_) (fun Kn hK => ?_)
   ·go_simp;clear hSS;have hSS : (fun X : World => X.cell? ⟨Q, 0, none⟩ = some (.int .i64 cl) /\ X.cell? ⟨Q, 1, none⟩ = some (.int .i64 sq)) Y3 /\ True := ⟨⟨q0.cell 0, q0.cell 1⟩, trivial⟩
    refine kk0 hK (hSS.1) ?_;clear hK;refine wpAnyE_one (i := 8) (by kernel_rfl) rfl (fun Kn hK => ?_);go_simp;refine (itwn_any wCall _ _ _ [sq] _ ib (by omega) (by decide) (fun i => by match i with | 0 => (simp only [qA, Option.getD_some]; omega) | i + 1 => simp) (fun X hX => HTB.out X (btr BZ hX))).mono ?_;rintro ee w4 ⟨rfl, b9⟩;rw [E3.out];replace BZ := btr BZ b9;replace q0 := q0.below b9;replace ia := ia.below b9;replace ib := ib.below b9;clear b9;dsimp only;clear hSS;have hSS : (fun X : World => X.cell? ⟨Q, 0, none⟩ = some (.int .i64 cl) /\ X.cell? ⟨Q, 1, none⟩ = some (.int .i64 sq)) w4 /\ True := ⟨⟨q0.cell 0, q0.cell 1⟩, trivial⟩
    refine kk0 hK (hSS.1) ?_;clear hK;refine wpAnyE_one (i := 9) (by kernel_rfl) rfl (fun Kn hK => ?_);go_simp;clear hSS;have hSS : (fun X : World => X.cell? ⟨Q, 0, none⟩ = some (.int .i64 cl) /\ X.cell? ⟨Q, 1, none⟩ = some (.int .i64 sq)) w4 /\ True := ⟨⟨q0.cell 0, q0.cell 1⟩, trivial⟩
    refine kk0 hK (hSS.1) ?_;clear hK;refine wpAnyE_one (i := 10) (by kernel_rfl) rfl (fun Kn hK => ?_);go_simp;clear hSS;have hSS : (fun X : World => X.cell? ⟨Q, 0, none⟩ = some (.int .i64 cl) /\ X.cell? ⟨Q, 1, none⟩ = some (.int .i64 sq)) w4 /\ True := ⟨⟨q0.cell 0, q0.cell 1⟩, trivial⟩
    refine kk0 hK (hSS.1) ?_;clear hK;refine wod ?_ _;clear hSS;clear q0 A1 A2
    go_wp2
    go_ret
    exact ⟨rfl, BZ⟩
   go_simp;refine (itwn_any wCall _ _ _ [sq] _ ib (by omega) (by decide) (fun i => by match i with | 0 => (simp only [qA, Option.getD_some]; omega) | i + 1 => simp) (fun X hX => HTB.out X (btr BZ hX))).mono ?_;rintro ee w4 ⟨rfl, b9⟩;rw [E3.out];replace BZ := btr BZ b9;replace q0 := q0.below b9;replace ia := ia.below b9;replace ib := ib.below b9;clear b9;dsimp only;clear hSS;have hSS : (fun X : World => X.cell? ⟨Q, 0, none⟩ = some (.int .i64 cl) /\ X.cell? ⟨Q, 1, none⟩ = some (.int .i64 sq)) w4 /\ True := ⟨⟨q0.cell 0, q0.cell 1⟩, trivial⟩
   refine kk0 hK (hSS.1) ?_;clear hK;refine wpAnyE_one (i := 4) (by kernel_rfl) rfl (fun Kn hK => ?_);go_simp;clear hSS;have hSS : (fun X : World => X.cell? ⟨Q, 0, none⟩ = some (.int .i64 cl) /\ X.cell? ⟨Q, 1, none⟩ = some (.int .i64 sq)) w4 /\ True := ⟨⟨q0.cell 0, q0.cell 1⟩, trivial⟩
   refine kk0 hK (hSS.1) ?_;clear hK;refine wpAnyE_one (i := 9) (by kernel_rfl) rfl (fun Kn hK => ?_);go_simp;clear hSS;have hSS : (fun X : World => X.cell? ⟨Q, 0, none⟩ = some (.int .i64 cl) /\ X.cell? ⟨Q, 1, none⟩ = some (.int .i64 sq)) w4 /\ True := ⟨⟨q0.cell 0, q0.cell 1⟩, trivial⟩
   refine kk0 hK (hSS.1) ?_;clear hK;refine wpAnyE_one (i := 10) (by kernel_rfl) rfl (fun Kn hK => ?_);go_simp;clear hSS;have hSS : (fun X : World => X.cell? ⟨Q, 0, none⟩ = some (.int .i64 cl) /\ X.cell? ⟨Q, 1, none⟩ = some (.int .i64 sq)) w4 /\ True := ⟨⟨q0.cell 0, q0.cell 1⟩, trivial⟩
   refine kk0 hK (hSS.1) ?_;clear hK;refine wod ?_ _;clear hSS;clear q0 A1 A2
   go_wp2
   go_ret
   exact ⟨rfl, BZ⟩
  go_simp;have al := (Below.refl Y1.heap.size Y1).alloc (qE _) (.cells #[.int .i64 sq] 3);have ib := one_intsC Y1 sq 3;replace BZ := btr BZ al;replace q0 := q0.below al;replace ia := ia.below al;clear al;generalize Y1.alloc (.cells #[.int .i64 sq] 3) = Y2 at BZ q0 ia ib ⊢;clear hSS;have hSS : (fun X : World => X.cell? ⟨Q, 0, none⟩ = some (.int .i64 cl) /\ X.cell? ⟨Q, 1, none⟩ = some (.int .i64 sq)) Y2 /\ True := ⟨⟨q0.cell 0, q0.cell 1⟩, trivial⟩
  refine kk0 hK (hSS.1) ?_;clear hK;refine wpAnyE_one (i := 3) (by kernel_rfl) rfl (fun Kn hK => ?_);go_simp;refine (itwn_any wClient _ _ _ [cl] _ ia (by omega) (by decide) (fun i => by match i with | 0 => (simp only [qA, Option.getD_some]; omega) | i + 1 => simp) (fun X hX => HTB.out X (btr BZ hX))).mono ?_;rintro ee w3 ⟨rfl, b9⟩;rw [E1.out];replace BZ := btr BZ b9;replace q0 := q0.below b9;replace ia := ia.below b9;replace ib := ib.below b9;clear b9;dsimp only;clear hSS;have hSS : (fun X : World => X.cell? ⟨Q, 0, none⟩ = some (.int .i64 cl) /\ X.cell? ⟨Q, 1, none⟩ = some (.int .i64 sq)) w3 /\ True := ⟨⟨q0.cell 0, q0.cell 1⟩, trivial⟩
  refine kk0 hK (hSS.1) ?_;clear hK;refine wpAnyE_two (i := 4) (j := 8) (by kernel_rfl) rfl rfl (fun Kn hK => ?_) (fun Kn hK => ?_)
  ·go_simp;clear hSS;have hSS : (fun X : World => X.cell? ⟨Q, 0, none⟩ = some (.int .i64 cl) /\ X.cell? ⟨Q, 1, none⟩ = some (.int .i64 sq)) w3 /\ True := ⟨⟨q0.cell 0, q0.cell 1⟩, trivial⟩
   refine kk0 hK (hSS.1) ?_;clear hK;refine wpAnyE_one (i := 8) (by kernel_rfl) rfl (fun Kn hK => ?_);go_simp;refine (itwn_any wCall _ _ _ [sq] _ ib (by omega) (by decide) (fun i => by match i with | 0 => (simp only [qA, Option.getD_some]; omega) | i + 1 => simp) (fun X hX => HTB.out X (btr BZ hX))).mono ?_;rintro ee w4 ⟨rfl, b9⟩;rw [E3.out];replace BZ := btr BZ b9;replace q0 := q0.below b9;replace ia := ia.below b9;replace ib := ib.below b9;clear b9;dsimp only;clear hSS;have hSS : (fun X : World => X.cell? ⟨Q, 0, none⟩ = some (.int .i64 cl) /\ X.cell? ⟨Q, 1, none⟩ = some (.int .i64 sq)) w4 /\ True := ⟨⟨q0.cell 0, q0.cell 1⟩, trivial⟩
   refine kk0 hK (hSS.1) ?_;clear hK;refine wpAnyE_one (i := 9) (by kernel_rfl) rfl (fun Kn hK => ?_);go_simp;clear hSS;have hSS : (fun X : World => X.cell? ⟨Q, 0, none⟩ = some (.int .i64 cl) /\ X.cell? ⟨Q, 1, none⟩ = some (.int .i64 sq)) w4 /\ True := ⟨⟨q0.cell 0, q0.cell 1⟩, trivial⟩
   refine kk0 hK (hSS.1) ?_;clear hK;refine wpAnyE_one (i := 10) (by kernel_rfl) rfl (fun Kn hK => ?_);go_simp;clear hSS;have hSS : (fun X : World => X.cell? ⟨Q, 0, none⟩ = some (.int .i64 cl) /\ X.cell? ⟨Q, 1, none⟩ = some (.int .i64 sq)) w4 /\ True := ⟨⟨q0.cell 0, q0.cell 1⟩, trivial⟩
   refine kk0 hK (hSS.1) ?_;clear hK;refine wod ?_ _;clear hSS;clear q0 A1 A2
   go_wp2
   go_ret
   exact ⟨rfl, BZ⟩
  go_simp;refine (itwn_any wCall _ _ _ [sq] _ ib (by omega) (by decide) (fun i => by match i with | 0 => (simp only [qA, Option.getD_some]; omega) | i + 1 => simp) (fun X hX => HTB.out X (btr BZ hX))).mono ?_;rintro ee w4 ⟨rfl, b9⟩;rw [E3.out];replace BZ := btr BZ b9;replace q0 := q0.below b9;replace ia := ia.below b9;replace ib := ib.below b9;clear b9;dsimp only;clear hSS;have hSS : (fun X : World => X.cell? ⟨Q, 0, none⟩ = some (.int .i64 cl) /\ X.cell? ⟨Q, 1, none⟩ = some (.int .i64 sq)) w4 /\ True := ⟨⟨q0.cell 0, q0.cell 1⟩, trivial⟩
  refine kk0 hK (hSS.1) ?_;clear hK;refine wpAnyE_one (i := 4) (by kernel_rfl) rfl (fun Kn hK => ?_);go_simp;clear hSS;have hSS : (fun X : World => X.cell? ⟨Q, 0, none⟩ = some (.int .i64 cl) /\ X.cell? ⟨Q, 1, none⟩ = some (.int .i64 sq)) w4 /\ True := ⟨⟨q0.cell 0, q0.cell 1⟩, trivial⟩
  refine kk0 hK (hSS.1) ?_;clear hK;refine wpAnyE_one (i := 9) (by kernel_rfl) rfl (fun Kn hK => ?_);go_simp;clear hSS;have hSS : (fun X : World => X.cell? ⟨Q, 0, none⟩ = some (.int .i64 cl) /\ X.cell? ⟨Q, 1, none⟩ = some (.int .i64 sq)) w4 /\ True := ⟨⟨q0.cell 0, q0.cell 1⟩, trivial⟩
  refine kk0 hK (hSS.1) ?_;clear hK;refine wpAnyE_one (i := 10) (by kernel_rfl) rfl (fun Kn hK => ?_);go_simp;clear hSS;have hSS : (fun X : World => X.cell? ⟨Q, 0, none⟩ = some (.int .i64 cl) /\ X.cell? ⟨Q, 1, none⟩ = some (.int .i64 sq)) w4 /\ True := ⟨⟨q0.cell 0, q0.cell 1⟩, trivial⟩
  refine kk0 hK (hSS.1) ?_;clear hK;refine wod ?_ _;clear hSS;clear q0 A1 A2
  go_wp2
  go_ret
  exact ⟨rfl, BZ⟩
 go_simp;have al := (Below.refl V.heap.size V).alloc (qE _) (.cells #[.int .i64 sq] 3);have ib := one_intsC V sq 3;replace BZ := btr BZ al;replace q0 := q0.below al;clear al;generalize V.alloc (.cells #[.int .i64 sq] 3) = Y1 at BZ q0 ib ⊢;clear hSS;have hSS : (fun X : World => X.cell? ⟨Q, 0, none⟩ = some (.int .i64 cl) /\ X.cell? ⟨Q, 1, none⟩ = some (.int .i64 sq)) Y1 /\ True := ⟨⟨q0.cell 0, q0.cell 1⟩, trivial⟩
 refine kk0 hK (hSS.1) ?_;clear hK;refine wpAnyE_one (i := 2) (by kernel_rfl) rfl (fun Kn hK => ?_);go_simp;have al := (Below.refl Y1.heap.size Y1).alloc (qE _) (.cells #[.int .i64 cl] 3);have ia := one_intsC Y1 cl 3;replace BZ := btr BZ al;replace q0 := q0.below al;replace ib := ib.below al;clear al;generalize Y1.alloc (.cells #[.int .i64 cl] 3) = Y2 at BZ q0 ib ia ⊢;clear hSS;have hSS : (fun X : World => X.cell? ⟨Q, 0, none⟩ = some (.int .i64 cl) /\ X.cell? ⟨Q, 1, none⟩ = some (.int .i64 sq)) Y2 /\ True := ⟨⟨q0.cell 0, q0.cell 1⟩, trivial⟩
 refine kk0 hK (hSS.1) ?_;clear hK;refine wpAnyE_one (i := 3) (by kernel_rfl) rfl (fun Kn hK => ?_);go_simp;refine (itwn_any wClient _ _ _ [cl] _ ia (by omega) (by decide) (fun i => by match i with | 0 => (simp only [qA, Option.getD_some]; omega) | i + 1 => simp) (fun X hX => HTB.out X (btr BZ hX))).mono ?_;rintro ee w3 ⟨rfl, b9⟩;rw [E1.out];replace BZ := btr BZ b9;replace q0 := q0.below b9;replace ib := ib.below b9;replace ia := ia.below b9;clear b9;dsimp only;clear hSS;have hSS : (fun X : World => X.cell? ⟨Q, 0, none⟩ = some (.int .i64 cl) /\ X.cell? ⟨Q, 1, none⟩ = some (.int .i64 sq)) w3 /\ True := ⟨⟨q0.cell 0, q0.cell 1⟩, trivial⟩
 refine kk0 hK (hSS.1) ?_;clear hK;refine wpAnyE_two (i := 4) (j := 8) (by kernel_rfl) rfl rfl (fun Kn hK => ?_) (fun Kn hK => ?_)
 ·go_simp;clear hSS;have hSS : (fun X : World => X.cell? ⟨Q, 0, none⟩ = some (.int .i64 cl) /\ X.cell? ⟨Q, 1, none⟩ = some (.int .i64 sq)) w3 /\ True := ⟨⟨q0.cell 0, q0.cell 1⟩, trivial⟩
  refine kk0 hK (hSS.1) ?_;clear hK;refine wpAnyE_one (i := 8) (by kernel_rfl) rfl (fun Kn hK => ?_);go_simp;refine (itwn_any wCall _ _ _ [sq] _ ib (by omega) (by decide) (fun i => by match i with | 0 => (simp only [qA, Option.getD_some]; omega) | i + 1 => simp) (fun X hX => HTB.out X (btr BZ hX))).mono ?_;rintro ee w4 ⟨rfl, b9⟩;rw [E3.out];replace BZ := btr BZ b9;replace q0 := q0.below b9;replace ib := ib.below b9;replace ia := ia.below b9;clear b9;dsimp only;clear hSS;have hSS : (fun X : World => X.cell? ⟨Q, 0, none⟩ = some (.int .i64 cl) /\ X.cell? ⟨Q, 1, none⟩ = some (.int .i64 sq)) w4 /\ True := ⟨⟨q0.cell 0, q0.cell 1⟩, trivial⟩
  refine kk0 hK (hSS.1) ?_;clear hK;refine wpAnyE_one (i := 9) (by kernel_rfl) rfl (fun Kn hK => ?_);go_simp;clear hSS;have hSS : (fun X : World => X.cell? ⟨Q, 0, none⟩ = some (.int .i64 cl) /\ X.cell? ⟨Q, 1, none⟩ = some (.int .i64 sq)) w4 /\ True := ⟨⟨q0.cell 0, q0.cell 1⟩, trivial⟩
  refine kk0 hK (hSS.1) ?_;clear hK;refine wpAnyE_one (i := 10) (by kernel_rfl) rfl (fun Kn hK => ?_);go_simp;clear hSS;have hSS : (fun X : World => X.cell? ⟨Q, 0, none⟩ = some (.int .i64 cl) /\ X.cell? ⟨Q, 1, none⟩ = some (.int .i64 sq)) w4 /\ True := ⟨⟨q0.cell 0, q0.cell 1⟩, trivial⟩
  refine kk0 hK (hSS.1) ?_;clear hK;refine wod ?_ _;clear hSS;clear q0 A1 A2
  go_wp2
  go_ret
  exact ⟨rfl, BZ⟩
 go_simp;refine (itwn_any wCall _ _ _ [sq] _ ib (by omega) (by decide) (fun i => by match i with | 0 => (simp only [qA, Option.getD_some]; omega) | i + 1 => simp) (fun X hX => HTB.out X (btr BZ hX))).mono ?_;rintro ee w4 ⟨rfl, b9⟩;rw [E3.out];replace BZ := btr BZ b9;replace q0 := q0.below b9;replace ib := ib.below b9;replace ia := ia.below b9;clear b9;dsimp only;clear hSS;have hSS : (fun X : World => X.cell? ⟨Q, 0, none⟩ = some (.int .i64 cl) /\ X.cell? ⟨Q, 1, none⟩ = some (.int .i64 sq)) w4 /\ True := ⟨⟨q0.cell 0, q0.cell 1⟩, trivial⟩
 refine kk0 hK (hSS.1) ?_;clear hK;refine wpAnyE_one (i := 4) (by kernel_rfl) rfl (fun Kn hK => ?_);go_simp;clear hSS;have hSS : (fun X : World => X.cell? ⟨Q, 0, none⟩ = some (.int .i64 cl) /\ X.cell? ⟨Q, 1, none⟩ = some (.int .i64 sq)) w4 /\ True := ⟨⟨q0.cell 0, q0.cell 1⟩, trivial⟩
 refine kk0 hK (hSS.1) ?_;clear hK;refine wpAnyE_one (i := 9) (by kernel_rfl) rfl (fun Kn hK => ?_);go_simp;clear hSS;have hSS : (fun X : World => X.cell? ⟨Q, 0, none⟩ = some (.int .i64 cl) /\ X.cell? ⟨Q, 1, none⟩ = some (.int .i64 sq)) w4 /\ True := ⟨⟨q0.cell 0, q0.cell 1⟩, trivial⟩
 refine kk0 hK (hSS.1) ?_;clear hK;refine wpAnyE_one (i := 10) (by kernel_rfl) rfl (fun Kn hK => ?_);go_simp;clear hSS;have hSS : (fun X : World => X.cell? ⟨Q, 0, none⟩ = some (.int .i64 cl) /\ X.cell? ⟨Q, 1, none⟩ = some (.int .i64 sq)) w4 /\ True := ⟨⟨q0.cell 0, q0.cell 1⟩, trivial⟩
 refine kk0 hK (hSS.1) ?_;clear hK;refine wod ?_ _;clear hSS;clear q0 A1 A2
 go_wp2
 go_ret
 exact ⟨rfl, BZ⟩
theorem JT.lit3 (w : World) (x1 x2 x3 : ByteArray) : JT w (.slice (some ⟨w.heap.size, 0, none⟩) 3 3) [x1, x2, x3] (w.alloc (.cells #[.string x1, .string x2, .string x3] 9)) :=
 ⟨bal, World.ownsRow_lit w #[.string x1, .string x2, .string x3] 3 (qE _) (by unfold maxLen; omega) rfl⟩
theorem cjoin (cl sq ac : Int) (zs : List Int) : Lib.join ([(⟨(casL cl sq).toArray⟩ : ByteArray), ⟨(wAct ++ tailL [ac]).toArray⟩, ⟨(wWith ++ tailL zs).toArray⟩].map (·.data.toList)) [32] = callL cl sq ac zs := by
 rw [List.map_cons, Lib.join_cons, callL, casL, tail_one];simp [Lib.joinTail]
theorem ictext_any {cl sq ac : Int} {a : Option Addr} {n cap : Nat} (zs : List Int) {w : World} (hC : Ints w a n zs) (hn : n <= 1048576) (hT : Lib.TabBelow Tryz.prog w.heap.size w "internal/strconv.uint64pow10" .u64 Lib.pow10Tab) :
  Calls Tryz.prog 50 #[clV cl sq ac a n cap] w fun e w' => e = .returned (.string ⟨(callText cl sq ac n zs).toArray⟩) /\ Below w.heap.size w w' := by
 have HTB : Hid _ := hT;clear hT;have q_0 := Cel.new w [.int .i64 cl, .int .i64 sq, .int .i64 ac, .slice a n cap] 43;have B_0 := (Below.refl w.heap.size w).alloc (qE _) (.cells #[.int .i64 cl, .int .i64 sq, .int .i64 ac, .slice a n cap] 43);have q_s := q_0.alloc (.cells #[.int .i64 sq] 3);have B_s := B_0.alloc B_0.size (.cells #[.int .i64 sq] 3);have i_s := one_intsC (w.alloc (.cells #[.int .i64 cl, .int .i64 sq, .int .i64 ac, .slice a n cap] 43)) sq 3;rw [World.size_alloc] at i_s;obtain ⟨i0, hi, hz0, hz1, hz2⟩ := info_parts Tryz.infoStr;obtain ⟨x1, hx1⟩ : ∃ x, x = decide (0 <= cl /\ cl < 4) := ⟨_, rfl⟩
 obtain ⟨x2, hx2⟩ : ∃ x, x = betB 1 300 [sq] := ⟨_, rfl⟩
 obtain ⟨x3, hx3⟩ : ∃ x, x = decide (0 <= ac /\ ac < 4) := ⟨_, rfl⟩
 obtain ⟨x4, hx4⟩ : ∃ x, x = okN 2 9 n zs := ⟨_, rfl⟩
 have pl : ∀ z : Int, decide (0 <= z /\ z < 4) = inB z 0 3 := fun z => by
  cases h : inB z 0 3
  ·have := inB_not.1 h; simp; omega
  have := inB_iff.1 h; simp; omega
 have HB : Hid (callOkB cl sq ac n zs = (x1 && (x2 && (x3 && x4)))) := by show _ = _; rw [callOkB, hx1, hx2, hx3, hx4, bet_oneC, pl, pl]
 have H1 : Hid _ := hx1;have H2 : Hid _ := hx2;have H3 : Hid _ := hx3;have H4 : Hid _ := hx4;clear hx1 hx2 hx3 hx4 pl
 go_enter Tryz.func50, Tryz.ntmps50
 go_wp2_with fail
 refine (place_any).mono ?_;rintro e w1 ⟨rfl, rfl⟩;rw [<- H1.out]
 cases x1
 ·go_wp2
  go_ret
  exact ⟨ret_str (callText_no (by rw [HB.out]; rfl)).symm, B_0⟩
 go_wp2_with fail
 refine (between_any [sq] _ _ i_s (by omega)).mono ?_;rintro e w1 ⟨rfl, rfl⟩;rw [<- H2.out];clear i_s q_0
 cases x2
 ·go_wp2
  go_ret
  exact ⟨ret_str (callText_no (by rw [HB.out]; rfl)).symm, B_s⟩
 go_wp2_with fail
 refine (place_any).mono ?_;rintro e w1 ⟨rfl, rfl⟩;rw [<- H3.out]
 cases x3
 ·go_wp2
  go_ret
  exact ⟨ret_str (callText_no (by rw [HB.out]; rfl)).symm, B_s⟩
 go_wp2_with fail
 refine (iarg_any zs (hC.below B_s) hn).mono ?_;rintro e w1 ⟨rfl, rfl⟩;rw [<- H4.out]
 cases x4
 ·go_wp2
  go_ret
  exact ⟨ret_str (callText_no (by rw [HB.out]; rfl)).symm, B_s⟩
 have b1 := of_decide_eq_true H1.out.symm;have b2 := inB_iff.1 ((bet_oneC sq 1 300).symm.trans H2.out.symm);have b3 := of_decide_eq_true H3.out.symm
 have hn2 : (n : Int) = 2 := by
  by_cases h : (n : Int) = 2
  ·exact h
  have := H4.out; rw [okN_not h] at this; cases this
 have hal : allB 9 zs = true := by have := H4.out; rw [okN_is hn2] at this; exact this.symm
 obtain rfl : n = 2 := by omega
 have BZ : Hid (∀ i : Nat, -9 <= zs[i]?.getD 0 /\ zs[i]?.getD 0 <= 9) := allB_bnd' (by omega) hal;have HL : Hid (zs.length = 2) := hC.1;have HT : Hid (callText cl sq ac 2 zs = callL cl sq ac zs) := callText_yes (by rw [HB.out]; rfl);clear hal hn2 HB H1 H2 H3 H4 B_0;obtain ⟨T1, e1⟩ : ∃ T : ByteArray, (⟨(casL cl sq).toArray⟩ : ByteArray) = T := ⟨_, rfl⟩
 obtain ⟨T2, e2⟩ : ∃ T : ByteArray, (⟨(wAct ++ tailL [ac]).toArray⟩ : ByteArray) = T := ⟨_, rfl⟩
 obtain ⟨T3, e3⟩ : ∃ T : ByteArray, (⟨(wWith ++ tailL zs).toArray⟩ : ByteArray) = T := ⟨_, rfl⟩
 have HJE : Hid (Lib.join ([T1, T2, T3].map (·.data.toList)) [32] = callL cl sq ac zs) := by show _ = _; rw [<- e1, <- e2, <- e3]; exact cjoin cl sq ac zs
 have HLE : Hid ((callL cl sq ac zs).length <= 1000) := by
  show _ <= _
  have t1 := tail_len (zs := zs) (fun i => by have := BZ.out i; omega) zs.length (qE _);rw [List.take_length, HL.out] at t1;have u1 := Lib.itoa_length_le cl (by omega) (by omega);have u2 := Lib.itoa_length_le sq (by omega) (by omega);have u3 := Lib.itoa_length_le ac (by omega) (by omega);rw [callL];simp only [qB, qC, qD, wClient, wCall, wAct, wWith]
  omega
 have E1 : Hid _ := e1;have E2 : Hid _ := e2;have E3 : Hid _ := e3;have HZ : Hid (∀ i : Nat, -9 <= zs[i]?.getD 0 /\ zs[i]?.getD 0 <= 9) := BZ.out;clear e1 e2 e3 BZ;have hCs := hC.below B_s;clear hC
 go_upto_region 3 with fail
 obtain ⟨W, hW⟩ : ∃ W, W = (w.alloc (.cells #[.int .i64 cl, .int .i64 sq, .int .i64 ac, .slice a 2 cap] 43)).alloc (.cells #[.int .i64 sq] 3) := ⟨_, rfl⟩
 obtain ⟨Q, hQ⟩ : ∃ Q, Q = w.heap.size := ⟨_, rfl⟩
 rw [<- hQ, <- hW];rw [<- hW] at q_s B_s hCs;rw [<- hQ] at q_s;clear hW hQ;have BZ := B_s;clear B_s;refine wp_region_ends (fun X => X.cell? ⟨Q, 0, none⟩ = some (.int .i64 cl) /\ X.cell? ⟨Q, 1, none⟩ = some (.int .i64 sq) /\ X.cell? ⟨Q, 2, none⟩ = some (.int .i64 ac) /\ X.cell? ⟨Q, 3, none⟩ = some (.slice a 2 cap)) (fun _ => True) 10 (by kernel_rfl) ?_;have dr : Below W.heap.size W W.drew := (Below.refl _ _).drew;replace BZ := btr BZ dr;replace q_s := q_s.below dr;replace hCs := hCs.below dr;clear dr;generalize W.drew = V at BZ q_s hCs ⊢;have hSS : (fun X : World => X.cell? ⟨Q, 0, none⟩ = some (.int .i64 cl) /\ X.cell? ⟨Q, 1, none⟩ = some (.int .i64 sq) /\ X.cell? ⟨Q, 2, none⟩ = some (.int .i64 ac) /\ X.cell? ⟨Q, 3, none⟩ = some (.slice a 2 cap)) V /\ True := ⟨⟨q_s.cell 0, q_s.cell 1, q_s.cell 2, q_s.cell 3⟩, trivial⟩
 refine tkl 0 rfl hSS ?_;refine tkl 2 rfl hSS ?_;refine tkl 3 rfl hSS ?_;refine tkl 6 rfl hSS ?_;simp only [Act.put, List.setIfInBounds_toArray, List.set_cons_succ, List.set_cons_zero, List.getElem_toArray, List.getElem_cons_succ, List.getElem_cons_zero];refine tkl 7 rfl hSS ?_;refine wpAnyE_two (i := 1) (j := 4) (by kernel_rfl) rfl rfl (fun Kn hK => ?_) (fun Kn hK => ?_)
 ·go_simp;refine (icas_any cl sq ac a 2 cap b1 b2 (fun X hX => HTB.out X (btr BZ hX))).mono ?_;rintro ee w1 ⟨rfl, b9⟩;rw [E1.out];replace BZ := btr BZ b9;replace q_s := q_s.below b9;replace hCs := hCs.below b9;clear b9;dsimp only;clear hSS;have hSS : (fun X : World => X.cell? ⟨Q, 0, none⟩ = some (.int .i64 cl) /\ X.cell? ⟨Q, 1, none⟩ = some (.int .i64 sq) /\ X.cell? ⟨Q, 2, none⟩ = some (.int .i64 ac) /\ X.cell? ⟨Q, 3, none⟩ = some (.slice a 2 cap)) w1 /\ True := ⟨⟨q_s.cell 0, q_s.cell 1, q_s.cell 2, q_s.cell 3⟩, trivial⟩
  refine kk0 hK (hSS.1) ?_;clear hK;refine wpAnyE_one (i := 4) (by kernel_rfl) rfl (fun Kn hK => ?_);go_simp;have al := (Below.refl w1.heap.size w1).alloc (qE _) (.cells #[.int .i64 ac] 3);have ia := one_intsC w1 ac 3;replace BZ := btr BZ al;replace q_s := q_s.below al;replace hCs := hCs.below al;clear al;generalize w1.alloc (.cells #[.int .i64 ac] 3) = Y2 at BZ q_s hCs ia ⊢;clear hSS;have hSS : (fun X : World => X.cell? ⟨Q, 0, none⟩ = some (.int .i64 cl) /\ X.cell? ⟨Q, 1, none⟩ = some (.int .i64 sq) /\ X.cell? ⟨Q, 2, none⟩ = some (.int .i64 ac) /\ X.cell? ⟨Q, 3, none⟩ = some (.slice a 2 cap)) Y2 /\ True := ⟨⟨q_s.cell 0, q_s.cell 1, q_s.cell 2, q_s.cell 3⟩, trivial⟩
  refine kk0 hK (hSS.1) ?_;clear hK;refine wpAnyE_one (i := 5) (by kernel_rfl) rfl (fun Kn hK => ?_);go_simp;refine (itwn_any wAct _ _ _ [ac] _ ia (by omega) (by decide) (fun i => by match i with | 0 => (simp only [qA, Option.getD_some]; omega) | i + 1 => simp) (fun X hX => HTB.out X (btr BZ hX))).mono ?_;rintro ee w3 ⟨rfl, b9⟩;rw [E2.out];replace BZ := btr BZ b9;replace q_s := q_s.below b9;replace hCs := hCs.below b9;replace ia := ia.below b9;clear b9;dsimp only;clear hSS;have hSS : (fun X : World => X.cell? ⟨Q, 0, none⟩ = some (.int .i64 cl) /\ X.cell? ⟨Q, 1, none⟩ = some (.int .i64 sq) /\ X.cell? ⟨Q, 2, none⟩ = some (.int .i64 ac) /\ X.cell? ⟨Q, 3, none⟩ = some (.slice a 2 cap)) w3 /\ True := ⟨⟨q_s.cell 0, q_s.cell 1, q_s.cell 2, q_s.cell 3⟩, trivial⟩
  refine kk0 hK (hSS.1) ?_;clear hK;refine wpAnyE_one (i := 8) (by kernel_rfl) rfl (fun Kn hK => ?_);go_simp;refine (itwn_any wWith _ _ _ zs _ hCs (by omega) (by decide) (fun i => by have := HZ.out i; omega) (fun X hX => HTB.out X (btr BZ hX))).mono ?_;rintro ee w4 ⟨rfl, b9⟩;rw [E3.out];replace BZ := btr BZ b9;replace q_s := q_s.below b9;replace hCs := hCs.below b9;replace ia := ia.below b9;clear b9;dsimp only;clear hSS;have hSS : (fun X : World => X.cell? ⟨Q, 0, none⟩ = some (.int .i64 cl) /\ X.cell? ⟨Q, 1, none⟩ = some (.int .i64 sq) /\ X.cell? ⟨Q, 2, none⟩ = some (.int .i64 ac) /\ X.cell? ⟨Q, 3, none⟩ = some (.slice a 2 cap)) w4 /\ True := ⟨⟨q_s.cell 0, q_s.cell 1, q_s.cell 2, q_s.cell 3⟩, trivial⟩
  refine kk0 hK (hSS.1) ?_;clear hK;refine wpAnyE_one (i := 9) (by kernel_rfl) rfl (fun Kn hK => ?_);go_simp;have J0 := JT.lit3 w4 T1 T2 T3;have al := J0.b;have jo := J0;replace BZ := btr BZ al;replace q_s := q_s.below al;replace hCs := hCs.below al;replace ia := ia.below al;clear al;generalize w4.alloc (.cells #[.string T1, .string T2, .string T3] 9) = Y5 at BZ J0 jo q_s hCs ia ⊢;clear hSS;have hSS : (fun X : World => X.cell? ⟨Q, 0, none⟩ = some (.int .i64 cl) /\ X.cell? ⟨Q, 1, none⟩ = some (.int .i64 sq) /\ X.cell? ⟨Q, 2, none⟩ = some (.int .i64 ac) /\ X.cell? ⟨Q, 3, none⟩ = some (.slice a 2 cap)) Y5 /\ True := ⟨⟨q_s.cell 0, q_s.cell 1, q_s.cell 2, q_s.cell 3⟩, trivial⟩
  refine kk0 hK (hSS.1) ?_;clear hK;refine wpAnyE_one (i := 10) (by kernel_rfl) rfl (fun Kn hK => ?_);go_simp;clear hSS;have hSS : (fun X : World => X.cell? ⟨Q, 0, none⟩ = some (.int .i64 cl) /\ X.cell? ⟨Q, 1, none⟩ = some (.int .i64 sq) /\ X.cell? ⟨Q, 2, none⟩ = some (.int .i64 ac) /\ X.cell? ⟨Q, 3, none⟩ = some (.slice a 2 cap)) Y5 /\ True := ⟨⟨q_s.cell 0, q_s.cell 1, q_s.cell 2, q_s.cell 3⟩, trivial⟩
  refine kk0 hK (hSS.1) ?_;clear hK;refine wod ?_ _;clear hSS;clear q_s hCs;obtain ⟨g, gc, eg, hcap, hg, hcs⟩ := J0.cells (k := 3) rfl (by omega);rw [eg];clear eg
  have HJ := Tryz.strings_Join g 0 gc [T1, T2, T3] ⟨#[32]⟩ Y5 hcs hg (by simp) (by simpa using hcap) (by
   rw [show (⟨#[32]⟩ : ByteArray).data.toList = [32] from rfl, HJE.out];have := HLE.out
   omega)
  clear hcs hcap hg J0 jo
  go_wp2_with fail
  refine HJ.mono ?_;rintro e wE ⟨rfl, b9⟩;have B2 := btr BZ b9;rw [HJE.out, <- HT.out];obtain ⟨ZZ, hZZ⟩ : ∃ Z : ByteArray, (⟨(callText cl sq ac 2 zs).toArray⟩ : ByteArray) = Z := ⟨_, rfl⟩
  rw [hZZ];have HZZ : Hid _ := hZZ;clear hZZ HJ
  go_wp2
  go_ret
  exact ⟨by rw [HZZ.out]; rfl, B2⟩
 go_simp;have al := (Below.refl V.heap.size V).alloc (qE _) (.cells #[.int .i64 ac] 3);have ia := one_intsC V ac 3;replace BZ := btr BZ al;replace q_s := q_s.below al;replace hCs := hCs.below al;clear al;generalize V.alloc (.cells #[.int .i64 ac] 3) = Y1 at BZ q_s hCs ia ⊢;clear hSS;have hSS : (fun X : World => X.cell? ⟨Q, 0, none⟩ = some (.int .i64 cl) /\ X.cell? ⟨Q, 1, none⟩ = some (.int .i64 sq) /\ X.cell? ⟨Q, 2, none⟩ = some (.int .i64 ac) /\ X.cell? ⟨Q, 3, none⟩ = some (.slice a 2 cap)) Y1 /\ True := ⟨⟨q_s.cell 0, q_s.cell 1, q_s.cell 2, q_s.cell 3⟩, trivial⟩
 refine kk0 hK (hSS.1) ?_;clear hK;refine wpAnyE_one (i := 1) (by kernel_rfl) rfl (fun Kn hK => ?_);go_simp;refine (icas_any cl sq ac a 2 cap b1 b2 (fun X hX => HTB.out X (btr BZ hX))).mono ?_;rintro ee w2 ⟨rfl, b9⟩;rw [E1.out];replace BZ := btr BZ b9;replace q_s := q_s.below b9;replace hCs := hCs.below b9;replace ia := ia.below b9;clear b9;dsimp only;clear hSS;have hSS : (fun X : World => X.cell? ⟨Q, 0, none⟩ = some (.int .i64 cl) /\ X.cell? ⟨Q, 1, none⟩ = some (.int .i64 sq) /\ X.cell? ⟨Q, 2, none⟩ = some (.int .i64 ac) /\ X.cell? ⟨Q, 3, none⟩ = some (.slice a 2 cap)) w2 /\ True := ⟨⟨q_s.cell 0, q_s.cell 1, q_s.cell 2, q_s.cell 3⟩, trivial⟩
 refine kk0 hK (hSS.1) ?_;clear hK;refine wpAnyE_one (i := 5) (by kernel_rfl) rfl (fun Kn hK => ?_);go_simp;refine (itwn_any wAct _ _ _ [ac] _ ia (by omega) (by decide) (fun i => by match i with | 0 => (simp only [qA, Option.getD_some]; omega) | i + 1 => simp) (fun X hX => HTB.out X (btr BZ hX))).mono ?_;rintro ee w3 ⟨rfl, b9⟩;rw [E2.out];replace BZ := btr BZ b9;replace q_s := q_s.below b9;replace hCs := hCs.below b9;replace ia := ia.below b9;clear b9;dsimp only;clear hSS;have hSS : (fun X : World => X.cell? ⟨Q, 0, none⟩ = some (.int .i64 cl) /\ X.cell? ⟨Q, 1, none⟩ = some (.int .i64 sq) /\ X.cell? ⟨Q, 2, none⟩ = some (.int .i64 ac) /\ X.cell? ⟨Q, 3, none⟩ = some (.slice a 2 cap)) w3 /\ True := ⟨⟨q_s.cell 0, q_s.cell 1, q_s.cell 2, q_s.cell 3⟩, trivial⟩
 refine kk0 hK (hSS.1) ?_;clear hK;refine wpAnyE_one (i := 8) (by kernel_rfl) rfl (fun Kn hK => ?_);go_simp;refine (itwn_any wWith _ _ _ zs _ hCs (by omega) (by decide) (fun i => by have := HZ.out i; omega) (fun X hX => HTB.out X (btr BZ hX))).mono ?_;rintro ee w4 ⟨rfl, b9⟩;rw [E3.out];replace BZ := btr BZ b9;replace q_s := q_s.below b9;replace hCs := hCs.below b9;replace ia := ia.below b9;clear b9;dsimp only;clear hSS;have hSS : (fun X : World => X.cell? ⟨Q, 0, none⟩ = some (.int .i64 cl) /\ X.cell? ⟨Q, 1, none⟩ = some (.int .i64 sq) /\ X.cell? ⟨Q, 2, none⟩ = some (.int .i64 ac) /\ X.cell? ⟨Q, 3, none⟩ = some (.slice a 2 cap)) w4 /\ True := ⟨⟨q_s.cell 0, q_s.cell 1, q_s.cell 2, q_s.cell 3⟩, trivial⟩
 refine kk0 hK (hSS.1) ?_;clear hK;refine wpAnyE_one (i := 9) (by kernel_rfl) rfl (fun Kn hK => ?_);go_simp;have J0 := JT.lit3 w4 T1 T2 T3;have al := J0.b;have jo := J0;replace BZ := btr BZ al;replace q_s := q_s.below al;replace hCs := hCs.below al;replace ia := ia.below al;clear al;generalize w4.alloc (.cells #[.string T1, .string T2, .string T3] 9) = Y5 at BZ J0 jo q_s hCs ia ⊢;clear hSS;have hSS : (fun X : World => X.cell? ⟨Q, 0, none⟩ = some (.int .i64 cl) /\ X.cell? ⟨Q, 1, none⟩ = some (.int .i64 sq) /\ X.cell? ⟨Q, 2, none⟩ = some (.int .i64 ac) /\ X.cell? ⟨Q, 3, none⟩ = some (.slice a 2 cap)) Y5 /\ True := ⟨⟨q_s.cell 0, q_s.cell 1, q_s.cell 2, q_s.cell 3⟩, trivial⟩
 refine kk0 hK (hSS.1) ?_;clear hK;refine wpAnyE_one (i := 10) (by kernel_rfl) rfl (fun Kn hK => ?_);go_simp;clear hSS;have hSS : (fun X : World => X.cell? ⟨Q, 0, none⟩ = some (.int .i64 cl) /\ X.cell? ⟨Q, 1, none⟩ = some (.int .i64 sq) /\ X.cell? ⟨Q, 2, none⟩ = some (.int .i64 ac) /\ X.cell? ⟨Q, 3, none⟩ = some (.slice a 2 cap)) Y5 /\ True := ⟨⟨q_s.cell 0, q_s.cell 1, q_s.cell 2, q_s.cell 3⟩, trivial⟩
 refine kk0 hK (hSS.1) ?_;clear hK;refine wod ?_ _;clear hSS;clear q_s hCs;obtain ⟨g, gc, eg, hcap, hg, hcs⟩ := J0.cells (k := 3) rfl (by omega);rw [eg];clear eg
 have HJ := Tryz.strings_Join g 0 gc [T1, T2, T3] ⟨#[32]⟩ Y5 hcs hg (by simp) (by simpa using hcap) (by
  rw [show (⟨#[32]⟩ : ByteArray).data.toList = [32] from rfl, HJE.out];have := HLE.out
  omega)
 clear hcs hcap hg J0 jo
 go_wp2_with fail
 refine HJ.mono ?_;rintro e wE ⟨rfl, b9⟩;have B2 := btr BZ b9;rw [HJE.out, <- HT.out];obtain ⟨ZZ, hZZ⟩ : ∃ Z : ByteArray, (⟨(callText cl sq ac 2 zs).toArray⟩ : ByteArray) = Z := ⟨_, rfl⟩
 rw [hZZ];have HZZ : Hid _ := hZZ;clear hZZ HJ
 go_wp2
 go_ret
 exact ⟨by rw [HZZ.out]; rfl, B2⟩
end Go.Proofs.YtfmpcihghlnlnaaGreatDoor
