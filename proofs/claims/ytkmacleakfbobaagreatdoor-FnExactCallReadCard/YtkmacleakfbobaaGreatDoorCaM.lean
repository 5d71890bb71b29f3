/-
  A call, as the program reads it; a call that is marked and looked at; both readers at one text. The library's variables are as its text lays them.
-/
import Derived.Test.YtkmacleakfbobaaGreatDoorCaT
import Derived.Test.YtkmacleakfbobaaGreatDoorCaI
import Derived.Test.YtkmacleakfbobaaGreatDoorAsW
import Derived.Test.YtkmacleakfbobaaGreatDoorShelf2
import Derived.Lib.SmallJoins
import Derived.Lib.AtoiErrMem
namespace Go.Proofs.YtkmacleakfbobaaGreatDoor
open Go.RowKit Go.Shelf
set_option linter.unusedVariables false
set_option maxRecDepth 100000

theorem splits_of (w : World) (m : Int) (hm : w.cell? ⟨Tryz.laysM146_ren.g 1, 0, none⟩ = some (.int .i64 m)) : Splits w := fun W b l hl => by
  have h1 : (1 : Nat) ≤ (⟨#[32]⟩ : ByteArray).size := by decide
  have hmW : W.cell? ⟨Tryz.laysM146_ren.g 1, 0, none⟩ = some (.int .i64 m) := by rw [b.cell (p := ⟨_, 0, none⟩) (block_lt hm)]; exact hm
  have hs : (⟨l.toArray⟩ : ByteArray).size < 4294967281 := by show l.toArray.size < _; rw [List.size_toArray]; omega
  refine (Any.strings_Split { Tryz.laysM146 with } Tryz.laysM146.i9 ⟨l.toArray⟩ ⟨#[32]⟩ m W hs hmW h1).mono ?_
  rintro e w' ⟨rfl, rfl⟩
  have hd := Lib.splitB_data ⟨#[32]⟩ 0 (Lib.countB ⟨l.toArray⟩ ⟨#[32]⟩) ⟨l.toArray⟩
  have hw : Lib.splitK [32] 0 (Lib.countB ⟨l.toArray⟩ ⟨#[32]⟩) l = wordsOf l := split_words _ _ (by
    have : Lib.countB ⟨l.toArray⟩ ⟨#[32]⟩ = l.count 32 := Lib.count_one 32 l
    rw [this]; exact Nat.le_refl _)
  have hd2 : (Lib.splitB ⟨#[32]⟩ 0 (Lib.countB ⟨l.toArray⟩ ⟨#[32]⟩) ⟨l.toArray⟩).map (·.data.toList) = wordsOf l := hd.trans hw
  have hlen : (wordsOf l).length = Lib.countB ⟨l.toArray⟩ ⟨#[32]⟩ + 1 := by rw [← hd2, List.length_map, Lib.splitB_all _ h1 0 _ _ rfl]
  refine ⟨by rw [hlen], by rw [World.size_alloc]; omega, fun i x hx => ?_, (Below.refl _ _).alloc (Nat.le_refl _) _⟩
  rw [← hd2, List.getElem?_map] at hx
  obtain ⟨y, hy, rfl⟩ := Option.map_eq_some_iff.1 hx
  have hc := (Cel.new W ((Lib.splitB ⟨#[32]⟩ 0 (Lib.countB ⟨l.toArray⟩ ⟨#[32]⟩) ⟨l.toArray⟩).map Value.string) (Tryz.laysM146_ren.t 9)).cell i
  rw [List.getElem?_map, hy] at hc
  exact hc
theorem reads_of (w : World) (tp tq : TypeId) (p q : Value) (hS : w.var? Tryz.prog "strconv.ErrSyntax" = some #[.iface tp p]) (hR : w.var? Tryz.prog "strconv.ErrRange" = some #[.iface tq q]) : ReadsN w := fun W b x hx => by
  have hS' := Joins.var_stays Tryz.laysC172.m15 hS b (Nat.le_refl _)
  have hR' := Joins.var_stays Tryz.laysC172.m16 hR b (Nat.le_refl _)
  have hs : (⟨x.toArray⟩ : ByteArray).size = x.length := by show x.toArray.size = _; rw [List.size_toArray]
  have hd : (⟨x.toArray⟩ : ByteArray).data.toList = x := by simp
  cases h : Lib.atoiAll x with
  | ok v =>
    refine (Any.strconv_Atoi_ok Tryz.laysC172 ⟨x.toArray⟩ (by omega) v (by rw [hd]; exact h) W).mono ?_
    rintro e w' ⟨rfl, hw⟩
    refine ⟨?_, Or.inl ⟨v, h, rfl⟩⟩
    rcases hw with rfl | ⟨t, rfl⟩
    · exact Below.refl _ _
    · exact Lib.bytesWorld_below _ _ _
  | «syntax» =>
    refine (Any.strconv_Atoi_syntax_var Tryz.laysC172 ⟨x.toArray⟩ (by omega) (by rw [hd]; exact h) tp p W hS').mono ?_
    rintro e w' ⟨N, rfl, -, -, hb⟩
    exact ⟨hb, Or.inr ⟨(fun v e => by rw [h] at e; cases e), 0, _, N, rfl⟩⟩
  | range =>
    refine (Any.strconv_Atoi_range_var Tryz.laysC172 ⟨x.toArray⟩ (by omega) (by rw [hd]; exact h) tq q W hR').mono ?_
    rintro e w' ⟨N, rfl, -, -, hb⟩
    exact ⟨hb, Or.inr ⟨(fun v e => by rw [h] at e; cases e), _, _, N, rfl⟩⟩

theorem Splits.below {w w' : World} (h : Splits w) (b : Below w.heap.size w w') : Splits w' := fun W hW => h W (b.trans (hW.mono b.size))

set_option maxHeartbeats 3200000 in
theorem icread_any (l : List UInt8) (w : World) (hl : l.length ≤ 1048576) (hA : ReadsN w) (hSp : Splits w) (hE : ErrT w) (hT : Lib.TabBelow Tryz.prog w.heap.size w "internal/strconv.uint64pow10" .u64 Lib.pow10Tab) :
    Calls Tryz.prog 5 #[.string ⟨l.toArray⟩] w fun e w' => ∃ cl sq ac a n cap B xs ok, e = .returned (.tuple #[clV cl sq ac a n cap, .bool ok]) ∧ Below w.heap.size w w' ∧ OwnX w' a B n xs ∧ (0 < n → w.heap.size ≤ B) ∧ caF l = ((cl, sq, ac, xs), ok) := by
  have HA : Hid _ := hA
  have HP : Hid _ := hSp
  have HT : Hid _ := hT
  have HE : Hid _ := hE
  clear hA hSp hT hE
  have bx := Cel.new w [.int .i64 0, .int .i64 0, .int .i64 0, .slice none 0 0] 24
  have B0 := (Below.refl w.heap.size w).alloc (Nat.le_refl _) (.cells #[.int .i64 0, .int .i64 0, .int .i64 0, .slice none 0 0] 24)
  go_enter Tryz.func5, Tryz.ntmps5
  go_wp2_with fail
  refine (ictx_any l _ hl (ReadsN.below HA.out B0) (Splits.below HP.out B0) (fun w' h' => HT.out w' (B0.trans (h'.mono B0.size)))).mono ?_
  rintro e w1 ⟨cl, sq, ac, a, n, cap, B, xs, err, ok, rfl, b1, o1, hB, hF, hy, hn⟩
  have hB' : 0 < n → w.heap.size < B := fun h => by have := hB h; rw [World.size_alloc] at this; omega
  have HF : Hid _ := hF
  have bx1 := bx.below b1
  have B1 := B0.trans (b1.mono B0.size)
  have bx2 := bx1.alloc (.cells #[.int .i64 cl, .int .i64 sq, .int .i64 ac, .slice a n cap] 24)
  have B2 := B1.alloc B1.size (.cells #[.int .i64 cl, .int .i64 sq, .int .i64 ac, .slice a n cap] 24)
  have cb2 := Cel.new w1 [.int .i64 cl, .int .i64 sq, .int .i64 ac, .slice a n cap] 24
  have o2 := o1.alloc (.cells #[.int .i64 cl, .int .i64 sq, .int .i64 ac, .slice a n cap] 24)
  clear bx B0 b1 o1 hB hF bx1 B1
  cases ok with
  | false =>
    obtain ⟨x, hx, rfl⟩ := hn rfl
    clear hy hn
    have hx0 : (x == 0) = false := by simp; omega
    have hx1 : (x != 0) = true := by simp; omega
    have HR : Hid (caF l = ((0, 0, 0, []), false)) := by
      have h := HF.out
      by_cases he : ∃ c, Can l c
      · obtain ⟨d, hd⟩ := he
        rw [caF_yes hd] at h
        cases congrArg Prod.snd h
      · exact caF_no (fun c hc => he ⟨c, hc⟩)
    obtain ⟨W2, hW2⟩ : ∃ W, W = w1.alloc (.cells #[.int .i64 cl, .int .i64 sq, .int .i64 ac, .slice a n cap] 24) := ⟨_, rfl⟩
    go_wp2_with fail
    rw [← hW2]
    rw [← hW2] at bx2 B2
    refine (fault_hit x _ (ErrT.below HE.out B2)).mono ?_
    rintro e w3 ⟨rfl, b3⟩
    have bx3 := bx2.below b3
    have B3 := B2.trans (b3.mono B2.size)
    clear hW2 bx2 B2 b3 cb2 o2
    obtain ⟨r0, r1, r2, r3⟩ := bx3.quadC
    have f0 := bx3.free 0
    have f1 := bx3.free 1
    have f2 := bx3.free 2
    have f3 := bx3.free 3
    have lt3 := bx3.lt
    go_wp2
    refine bodyPost_ret (v := .tuple #[clV 0 0 0 none 0 0, .bool false]) (by simp [results, Tryz.results5, go_sem, r0, r1, r2, r3]) rfl ⟨0, 0, 0, none, 0, 0, 0, [], false, rfl, ?_, OwnX.nil _ _ _, (fun h => absurd h (by omega)), HR.out⟩
    exact (((B3.setCell (Nat.le_refl _) _).setCell (Nat.le_refl _) _).setCell (Nat.le_refl _) _).setCell (Nat.le_refl _) _
  | true =>
    obtain rfl := hy rfl
    clear hy hn
    obtain ⟨W2, hW2⟩ : ∃ W, W = w1.alloc (.cells #[.int .i64 cl, .int .i64 sq, .int .i64 ac, .slice a n cap] 24) := ⟨_, rfl⟩
    go_wp2_with fail
    rw [← hW2]
    rw [← hW2] at bx2 B2 cb2 o2
    refine (fault_nil _).mono ?_
    rintro e w3 ⟨rfl, b3⟩
    have bx3 := bx2.below b3
    have cb3 := cb2.below b3
    have o3 := o2.below b3
    have B3 := B2.trans (b3.mono B2.size)
    clear hW2 bx2 B2 b3 cb2 o2
    obtain ⟨r0, r1, r2, r3⟩ := bx3.quadC
    obtain ⟨d0, d1, d2, d3⟩ := cb3.quadC
    have f0 := bx3.free 0
    have f1 := bx3.free 1
    have f2 := bx3.free 2
    have f3 := bx3.free 3
    have lt3 := bx3.lt
    have lt4 := cb3.lt
    go_wp2
    refine bodyPost_ret (v := .tuple #[clV cl sq ac a n cap, .bool true]) (by simp [results, Tryz.results5, go_sem, r0, r1, r2, r3]) rfl ⟨cl, sq, ac, a, n, cap, B, xs, true, rfl, ?_, ?_, (fun h => Nat.le_of_lt (hB' h)), HF.out⟩
    · exact (((B3.setCell (Nat.le_refl _) _).setCell (Nat.le_refl _) _).setCell (Nat.le_refl _) _).setCell (Nat.le_refl _) _
    · exact (((o3.setOther (fun h => by have := hB' h; omega) _ _).setOther (fun h => by have := hB' h; omega) _ _).setOther (fun h => by have := hB' h; omega) _ _).setOther (fun h => by have := hB' h; omega) _ _

theorem markC_any (cl sq ac : Int) (a : Option Addr) (n cap B : Nat) (tl : List Int) (k : Int) (w : World) (h : OwnX w a B n tl) (hn : n ≤ 1048576) (hk0 : 0 ≤ k) (hk : k ≤ 1000000000000000) :
    Calls Tryz.prog 7 #[clV cl sq ac a n cap, .int .i64 k] w fun e w' => e = .returned (.int .i64 (k + n)) ∧ Touch (fun x => x = B ∧ 0 < n) w w' ∧ OwnX w' a B n (ramp k n) := by
  go_enter Tryz.func7, Tryz.ntmps7
  go_wp2_with fail
  refine (markX_any _ _ _ B tl _ _ (h.alloc _) hn hk0 hk).mono ?_
  rintro e w1 ⟨rfl, t1, o1⟩
  go_wp2
  go_ret
  exact ⟨rfl, (Touch.of ((Below.refl _ _).alloc (Nat.le_refl _) _)).trans t1, o1⟩

theorem heldC_any (cl sq ac : Int) (a : Option Addr) (n cap : Nat) (k : Int) (w : World) (h : Ints w a n (ramp k n)) (hn : n ≤ 1048576) (hk0 : 0 ≤ k) (hk : k ≤ 1000000000000000) :
    Calls Tryz.prog 8 #[clV cl sq ac a n cap, .int .i64 k] w fun e w' => e = .returned (.int .i64 (k + n)) ∧ Below w.heap.size w w' := by
  have h0 : 0 ≤ k + (n : Int) := by omega
  go_enter Tryz.func8, Tryz.ntmps8
  go_wp2_with fail
  refine (held_any _ _ _ _ _ (h.alloc _) hn hk0 hk).mono ?_
  rintro e w1 ⟨rfl, hw⟩
  rw [hw]
  go_wp2
  go_ret
  exact ⟨rfl, (Below.refl _ _).alloc (Nat.le_refl _) _⟩

theorem scread_at {l : List UInt8} {cl sq ac : Int} {xs : List Int} {ok : Bool} {n : Nat} (hF : caF l = ((cl, sq, ac, xs), ok)) (hn : xs.length = n) (w : World) :
    Calls Tryz.prog 4 #[.string ⟨l.toArray⟩] w fun e w' => ∃ a cap, e = .returned (.tuple #[clV cl sq ac a n cap, .bool ok]) ∧ Below w.heap.size w w' ∧ Ints w' a n xs := by
  refine (scread_any l w).mono ?_
  rintro e w' ⟨c1, c2, c3, a, n', cap, xs', ok', h1, h2, h3, h4⟩
  rw [hF] at h4
  cases h4
  obtain rfl : n' = n := h3.1.symm.trans hn
  exact ⟨a, cap, h1, h2, h3⟩

theorem icread_at {l : List UInt8} {cl sq ac : Int} {xs : List Int} {ok : Bool} {n : Nat} (hF : caF l = ((cl, sq, ac, xs), ok)) (hn : xs.length = n) (w : World) (hl : l.length ≤ 1048576) (hA : ReadsN w) (hSp : Splits w) (hE : ErrT w) (hT : Lib.TabBelow Tryz.prog w.heap.size w "internal/strconv.uint64pow10" .u64 Lib.pow10Tab) :
    Calls Tryz.prog 5 #[.string ⟨l.toArray⟩] w fun e w' => ∃ a cap B, e = .returned (.tuple #[clV cl sq ac a n cap, .bool ok]) ∧ Below w.heap.size w w' ∧ OwnX w' a B n xs ∧ (0 < n → w.heap.size ≤ B) := by
  refine (icread_any l w hl hA hSp hE hT).mono ?_
  rintro e w' ⟨c1, c2, c3, a, n', cap, B, xs', ok', h1, h2, h3, hB, h4⟩
  rw [hF] at h4
  cases h4
  obtain rfl : n' = n := h3.1.symm.trans hn
  exact ⟨a, cap, B, h1, h2, h3, hB⟩

end Go.Proofs.YtkmacleakfbobaaGreatDoor
