/-
  A form's copy, as the program makes it. No condition.
-/
import Derived.Test.YtdigmokjedckeaaGreatDoorWayI
import Derived.Test.YtdigmokjedckeaaGreatDoorPut
namespace Go.Proofs.YtdigmokjedckeaaGreatDoor
open Go.RowKit Go.Deep
set_option linter.unusedVariables false
set_option maxRecDepth 100000

set_option maxHeartbeats 3200000 in
theorem icopied_any (a : Option Addr) (cap : Nat) (c : Option Addr) (cap' : Nat) (K : Int) (C D : List Int) (w : World) (hC : Ints w a 3 C) (hD : Ints w c 2 D) :
    Calls Tryz.prog 224 #[formV a 3 cap c 2 cap' K] w fun e w' => ∃ B1 B2 c1 c2, e = .returned (formV (some ⟨B1, 0, none⟩) 3 c1 (some ⟨B2, 0, none⟩) 2 c2 K) ∧ Below w.heap.size w w' ∧ w.heap.size ≤ B1 ∧ B1 ≠ B2 ∧ w.heap.size ≤ B2 ∧ Ints w' (some ⟨B1, 0, none⟩) 3 C ∧ Ints w' (some ⟨B2, 0, none⟩) 2 D := by
  have H1 : TimesH w a cap c cap' K ((w.alloc (Obj.cells #[Value.slice a 3 cap, Value.slice c 2 cap', Value.int IntKind.i64 K] 98)).alloc (Obj.cells #[Value.slice none 0 0, Value.slice none 0 0, Value.int IntKind.i64 0] 98)) :=
    ⟨(Cel.new w _ _).alloc _, by have := Cel.new (w.alloc (Obj.cells #[Value.slice a 3 cap, Value.slice c 2 cap', Value.int IntKind.i64 K] 98)) [.slice none 0 0, .slice none 0 0, .int .i64 0] 98; rw [World.size_alloc] at this; exact this, ((Below.refl _ _).alloc (Nat.le_refl _) _).alloc (by simp) _⟩
  go_enter Tryz.func224, Tryz.ntmps224
  go_upto_region 1 with fail
  obtain ⟨W0, hW0⟩ : ∃ w2, w2 = (w.alloc (Obj.cells #[Value.slice a 3 cap, Value.slice c 2 cap', Value.int IntKind.i64 K] 98)).alloc (Obj.cells #[Value.slice none 0 0, Value.slice none 0 0, Value.int IntKind.i64 0] 98) := ⟨_, rfl⟩
  rw [← hW0] at H1 ⊢
  clear hW0
  have KP : Hid (∀ W, Below W0.heap.size W0 W → TimesH w a cap c cap' K W) := fun W hW => H1.below hW
  have lr := H1.r.lt
  have c0 : Below W0.heap.size W0 W0.drew := (Below.refl _ _).drew
  have hSS : (W0.drew.cell? ⟨w.heap.size, 0, none⟩ = some (.slice a 3 cap) ∧ W0.drew.cell? ⟨w.heap.size, 1, none⟩ = some (.slice c 2 cap') ∧ W0.drew.cell? ⟨w.heap.size, 2, none⟩ = some (.int .i64 K)) ∧ True := ⟨(KP.out _ c0).cells, trivial⟩
  have hb0 := H1.b
  clear H1
  refine wp_region_ends (fun w' => w'.cell? ⟨w.heap.size, 0, none⟩ = some (.slice a 3 cap) ∧ w'.cell? ⟨w.heap.size, 1, none⟩ = some (.slice c 2 cap') ∧ w'.cell? ⟨w.heap.size, 2, none⟩ = some (.int .i64 K)) (fun _ => True) 9 (by kernel_rfl) ?_
  refine wpAnyE_take0 (i := 0) (v := ?v0) rfl (by kernel_rfl) (by kernel_rfl) (by kernel_rfl) (by decide) (fun _ _ _ h => h) (Or.inl ⟨by rfl, ?hy0⟩) hSS ?_
  case hy0 => (intro wz hSw; (try dsimp only at hSw); go_simp; try (with_reducible rfl))
  refine wpAnyE_take0 (i := 1) (v := ?v1) rfl (by kernel_rfl) (by kernel_rfl) (by kernel_rfl) (by decide) (fun _ _ _ h => h) (Or.inl ⟨by rfl, ?hy1⟩) hSS ?_
  case hy1 => (intro wz hSw; (try dsimp only at hSw); go_simp; try (with_reducible rfl))
  refine wpAnyE_take0 (i := 3) (v := ?v3) rfl (by kernel_rfl) (by kernel_rfl) (by kernel_rfl) (by decide) (fun _ _ _ h => h) (Or.inl ⟨by rfl, ?hy3⟩) hSS ?_
  case hy3 => (intro wz hSw; (try dsimp only at hSw); go_simp; try (with_reducible rfl))
  refine wpAnyE_take0 (i := 4) (v := ?v4) rfl (by kernel_rfl) (by kernel_rfl) (by kernel_rfl) (by decide) (fun _ _ _ h => h) (Or.inl ⟨by rfl, ?hy4⟩) hSS ?_
  case hy4 => (intro wz hSw; (try dsimp only at hSw); go_simp; try (with_reducible rfl))
  refine wpAnyE_take0 (i := 6) (v := ?v6) rfl (by kernel_rfl) (by kernel_rfl) (by kernel_rfl) (by decide) (fun _ _ _ h => h) (Or.inl ⟨by rfl, ?hy6⟩) hSS ?_
  case hy6 => (intro wz hSw; (try dsimp only at hSw); go_simp; try (with_reducible rfl))
  refine wpAnyE_take0 (i := 7) (v := ?v7) rfl (by kernel_rfl) (by kernel_rfl) (by kernel_rfl) (by decide) (fun _ _ _ h => h) (Or.inl ⟨by rfl, ?hy7⟩) hSS ?_
  case hy7 => (intro wz hSw; (try dsimp only at hSw); go_simp; try (with_reducible rfl))
  clear hSS
  have sb0 := hb0.size
  refine wpAnyE_one (i := 2) (by kernel_rfl) rfl (fun K' hK => ?_)
  go_simp
  refine (clone_any _ _ _ C _ ((hC.below hb0).below c0) (by omega) (by omega)).mono ?_
  rintro ee w1 ⟨v1, rfl, j1⟩
  have e1 := below_of_drew j1.b
  obtain ⟨a1, p1, B1, rfl, o1, g1⟩ := j1.ownx hC.1
  have i1 := o1.ints
  obtain ⟨rfl, -, -⟩ := o1.pos (by omega)
  have y1 : W0.heap.size ≤ B1 := g1 (by omega)
  have l1 := o1.lt (by omega)
  clear j1 o1 g1
  (try dsimp only)
  refine hK.out _ _ ⟨(KP.out _ e1).cells, fun _ => trivial⟩ ?_
  clear hK K'
  refine wpAnyE_one (i := 5) (by kernel_rfl) rfl (fun K' hK => ?_)
  go_simp
  refine (clone_any _ _ _ D _ ((hD.below hb0).below e1) (by omega) (by omega)).mono ?_
  rintro ee w2 ⟨v2, rfl, j2⟩
  have e2 := e1.trans (j2.b.mono e1.size)
  have i1' := i1.below j2.b
  obtain ⟨a2, p2, B2, rfl, o2, g2⟩ := j2.ownx hD.1
  have i2 := o2.ints
  obtain ⟨rfl, -, -⟩ := o2.pos (by omega)
  have y2 : w1.heap.size ≤ B2 := g2 (by omega)
  have l2 := o2.lt (by omega)
  have s1 := e1.size
  have s2 := j2.b.size
  clear j2 o2 g2 i1
  (try dsimp only)
  refine hK.out _ _ ⟨(KP.out _ e2).cells, fun _ => trivial⟩ ?_
  clear hK K'
  refine wpAnyE_one (i := 8) (by kernel_rfl) rfl (fun K' hK => ?_)
  go_simp
  refine hK.out _ _ ⟨(KP.out _ e2).cells, fun _ => trivial⟩ ?_
  clear hK K'
  have HY := KP.out _ e2
  obtain ⟨r0, r1, r2, r3, r4, r5⟩ := HY.room
  obtain ⟨s0', s1', s2', -, -, -⟩ := HY.r.trio
  have T : Touch (fun z => z = w.heap.size + 1) w2 (((w2.setCell ⟨w.heap.size + 1, 0, none⟩ (.slice (some ⟨B1, 0, none⟩) 3 p1)).setCell ⟨w.heap.size + 1, 1, none⟩ (.slice (some ⟨B2, 0, none⟩) 2 p2)).setCell ⟨w.heap.size + 1, 2, none⟩ (.int .i64 K)) := (((Touch.refl (fun z => z = w.heap.size + 1) w2).setCell rfl _).setCell rfl _).setCell rfl _
  have r6 := ((HY.r.set 0 (.slice (some ⟨B1, 0, none⟩) 3 p1)).set 1 (.slice (some ⟨B2, 0, none⟩) 2 p2)).set 2 (.int .i64 K)
  simp only [List.set_cons_zero, List.set_cons_succ] at r6
  have p6 := HY.p.touch T (fun h => by have := h; omega)
  obtain ⟨h0, h1, h2, -, -, -⟩ := r6.trio
  obtain ⟨x0, x1, x2, -, -, -⟩ := p6.trio
  refine wpAnyE_one (i := 9) (by kernel_rfl) rfl (fun K' hK => ?_)
  go_simp
  refine hK.out _ _ ⟨⟨x0, x1, x2⟩, fun h => absurd (show true = false from h) (by decide)⟩ ?_
  clear hK K'
  refine wpAnyE_done (by kernel_rfl) ?_ _
  have q1 := i1'.by T (fun b o e => by simp only [Option.some.injEq, Addr.mk.injEq, and_true] at e; omega)
  have q2 := i2.by T (fun b o e => by simp only [Option.some.injEq, Addr.mk.injEq, and_true] at e; omega)
  have BB := (hb0.trans (e2.mono hb0.size)).trans (T.below (by omega) (fun z hz => by omega))
  clear HY r0 r1 r2 r3 r4 r5 s0' s1' s2' r6 p6 x0 x1 x2 T i1' i2
  go_wp2
  refine bodyPost_ret (v := formV (some ⟨B1, 0, none⟩) 3 p1 (some ⟨B2, 0, none⟩) 2 p2 K) (by simp [results, Tryz.results224, go_sem, h0, h1, h2]) rfl ?_
  exact ⟨B1, B2, p1, p2, rfl, BB, by omega, by omega, by omega, q1, q2⟩

theorem Tryz.copiedForm (v : Value) (w : World) : (Go.method 389 98 v "loop.example/concord/impl.copied").run Tryz.prog w = .ok (224, v) w := by kernel_rfl

set_option maxHeartbeats 3200000 in
theorem icopiesBy_any (ad : Option Addr) (N cap : Nat) (fs : List Frm) (w : World) (hN : fs.length = N) (hF : FormsAt w ad fs) (hfit : ∀ k, k < N → fitX 10000000 (fs[k]?.getD ([], [], 0))) (hN1 : N ≤ 1048576) :
    Calls Tryz.prog 173 #[.slice ad N cap, .func (.methodOf 98 "loop.example/concord/impl.copied") #[] #[]] w fun e w' => ∃ v xs, e = .returned v ∧ JV w v N xs fs w' := by
  have HN : Hid (fs.length = N) := hN
  have HFT : Hid _ := hfit
  have HF : Hid (FormsAt w ad fs) := hF
  clear hN hfit hF
  obtain ⟨zi, hi, hz0, hz1, hz2⟩ := info_parts Tryz.infoForm
  have hm := Tryz.copiedForm
  go_enter Tryz.func173, Tryz.ntmps173
  go_wp2_with fail
  go_loopw [5, 7, 10] (fun r _ i wr => ∃ (k : Nat) (xs : List Value), k ≤ N ∧ i = .int .i64 k ∧ JV w r k xs fs wr) (fun _ _ i _ => N - (intOf i).toNat)
  case atStart => exact ⟨0, [], Nat.zero_le _, rfl, JV.nil w _⟩
  case round =>
    obtain ⟨k, xs, hk, rfl, j⟩ := hrel
    by_cases hlt : k < N
    · obtain ⟨va, vc, rfl⟩ := j.isSlice
      have hlt' : (k : Int) < N := by omega
      obtain ⟨b, off, rfl, a', c', ca, cc, c0, c1, c2, iC, iD⟩ := (HF.out.keep j.b) k (by rw [HN.out]; exact hlt)
      have hfit := HFT.out k hlt
      generalize HG : fs[k]?.getD ([], [], 0) = f at *
      have HT : Hid (fs[k]?.getD ([], [], 0) = f) := HG
      clear HG
      obtain ⟨fC, fD, fK⟩ := f
      have lC : fC.length = 3 := hfit.c
      have lD : fD.length = 2 := hfit.d
      simp only at c2 iC iD
      clear hfit
      have A1 : Below wr.heap.size wr (wr.alloc (.cells #[.slice a' 3 ca, .slice c' 2 cc, .int .i64 fK] 98)) := (Below.refl _ _).alloc (Nat.le_refl _) _
      go_wp2_with fail
      refine (icopied_any _ _ _ _ _ fC fD _ (iC.below A1) (iD.below A1)).mono ?_
      rintro ee w3 ⟨Z1, Z2, x0, y0, rfl, b3, z1, z2, z3, k1, k2⟩
      rw [World.size_alloc] at z1 z3
      have b3' := A1.trans (b3.mono A1.size)
      have j3 := j.below b3'
      have sz := j.b.size
      have sz3 := b3'.size
      have A : Below w3.heap.size w3 (w3.alloc (.cells #[.slice (some ⟨Z1, 0, none⟩) 3 x0, .slice (some ⟨Z2, 0, none⟩) 2 y0, .int .i64 fK] 98)) := (Below.refl _ _).alloc (Nat.le_refl _) _
      have j4 := j3.below A
      have k1' := k1.below A
      have k2' := k2.below A
      have n1 : (Value.slice va k vc).ownBlock ≠ some Z1 := fun e => by have := (j.own e).2; omega
      have n2 : (Value.slice va k vc).ownBlock ≠ some Z2 := fun e => by have := (j.own e).2; omega
      clear j j3 c0 c1 c2 iC iD A1 b3 b3'
      go_wp2_with (at_builtin; go_must (refine wpList_append_lies _ rfl (.tmp 14) (.tmp 18) 104 rfl w.heap.size 98 zi _ 3 56 Tryz.underlying104 hi hz0 hz1 hz2 rfl (by decide) (.slice va k vc) k xs rfl j4.o ⟨w3.heap.size, 0, none⟩ 1 1 [.slice (some ⟨Z1, 0, none⟩) 3 x0, .slice (some ⟨Z2, 0, none⟩) 2 y0, .int .i64 fK] rfl rfl (World.news_of_block (cs := #[.slice (some ⟨Z1, 0, none⟩) 3 x0, .slice (some ⟨Z2, 0, none⟩) 2 y0, .int .i64 fK]) (t := 98) (fr := (0, 0)) (heap_alloc_new w3 _)) (by simp [Value.oneCell']) (by omega) (by unfold maxLen; omega) (by omega) (by rw [World.size_alloc]; omega) _ rfl ?_); intro g cp w4 hown hgrow hat hlt1)
      have j5 := j4.app hown hgrow hat rfl k1' k2' n1 n2 (by omega) (by omega) HT.out
      clear hown hgrow hat j4 k1 k2 k1' k2'
      go_wp2
      go_roundw
      case rel => exact ⟨k + 1, _, by omega, by go_num, j5⟩
      case measure => simp [intOf]; omega
    · obtain rfl : k = N := by omega
      go_wp2
      go_ret
      exact ⟨_, xs, rfl, j⟩

theorem icopies_any (ad : Option Addr) (N cap : Nat) (fs : List Frm) (w : World) (hN : fs.length = N) (hF : FormsAt w ad fs) (hfit : ∀ k, k < N → fitX 10000000 (fs[k]?.getD ([], [], 0))) (hN1 : N ≤ 1048576) :
    Calls Tryz.prog 161 #[.slice ad N cap] w fun e w' => ∃ v xs, e = .returned v ∧ JV w v N xs fs w' := by
  go_enter Tryz.func161, Tryz.ntmps161
  go_wp2_with fail
  refine (icopiesBy_any _ _ _ fs _ hN hF hfit hN1).mono ?_
  rintro e w1 ⟨v, xs, rfl, j⟩
  go_wp2
  go_ret
  exact ⟨v, xs, rfl, j⟩

end Go.Proofs.YtdigmokjedckeaaGreatDoor
