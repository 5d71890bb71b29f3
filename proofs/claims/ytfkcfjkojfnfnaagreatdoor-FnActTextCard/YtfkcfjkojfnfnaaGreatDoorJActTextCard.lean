/-
  For all bytes FnActText returns true, and what came in reads behind the call as it did. The library's variables that are listed are as its text lays them; no other condition. (a line's text there and back)
-/
import Derived.Test.YtfkcfjkojfnfnaaGreatDoorDrBe
import Derived.Test.YtfkcfjkojfnfnaaGreatDoorDrAy
import Derived.Test.YtfkcfjkojfnfnaaGreatDoorJActTextCardB
import Derived.Test.YtfkcfjkojfnfnaaGreatDoorFvC
import Derived.Test.YtfkcfjkojfnfnaaGreatDoorOpen
import Derived.Test.YtfkcfjkojfnfnaaGreatDoorTie
import Derived.Test.YtfkcfjkojfnfnaaGreatDoorCards
import Derived.Stop.LaidErr
import Derived.Lib.LaidTab
import Derived.LaidMore
import Derived.Lay
import Derived.SevenTiedAt
import Derived.Stop.Joined
import Derived.HandedShaped
import Derived.ChangeMaps5
namespace Go.Proofs.YtfkcfjkojfnfnaaGreatDoor.fnActText
open Go.ChangeShapes Go.WideShapes Go.ChangeAt Go.RowKit Go.Deep
set_option linter.unusedVariables false
set_option maxRecDepth 100000

theorem open_bytesT {H : Type} {enc : TypeId × Value → H} {W : World} {r : Reach} {b0 : Nat} {v : Value} {d : DataW H} {p : List MemPlace}
    (hv : Value.okWide Tryz.prog W r b0 22 v) (h : DataW.Trod enc Tryz.prog W 0 (fun _ => true) true 22 v d p) : ∃ a n cap zs, v = .slice a n cap ∧ BInts W a n zs ∧ (n ≤ cap ∧ cap ≤ maxLen) := by
  obtain ⟨a0, len0, cap0, rfl⟩ := okWide_slice Tryz.underlying22 hv
  obtain ⟨fuel, hf⟩ := h
  rcases open_ints Tryz.underlying22 Tryz.underlying5 (by kernel_rfl) hf with ⟨hcs, _⟩ | ⟨x, l, c, zs, hcs, _, hl, hm, hz, _, hcell, hwz⟩
  · simp [Value.cells] at hcs
    obtain ⟨rfl, rfl, rfl⟩ := hcs
    exact ⟨none, 0, 0, [], rfl, ⟨rfl, fun i hi => by omega, fun i => by simp⟩, by omega, by unfold maxLen; omega⟩
  · simp [Value.cells] at hcs
    obtain ⟨rfl, rfl, rfl⟩ := hcs
    have hz' : zs.length = cap0 := by simpa using hz
    refine ⟨some x, len0, cap0, zs.take len0, rfl, ⟨by rw [List.length_take]; omega, fun i hi => ?_, fun i => ?_⟩, hl, hm⟩
    · obtain ⟨b, off, spot⟩ := x
      have hc0 := hcell 0 (by omega)
      have hspot : spot = none := by simpa [Addr.add] using World.cell?_spot hc0
      subst hspot
      refine ⟨b, off, rfl, ?_⟩
      have hc := hcell i (by omega)
      have : W.cell? ⟨b, off + i, none⟩ = some (.int .u8 (zs.getD i 0)) := by
        by_cases h0 : i = 0
        · subst h0; simpa [Addr.add] using hc
        · simpa [Addr.add, h0] using hc
      rw [this]
      simp [hi]
    · by_cases hi : i < (zs.take len0).length
      · rw [List.getElem?_eq_getElem hi]
        have := hwz _ (List.mem_of_mem_take (List.getElem_mem hi))
        simpa [Lit.wf, IntKind.min, IntKind.max, IntKind.signed, IntKind.bits] using this
      · rw [List.getElem?_eq_none (by omega)]
        simp

theorem ba_ne (S : ByteArray) : (S != S) = false := by
  have h : (S == S) = true := by
    cases S with | mk d => show (d == d) = true; simp
  simp [bne, h]
theorem itoa9 (z : Int) (h : -10000000 ≤ z ∧ z ≤ 10000000) : (Lib.itoa z).length ≤ 9 := by
  rw [Lib.itoa]
  split
  · rw [List.length_cons]
    have := dec_len 7 _ (show z.natAbs < 10 ^ 8 by omega)
    have e : (-z).toNat = z.natAbs := by omega
    first | omega | (rw [e]; omega)
  · have := dec_len 7 z.toNat (by omega)
    omega
theorem times12 {x : UInt8} {zs : List Int} (hb : ∀ i : Nat, -10000000 ≤ zs[i]?.getD 0 ∧ zs[i]?.getD 0 ≤ 10000000) : ∀ k, k ≤ 9 → (spaced (timesL x zs k)).length ≤ 12 * k
  | 0, _ => by simp [timesL, spaced]
  | k + 1, h => by
    have ih := times12 (x := x) hb k (by omega)
    by_cases h0 : zs[k]?.getD 0 = 0
    · rw [times_zero h0]; omega
    · rw [times_more h0, spaced_snoc]
      have a := itoa9 (zs[k]?.getD 0) (hb k)
      have b : (Lib.itoa (k : Int)).length = 1 := by rw [itoa_small (by omega)]; rfl
      simp only [List.length_append, List.length_cons, List.length_nil]
      omega
theorem bnd_at {zs : List Int} {M : Int} (h : bnd M zs) : ∀ i : Nat, -M ≤ zs[i]?.getD 0 ∧ zs[i]?.getD 0 ≤ M := h
theorem ftext_len {n m : Nat} {C D : List Int} {K : Int} : (formText n m C D K).length ≤ 70 := by
  cases h : formB n m C D K
  · rw [formText_no h]; simp
  · obtain ⟨_, _, bC, bD, k1, k2⟩ := formB_elim h
    rw [formText_yes h, spaced_append, List.length_append, List.length_append]
    have a := times12 (x := 120) (bnd_at bC) 3 (by omega)
    have b := times12 (x := 97) (bnd_at bD) 2 (by omega)
    have c := itoa9 K ⟨k1, k2⟩
    omega
theorem line_oneA {p z : Int} {n m : Nat} {C D : List Int} {K : Int} (h : lineB 1 p z n m C D K = true) : 1 ≤ z ∧ z ≤ 6 := by
  unfold lineB at h
  rw [if_pos rfl] at h
  simp only [Bool.and_eq_true] at h
  exact inB_iff.1 h.1.2
theorem line_twoA {p z : Int} {n m : Nat} {C D : List Int} {K : Int} (h : lineB 2 p z n m C D K = true) : 0 ≤ p ∧ p ≤ 2 := by
  unfold lineB at h
  rw [if_neg (by omega), if_pos rfl] at h
  simp only [Bool.and_eq_true] at h
  exact inB_iff.1 h.1.1
theorem atext_len {L : LR} : (actText L).length ≤ 120 := by
  obtain ⟨k, p, z, C, D, K⟩ := L
  cases h : lineB k p z C.length D.length C D K
  · rw [actText_no h]; simp
  · have hf := ftext_len (n := C.length) (m := D.length) (C := C) (D := D) (K := K)
    have ht : (textF (C, D, K)).length ≤ 70 := hf
    rw [actText_yes h]
    by_cases h1 : k = 1
    · subst h1
      have hz := line_oneA h
      have := itoa9 z (by omega)
      rw [if_pos rfl]
      simp only [testW, List.length_append, List.length_cons, List.length_nil]
      omega
    · rw [if_neg h1]
      by_cases h2 : k = 2
      · subst h2
        have hz := line_twoA h
        have := itoa9 p (by omega)
        rw [if_pos rfl]
        simp only [addW, List.length_append, List.length_cons, List.length_nil]
        omega
      · rw [if_neg h2]
        by_cases h3 : k = 3
        · rw [if_pos h3]
          simp only [printW, List.length_append, List.length_cons, List.length_nil]
          omega
        · rw [if_neg h3]; decide
theorem raS_text {l : List UInt8} {L : LR} (h : raS l = (L, true)) : actText L = l := by
  rw [raS] at h
  split at h
  · rename_i hb
    have e : lineS l = L := congrArg Prod.fst h
    rw [e] at hb
    exact hb.2
  · have := congrArg Prod.snd h
    simp [noA] at this
theorem raS_back {L : LR} (h : actText L ≠ []) : raS (actText L) = (L, true) := by
  obtain ⟨e, _⟩ := act_back h atext_len rfl
  rw [raS, e, if_pos ⟨h, rfl⟩]
theorem empty_is {l : List UInt8} : (⟨l.toArray⟩ : ByteArray).toList.isEmpty = l.isEmpty := by simp [ByteArray.toList_mk]
theorem own_ints {w : World} {a : Option Addr} {B n : Nat} {zs : List Int} (h : OwnAt w a B zs) (hn : zs.length = n) : Ints w a n zs := by
  subst hn
  exact h.ints
set_option maxHeartbeats 1600000 in
theorem coLn_any (l g : LV) (w : World) (h : l.f.At w) (h' : g.f.At w) (e1 : l.kind = g.kind) (e2 : l.pot = g.pot) (e3 : l.skip = g.skip) (e4 : l.f.C = g.f.C) (e5 : l.f.D = g.f.D) (e6 : l.f.K = g.f.K) :
    Calls Tryz.prog 18 #[lnV l, lnV g] w fun e w' => e = .returned (.bool true) ∧ Below w.heap.size w w' := by
  obtain ⟨kind, pot, skip, a, n, cap, c, m, cap', K, C, D⟩ := l
  obtain ⟨kind', pot', skip', a', n', cp, c', m', cp', K', C', D'⟩ := g
  dsimp only at e1 e2 e3 e4 e5 e6
  subst e1 e2 e3 e4 e5 e6
  obtain ⟨hC, hD, hn, hm⟩ := h
  obtain ⟨hC', hD', hn', hm'⟩ := h'
  dsimp only at hC hD hn hm hC' hD' hn' hm'
  have k1 : (kind == kind) = true := by simp
  have k2 : (pot == pot) = true := by simp
  have k3 : (skip == skip) = true := by simp
  go_enter Tryz.func18, Tryz.ntmps18
  have al := (Below.refl (w).heap.size (w)).alloc (Nat.le_refl _) (.cells #[.int .i64 kind, .int .i64 pot, .int .i64 skip, .slice a n cap, .slice c m cap', .int .i64 K] 36)
  have BB := al
  replace hC := hC.below al
  replace hD := hD.below al
  replace hC' := hC'.below al
  replace hD' := hD'.below al
  clear al
  have q2 := Cel.new (w) [.int .i64 kind, .int .i64 pot, .int .i64 skip, .slice a n cap, .slice c m cap', .int .i64 K] 36
  have al := (Below.refl ((w).alloc (.cells #[.int .i64 kind, .int .i64 pot, .int .i64 skip, .slice a n cap, .slice c m cap', .int .i64 K] 36)).heap.size ((w).alloc (.cells #[.int .i64 kind, .int .i64 pot, .int .i64 skip, .slice a n cap, .slice c m cap', .int .i64 K] 36))).alloc (Nat.le_refl _) (.cells #[.int .i64 kind, .int .i64 pot, .int .i64 skip, .slice a' n' cp, .slice c' m' cp', .int .i64 K] 36)
  replace BB := BB.trans (al.mono BB.size)
  replace hC := hC.below al
  replace hD := hD.below al
  replace hC' := hC'.below al
  replace hD' := hD'.below al
  replace q2 := q2.below al
  clear al
  have q3 := Cel.new ((w).alloc (.cells #[.int .i64 kind, .int .i64 pot, .int .i64 skip, .slice a n cap, .slice c m cap', .int .i64 K] 36)) [.int .i64 kind, .int .i64 pot, .int .i64 skip, .slice a' n' cp, .slice c' m' cp', .int .i64 K] 36
  simp only [World.size_alloc] at q3
  have g2_0 := q2.cell 0
  have g2_1 := q2.cell 1
  have g2_2 := q2.cell 2
  have g2_3 := q2.cell 3
  have g2_4 := q2.cell 4
  have g2_5 := q2.cell 5
  have g3_0 := q3.cell 0
  have g3_1 := q3.cell 1
  have g3_2 := q3.cell 2
  have g3_3 := q3.cell 3
  have g3_4 := q3.cell 4
  have g3_5 := q3.cell 5
  simp only [List.getElem?_cons_zero, List.getElem?_cons_succ] at g2_0 g2_1 g2_2 g2_3 g2_4 g2_5 g3_0 g3_1 g3_2 g3_3 g3_4 g3_5
  go_wp2_with fail
  obtain ⟨W1, hW1⟩ : ∃ W, W = ((w).alloc (.cells #[.int .i64 kind, .int .i64 pot, .int .i64 skip, .slice a n cap, .slice c m cap', .int .i64 K] 36)).alloc (.cells #[.int .i64 kind, .int .i64 pot, .int .i64 skip, .slice a' n' cp, .slice c' m' cp', .int .i64 K] 36) := ⟨_, rfl⟩
  rw [← hW1]
  rw [← hW1] at hC hD hC' hD' q2 q3 BB g2_0 g2_1 g2_2 g2_3 g2_4 g2_5 g3_0 g3_1 g3_2 g3_3 g3_4 g3_5
  clear hW1
  obtain ⟨X3, hX3⟩ : ∃ x, x = w.heap.size + 1 := ⟨_, rfl⟩
  rw [← hX3]
  rw [← hX3] at q3 g3_0 g3_1 g3_2 g3_3 g3_4 g3_5
  clear hX3
  obtain ⟨X2, hX2⟩ : ∃ x, x = w.heap.size := ⟨_, rfl⟩
  rw [← hX2]
  rw [← hX2] at q2 g2_0 g2_1 g2_2 g2_3 g2_4 g2_5
  clear hX2
  refine (coF_any (C, D, K) (C, D, K) a n cap c m cap' a' n' cp c' m' cp' _ ⟨hC, hD, hn, hm⟩ ⟨hC', hD', hn', hm'⟩).mono ?_
  rintro ee w2 ⟨rfl, b1⟩
  rw [coP_same]
  clear g2_0 g2_1 g2_2 g2_3 g2_4 g2_5 g3_0 g3_1 g3_2 g3_3 g3_4 g3_5
  replace BB := BB.trans (b1.mono BB.size)
  replace hC := hC.below b1
  replace hD := hD.below b1
  replace hC' := hC'.below b1
  replace hD' := hD'.below b1
  replace q2 := q2.below b1
  replace q3 := q3.below b1
  clear b1
  go_wp2
  go_ret
  exact ⟨rfl, BB⟩
set_option maxHeartbeats 6400000 in
theorem anyline_f (R : Nat) (a : Option Addr) (n cap : Nat) (bs : List Int) (p M : Int) (w : World) (hR : Rd w R a n cap bs p) (hp : 0 ≤ p) (hp1 : p ≤ 4000000) (hM : 1 ≤ M) (hM1 : M ≤ 1000) (ha : 0 < n → ∀ b o, a = some ⟨b, o, none⟩ → b < w.heap.size) :
    Calls Tryz.prog 37 #[.pointer (some ⟨R, 0, none⟩), .int .i64 M] w fun e w' => ∃ l q, e = .returned (lnV l) ∧ Touch (fun x => x = R) w w' ∧ Rd w' R a n cap bs q ∧ l.f.At w' ∧ (∀ b o, l.f.a = some ⟨b, o, none⟩ → w.heap.size < b) ∧ (∀ b o, l.f.c = some ⟨b, o, none⟩ → w.heap.size < b) ∧ p ≤ q ∧ q ≤ p + 200 := by
  have hRl := hR.c.lt
  have q0 := Cel.new w [.int .i64 0, .int .i64 0, .int .i64 0, .slice none 0 0, .slice none 0 0, .int .i64 0] 36
  have al := (Below.refl w.heap.size w).alloc (Nat.le_refl _) (.cells #[.int .i64 0, .int .i64 0, .int .i64 0, .slice none 0 0, .slice none 0 0, .int .i64 0] 36)
  go_enter Tryz.func37, Tryz.ntmps37
  go_wp2_with fail
  refine (any_f R a n cap bs p M _ (hR.below al) (by omega) (by omega) (by omega) (by omega) (hR.below al).ha).mono ?_
  rintro e w2 ⟨ad, N, c, ls, q, rfl, j, hN, hN8, y0, y1⟩
  have HN : Hid (ls.length = N) := hN
  clear hN
  have z1 : (w.alloc (.cells #[.int .i64 0, .int .i64 0, .int .i64 0, .slice none 0 0, .slice none 0 0, .int .i64 0] 36)).heap.size = w.heap.size + 1 := World.size_alloc _ _
  have jt := j.t
  have jr := j.r
  have zt := jt.size
  have q2 := q0.touch jt (by omega)
  by_cases h0 : N = 0
  · subst h0
    clear j
    go_wp2_with fail
    refine (line_f R a n cap bs q _ jr (by omega) (by omega) jr.ha).mono ?_
    rintro e w3 ⟨l, q3, rfl, d⟩
    have x0 := d.q0
    have x1 := d.q1
    have la := d.la
    have lc := d.lc
    have at3 := d.at'
    have r3 := d.r
    have t3 := ((Touch.of (S := fun x => x = R) al).trans jt).trans d.t
    replace q2 := q2.touch d.t (by omega)
    clear d jr
    have g0 := q2.cell 0
    have g1 := q2.cell 1
    have g2 := q2.cell 2
    have g3 := q2.cell 3
    have g4 := q2.cell 4
    have g5 := q2.cell 5
    have f0 := q2.free 0
    have f1 := q2.free 1
    have f2 := q2.free 2
    have f3 := q2.free 3
    have f4 := q2.free 4
    have f5 := q2.free 5
    have ll := q2.lt
    simp only [List.getElem?_cons_zero, List.getElem?_cons_succ] at g0 g1 g2 g3 g4 g5
    go_wp2
    refine bodyPost_ret (v := lnV l) (by simp [results, Tryz.results37, go_sem, g0, g1, g2, g3, g4, g5]) rfl ⟨l, q3, rfl, ((((((t3.setNewF (Nat.le_refl _) 0 _).setNewF (Nat.le_refl _) 1 _).setNewF (Nat.le_refl _) 2 _).setNewF (Nat.le_refl _) 3 _).setNewF (Nat.le_refl _) 4 _).setNewF (Nat.le_refl _) 5 _), ((((((r3.setNew (by omega) (fun h0 b o e => by have := ha h0 b o e; omega) 0 _).setNew (by omega) (fun h0 b o e => by have := ha h0 b o e; omega) 1 _).setNew (by omega) (fun h0 b o e => by have := ha h0 b o e; omega) 2 _).setNew (by omega) (fun h0 b o e => by have := ha h0 b o e; omega) 3 _).setNew (by omega) (fun h0 b o e => by have := ha h0 b o e; omega) 4 _).setNew (by omega) (fun h0 b o e => by have := ha h0 b o e; omega) 5 _), ⟨((((((at3.C.setFar (fun b o e => by have := la b o e; omega) 0 _).setFar (fun b o e => by have := la b o e; omega) 1 _).setFar (fun b o e => by have := la b o e; omega) 2 _).setFar (fun b o e => by have := la b o e; omega) 3 _).setFar (fun b o e => by have := la b o e; omega) 4 _).setFar (fun b o e => by have := la b o e; omega) 5 _), ((((((at3.D.setFar (fun b o e => by have := lc b o e; omega) 0 _).setFar (fun b o e => by have := lc b o e; omega) 1 _).setFar (fun b o e => by have := lc b o e; omega) 2 _).setFar (fun b o e => by have := lc b o e; omega) 3 _).setFar (fun b o e => by have := lc b o e; omega) 4 _).setFar (fun b o e => by have := lc b o e; omega) 5 _), at3.hn, at3.hm⟩, fun b o e => by (have := la b o e; omega), fun b o e => by (have := lc b o e; omega), by omega, by omega⟩
  · have hN1 : 0 < N := by omega
    have h0' : ((N : Int) == 0) = false := by simp; omega
    go_wp2_with fail
    refine (pick_any R a n cap bs q (N : Int) _ jr (by omega) (by omega) (by omega) (by omega)).mono ?_
    rintro e w3 ⟨k, k0, k1, rfl, t5, R5⟩
    obtain ⟨k, rfl⟩ := Int.eq_ofNat_of_zero_le k0
    have hk : k < N := by omega
    have hkl : k < ls.length := by rw [HN.out]; exact hk
    replace j := j.pick t5 R5
    have t3 := ((Touch.of (S := fun x => x = R) al).trans jt).trans t5
    replace q2 := q2.touch t5 (by omega)
    have g := j.g HN.out
    have na := j.na k hkl
    have nc := j.nc k hkl
    obtain ⟨b, off, rfl, hc, at3⟩ := g k hkl
    have d0 := hc 0 (by omega)
    have d1 := hc 1 (by omega)
    have d2 := hc 2 (by omega)
    have d3 := hc 3 (by omega)
    have d4 := hc 4 (by omega)
    have d5 := hc 5 (by omega)
    generalize ls[k]?.getD noLV = l at na nc at3 d0 d1 d2 d3 d4 d5
    simp only [LV.cs, List.getElem?_cons_zero, List.getElem?_cons_succ, Nat.add_zero] at d0 d1 d2 d3 d4 d5
    have la : ∀ b o, l.f.a = some ⟨b, o, none⟩ → w.heap.size + 1 ≤ b ∧ True := fun b o e => ⟨by have := (na b o e).1; omega, trivial⟩
    have lc : ∀ b o, l.f.c = some ⟨b, o, none⟩ → w.heap.size + 1 ≤ b ∧ True := fun b o e => ⟨by have := (nc b o e).1; omega, trivial⟩
    have r3 := R5
    have zt3 := t5.size
    clear g hc na nc jr j t5
    have g0 := q2.cell 0
    have g1 := q2.cell 1
    have g2 := q2.cell 2
    have g3 := q2.cell 3
    have g4 := q2.cell 4
    have g5 := q2.cell 5
    have f0 := q2.free 0
    have f1 := q2.free 1
    have f2 := q2.free 2
    have f3 := q2.free 3
    have f4 := q2.free 4
    have f5 := q2.free 5
    have ll := q2.lt
    simp only [List.getElem?_cons_zero, List.getElem?_cons_succ] at g0 g1 g2 g3 g4 g5
    go_wp2
    refine bodyPost_ret (v := lnV l) (by simp [results, Tryz.results37, go_sem, g0, g1, g2, g3, g4, g5]) rfl ⟨l, q + 1, rfl, ((((((t3.setNewF (Nat.le_refl _) 0 _).setNewF (Nat.le_refl _) 1 _).setNewF (Nat.le_refl _) 2 _).setNewF (Nat.le_refl _) 3 _).setNewF (Nat.le_refl _) 4 _).setNewF (Nat.le_refl _) 5 _), ((((((r3.setNew (by omega) (fun h0 b o e => by have := ha h0 b o e; omega) 0 _).setNew (by omega) (fun h0 b o e => by have := ha h0 b o e; omega) 1 _).setNew (by omega) (fun h0 b o e => by have := ha h0 b o e; omega) 2 _).setNew (by omega) (fun h0 b o e => by have := ha h0 b o e; omega) 3 _).setNew (by omega) (fun h0 b o e => by have := ha h0 b o e; omega) 4 _).setNew (by omega) (fun h0 b o e => by have := ha h0 b o e; omega) 5 _), ⟨((((((at3.C.setFar (fun b o e => by have := la b o e; omega) 0 _).setFar (fun b o e => by have := la b o e; omega) 1 _).setFar (fun b o e => by have := la b o e; omega) 2 _).setFar (fun b o e => by have := la b o e; omega) 3 _).setFar (fun b o e => by have := la b o e; omega) 4 _).setFar (fun b o e => by have := la b o e; omega) 5 _), ((((((at3.D.setFar (fun b o e => by have := lc b o e; omega) 0 _).setFar (fun b o e => by have := lc b o e; omega) 1 _).setFar (fun b o e => by have := lc b o e; omega) 2 _).setFar (fun b o e => by have := lc b o e; omega) 3 _).setFar (fun b o e => by have := lc b o e; omega) 4 _).setFar (fun b o e => by have := lc b o e; omega) 5 _), at3.hn, at3.hm⟩, fun b o e => by (have := la b o e; omega), fun b o e => by (have := lc b o e; omega), by omega, by omega⟩
set_option maxHeartbeats 1600000 in
theorem dActText (a : Option Addr) (n cap : Nat) (bs : List Int) (w : World) (h : BInts w a n bs) (hn : n ≤ cap) (hn1 : n ≤ 1048576) (hc : cap ≤ maxLen) :
    Calls Tryz.prog 12 #[.slice a n cap] w fun e w' => ∃ l : LV, e = .returned (lnV l) ∧ Below w.heap.size w w' ∧ l.f.At w' := by
  have q0 := Cel.new w [.int .i64 0, .int .i64 0, .int .i64 0, .slice none 0 0, .slice none 0 0, .int .i64 0] 36
  have al := (Below.refl w.heap.size w).alloc (Nat.le_refl _) (.cells #[.int .i64 0, .int .i64 0, .int .i64 0, .slice none 0 0, .slice none 0 0, .int .i64 0] 36)
  go_enter Tryz.func12, Tryz.ntmps12
  go_wp2_with fail
  refine (open_any _ _ _ bs _ (h.below al) hn hn1 hc).mono ?_
  rintro e w1 ⟨R, n', cap2, bs', rfl, b1, hR, r1⟩
  rw [World.size_alloc] at hR
  have hRl := r1.c.lt
  have hw := (q0.below b1).lt
  go_wp2_with fail
  refine (anyline_f R a n' cap2 bs' 0 3 _ r1 (by omega) (by omega) (by omega) (by omega) r1.ha).mono ?_
  rintro e w3 ⟨l, q, rfl, t2, r2, at3, la, lc, x0, x1⟩
  have q2 := (q0.below b1).touch t2 (by omega)
  have BB : Below w.heap.size w w3 := (al.trans (b1.mono al.size)).trans (t2.below (by omega) (fun k hk => by omega))
  clear r1 r2
  have g0 := q2.cell 0
  have g1 := q2.cell 1
  have g2 := q2.cell 2
  have g3 := q2.cell 3
  have g4 := q2.cell 4
  have g5 := q2.cell 5
  have f0 := q2.free 0
  have f1 := q2.free 1
  have f2 := q2.free 2
  have f3 := q2.free 3
  have f4 := q2.free 4
  have f5 := q2.free 5
  have ll := q2.lt
  simp only [List.getElem?_cons_zero, List.getElem?_cons_succ] at g0 g1 g2 g3 g4 g5
  go_wp2
  refine bodyPost_ret (v := lnV l) (by simp [results, Tryz.results12, go_sem, g0, g1, g2, g3, g4, g5]) rfl ⟨l, rfl, ((((((BB.setCell (Nat.le_refl _) _).setCell (Nat.le_refl _) _).setCell (Nat.le_refl _) _).setCell (Nat.le_refl _) _).setCell (Nat.le_refl _) _).setCell (Nat.le_refl _) _), ⟨((((((at3.C.setFar (fun b o e => by have := la b o e; omega) 0 _).setFar (fun b o e => by have := la b o e; omega) 1 _).setFar (fun b o e => by have := la b o e; omega) 2 _).setFar (fun b o e => by have := la b o e; omega) 3 _).setFar (fun b o e => by have := la b o e; omega) 4 _).setFar (fun b o e => by have := la b o e; omega) 5 _), ((((((at3.D.setFar (fun b o e => by have := lc b o e; omega) 0 _).setFar (fun b o e => by have := lc b o e; omega) 1 _).setFar (fun b o e => by have := lc b o e; omega) 2 _).setFar (fun b o e => by have := lc b o e; omega) 3 _).setFar (fun b o e => by have := lc b o e; omega) 4 _).setFar (fun b o e => by have := lc b o e; omega) 5 _), at3.hn, at3.hm⟩⟩
set_option maxHeartbeats 1600000 in
theorem dActRead (a : Option Addr) (n cap : Nat) (bs : List Int) (w : World) (h : BInts w a n bs) (hn : n ≤ cap) (hn1 : n ≤ 1048576) (hc : cap ≤ maxLen) :
    Calls Tryz.prog 14 #[.slice a n cap] w fun e w' => ∃ l : List UInt8, e = .returned (.string ⟨l.toArray⟩) ∧ Below w.heap.size w w' ∧ l.length ≤ 1000 := by
  go_enter Tryz.func14, Tryz.ntmps14
  go_wp2_with fail
  refine (open_any _ _ _ bs _ h hn hn1 hc).mono ?_
  rintro e w1 ⟨R, n', cap2, bs', rfl, b1, hR, r1⟩
  have hRl := r1.c.lt
  go_wp2_with fail
  refine (anyline_f R a n' cap2 bs' 0 99 _ r1 (by omega) (by omega) (by omega) (by omega) r1.ha).mono ?_
  rintro e w2 ⟨l, q, rfl, t2, r2, at2, la, lc, q0, q1⟩
  have z2 := t2.size
  clear r1
  go_wp2_with fail
  refine (satext_any l.kind l.pot l.skip _ _ _ _ _ _ l.f.K l.f.C l.f.D _ at2.C at2.D at2.hn at2.hm).mono ?_
  rintro e w3 ⟨rfl, b3⟩
  obtain ⟨S, hS⟩ : ∃ S : ByteArray, S = ⟨(actText (l.kind, l.pot, l.skip, l.f.C, l.f.D, l.f.K)).toArray⟩ := ⟨_, rfl⟩
  have hS1 : S.size ≤ 120 := by
    rw [hS]
    have := atext_len (L := (l.kind, l.pot, l.skip, l.f.C, l.f.D, l.f.K))
    simpa [ByteArray.size] using this
  rw [← hS]
  have r3 := r2.below b3
  clear hS at2 r2
  go_wp2_with fail
  refine (maybe_f R a n' cap2 bs' q S _ r3 (by omega) (by omega) (by omega) r3.ha).mono ?_
  rintro e w4 ⟨S2, q4, rfl, s4, t4, r4, x0, x1⟩
  have BB : Below w.heap.size w w4 := b1.trans (((t2.trans (Touch.of b3)).trans t4).below (by have := b1.size; omega) (fun k hk => by omega))
  obtain ⟨l2, rfl, hl⟩ := bytes_ex S2
  clear r3 r4
  go_wp2
  go_ret
  exact ⟨l2, rfl, BB, by omega⟩

set_option maxHeartbeats 6400000 in
theorem walk (w : World) (a : Option Addr) (n cap : Nat) (A0 : List Int) (hA0 : BInts w a n A0) (hn : n ≤ cap ∧ cap ≤ maxLen) (c : Option Addr) (m cap' : Nat) (B0 : List Int) (hB0 : BInts w c m B0) (hm : m ≤ cap' ∧ cap' ≤ maxLen) (hA : ReadsN w) (hP : Splits w) (hU : Cuts w) (hT : Lib.TabBelow Tryz.prog w.heap.size w "internal/strconv.uint64pow10" .u64 Lib.pow10Tab) :
    Calls Tryz.prog 4 #[.slice a n cap, .slice c m cap'] w fun e w' => e = .returned (.bool true) ∧ Below w.heap.size w w' := by
  obtain ⟨hn2, hn3⟩ := hn
  obtain ⟨hm2, hm3⟩ := hm
  by_cases hn1 : n ≤ 1048576
  · by_cases hm1 : m ≤ 1048576
    · have HTB : Hid _ := hT
      have HA : Hid _ := hA
      have HP : Hid _ := hP
      have HU : Hid _ := hU
      clear hT hA hP hU
      go_enter Tryz.func4, Tryz.ntmps4
      go_wp2_with fail
      refine (dActText _ _ _ A0 _ hA0 hn2 hn1 hn3).mono ?_
      rintro ee w1 ⟨ln, rfl, b1, hX⟩
      have BB := b1
      replace hB0 := hB0.below b1
      clear b1
      obtain ⟨kd, pt, sk, fa, fn, fc, fb, fm, fd, FK, FC, FD⟩ := ln
      have hF : FA w1 fa fn fb fm (FC, FD, FK) := ⟨hX.C, hX.D, hX.hn, hX.hm⟩
      clear hX
      dsimp only
      have HN : Hid (FC.length = fn ∧ FD.length = fm) := ⟨hF.C.1, hF.D.1⟩
      have al := (Below.refl (w1).heap.size (w1)).alloc (Nat.le_refl _) (.cells #[.int .i64 kd, .int .i64 pt, .int .i64 sk, .slice fa fn fc, .slice fb fm fd, .int .i64 FK] 36)
      replace BB := BB.trans (al.mono BB.size)
      replace hB0 := hB0.below al
      replace hF := hF.below al
      clear al
      have q5 := Cel.new (w1) [.int .i64 kd, .int .i64 pt, .int .i64 sk, .slice fa fn fc, .slice fb fm fd, .int .i64 FK] 36
      have g5_0 := q5.cell 0
      have g5_1 := q5.cell 1
      have g5_2 := q5.cell 2
      have g5_3 := q5.cell 3
      have g5_4 := q5.cell 4
      have g5_5 := q5.cell 5
      simp only [List.getElem?_cons_zero, List.getElem?_cons_succ] at g5_0 g5_1 g5_2 g5_3 g5_4 g5_5
      go_wp2_with fail
      obtain ⟨W2, hW2⟩ : ∃ W, W = (w1).alloc (.cells #[.int .i64 kd, .int .i64 pt, .int .i64 sk, .slice fa fn fc, .slice fb fm fd, .int .i64 FK] 36) := ⟨_, rfl⟩
      rw [← hW2]
      rw [← hW2] at hB0 hF q5 BB g5_0 g5_1 g5_2 g5_3 g5_4 g5_5
      clear hW2
      obtain ⟨X5, hX5⟩ : ∃ x, x = w1.heap.size := ⟨_, rfl⟩
      rw [← hX5]
      rw [← hX5] at q5 g5_0 g5_1 g5_2 g5_3 g5_4 g5_5
      clear hX5
      refine (iatext_any kd pt sk fa fn fc fb fm fd FK FC FD _ hF.C hF.D hF.hn hF.hm (fun X hX => HTB.out X (BB.trans (hX.mono BB.size)))).mono ?_
      rintro ee w3 ⟨rfl, b2⟩
      clear g5_0 g5_1 g5_2 g5_3 g5_4 g5_5
      replace BB := BB.trans (b2.mono BB.size)
      replace hB0 := hB0.below b2
      replace hF := hF.below b2
      replace q5 := q5.below b2
      clear b2
      obtain ⟨S, hS⟩ : ∃ S : ByteArray, S = ⟨(actText (kd, pt, sk, FC, FD, FK)).toArray⟩ := ⟨_, rfl⟩
      have HS : Hid (S = ⟨(actText (kd, pt, sk, FC, FD, FK)).toArray⟩) := hS
      rw [← hS]
      clear hS
      have g5_0 := q5.cell 0
      have g5_1 := q5.cell 1
      have g5_2 := q5.cell 2
      have g5_3 := q5.cell 3
      have g5_4 := q5.cell 4
      have g5_5 := q5.cell 5
      simp only [List.getElem?_cons_zero, List.getElem?_cons_succ] at g5_0 g5_1 g5_2 g5_3 g5_4 g5_5
      go_wp2_with fail
      refine (dActRead _ _ _ B0 _ hB0 hm2 hm1 hm3).mono ?_
      rintro ee w4 ⟨l, rfl, b3, hl⟩
      clear g5_0 g5_1 g5_2 g5_3 g5_4 g5_5
      replace BB := BB.trans (b3.mono BB.size)
      replace hB0 := hB0.below b3
      replace hF := hF.below b3
      replace q5 := q5.below b3
      clear b3
      clear hB0
      obtain ⟨⟨⟨kk, pp, zz, C, D, K⟩, ok⟩, hR⟩ : ∃ r, raS l = r := ⟨_, rfl⟩
      have HF : Hid (raS l = ((kk, pp, zz, C, D, K), ok)) := hR
      obtain ⟨n2, hn4⟩ : ∃ n, C.length = n := ⟨_, rfl⟩
      obtain ⟨m2, hm4⟩ : ∃ n, D.length = n := ⟨_, rfl⟩
      have HM : Hid (C.length = n2 ∧ D.length = m2) := ⟨hn4, hm4⟩
      have hsm := ra_small hR
      rw [hn4, hm4] at hsm
      obtain ⟨hs1, hs2⟩ := hsm
      clear hR hn4 hm4
      obtain ⟨L, hL⟩ : ∃ L : ByteArray, L = ⟨l.toArray⟩ := ⟨_, rfl⟩
      have HL : Hid (L = ⟨l.toArray⟩) := hL
      have hl0 : l.length ≤ 1048576 := by omega
      have g5_0 := q5.cell 0
      have g5_1 := q5.cell 1
      have g5_2 := q5.cell 2
      have g5_3 := q5.cell 3
      have g5_4 := q5.cell 4
      have g5_5 := q5.cell 5
      simp only [List.getElem?_cons_zero, List.getElem?_cons_succ] at g5_0 g5_1 g5_2 g5_3 g5_4 g5_5
      go_wp2_with fail
      clear hL
      refine (iaread_at HF.out HM.out.1 HM.out.2 _ hl0 (ReadsN.below HA.out BB) (fun W hW => HP.out W (BB.trans (hW.mono BB.size))) (Cuts.below HU.out BB) (fun X hX => HTB.out X (BB.trans (hX.mono BB.size)))).mono ?_
      rintro ee w5 ⟨a1, c1, a2, c2, B1, B2, rfl, b4, o1, o2, _, _, _⟩
      clear g5_0 g5_1 g5_2 g5_3 g5_4 g5_5
      replace BB := BB.trans (b4.mono BB.size)
      replace hF := hF.below b4
      replace q5 := q5.below b4
      clear b4
      have hg : FA w5 a1 n2 a2 m2 (C, D, K) := ⟨own_ints o1 HM.out.1, own_ints o2 HM.out.2, by omega, by omega⟩
      clear o1 o2
      rw [← HL.out]
      have al := (Below.refl (w5).heap.size (w5)).alloc (Nat.le_refl _) (.cells #[.int .i64 kk, .int .i64 pp, .int .i64 zz, .slice a1 n2 c1, .slice a2 m2 c2, .int .i64 K] 36)
      replace BB := BB.trans (al.mono BB.size)
      replace hF := hF.below al
      replace hg := hg.below al
      replace q5 := q5.below al
      clear al
      have q8 := Cel.new (w5) [.int .i64 kk, .int .i64 pp, .int .i64 zz, .slice a1 n2 c1, .slice a2 m2 c2, .int .i64 K] 36
      have g5_0 := q5.cell 0
      have g5_1 := q5.cell 1
      have g5_2 := q5.cell 2
      have g5_3 := q5.cell 3
      have g5_4 := q5.cell 4
      have g5_5 := q5.cell 5
      have g8_0 := q8.cell 0
      have g8_1 := q8.cell 1
      have g8_2 := q8.cell 2
      have g8_3 := q8.cell 3
      have g8_4 := q8.cell 4
      have g8_5 := q8.cell 5
      simp only [List.getElem?_cons_zero, List.getElem?_cons_succ] at g5_0 g5_1 g5_2 g5_3 g5_4 g5_5 g8_0 g8_1 g8_2 g8_3 g8_4 g8_5
      go_wp2_with fail
      obtain ⟨W6, hW6⟩ : ∃ W, W = (w5).alloc (.cells #[.int .i64 kk, .int .i64 pp, .int .i64 zz, .slice a1 n2 c1, .slice a2 m2 c2, .int .i64 K] 36) := ⟨_, rfl⟩
      rw [← hW6]
      rw [← hW6] at hF hg q5 q8 BB g5_0 g5_1 g5_2 g5_3 g5_4 g5_5 g8_0 g8_1 g8_2 g8_3 g8_4 g8_5
      clear hW6
      obtain ⟨X8, hX8⟩ : ∃ x, x = w5.heap.size := ⟨_, rfl⟩
      rw [← hX8]
      rw [← hX8] at q8 g8_0 g8_1 g8_2 g8_3 g8_4 g8_5
      clear hX8
      rw [HL.out]
      refine (saread_at HF.out HM.out.1 HM.out.2 _).mono ?_
      rintro ee w7 ⟨a3, c3, a4, c4, rfl, b5, i3, i4⟩
      clear g5_0 g5_1 g5_2 g5_3 g5_4 g5_5 g8_0 g8_1 g8_2 g8_3 g8_4 g8_5
      replace BB := BB.trans (b5.mono BB.size)
      replace hF := hF.below b5
      replace hg := hg.below b5
      replace q5 := q5.below b5
      replace q8 := q8.below b5
      clear b5
      have hw : FA w7 a3 n2 a4 m2 (C, D, K) := ⟨i3, i4, by omega, by omega⟩
      clear i3 i4
      rw [← HL.out]
      have al := (Below.refl (w7).heap.size (w7)).alloc (Nat.le_refl _) (.cells #[.int .i64 kk, .int .i64 pp, .int .i64 zz, .slice a3 n2 c3, .slice a4 m2 c4, .int .i64 K] 36)
      replace BB := BB.trans (al.mono BB.size)
      replace hF := hF.below al
      replace hg := hg.below al
      replace hw := hw.below al
      replace q5 := q5.below al
      replace q8 := q8.below al
      clear al
      have q10 := Cel.new (w7) [.int .i64 kk, .int .i64 pp, .int .i64 zz, .slice a3 n2 c3, .slice a4 m2 c4, .int .i64 K] 36
      have g5_0 := q5.cell 0
      have g5_1 := q5.cell 1
      have g5_2 := q5.cell 2
      have g5_3 := q5.cell 3
      have g5_4 := q5.cell 4
      have g5_5 := q5.cell 5
      have g8_0 := q8.cell 0
      have g8_1 := q8.cell 1
      have g8_2 := q8.cell 2
      have g8_3 := q8.cell 3
      have g8_4 := q8.cell 4
      have g8_5 := q8.cell 5
      have g10_0 := q10.cell 0
      have g10_1 := q10.cell 1
      have g10_2 := q10.cell 2
      have g10_3 := q10.cell 3
      have g10_4 := q10.cell 4
      have g10_5 := q10.cell 5
      simp only [List.getElem?_cons_zero, List.getElem?_cons_succ] at g5_0 g5_1 g5_2 g5_3 g5_4 g5_5 g8_0 g8_1 g8_2 g8_3 g8_4 g8_5 g10_0 g10_1 g10_2 g10_3 g10_4 g10_5
      go_wp2_with fail
      obtain ⟨W8, hW8⟩ : ∃ W, W = (w7).alloc (.cells #[.int .i64 kk, .int .i64 pp, .int .i64 zz, .slice a3 n2 c3, .slice a4 m2 c4, .int .i64 K] 36) := ⟨_, rfl⟩
      rw [← hW8]
      rw [← hW8] at hF hg hw q5 q8 q10 BB g5_0 g5_1 g5_2 g5_3 g5_4 g5_5 g8_0 g8_1 g8_2 g8_3 g8_4 g8_5 g10_0 g10_1 g10_2 g10_3 g10_4 g10_5
      clear hW8
      obtain ⟨X10, hX10⟩ : ∃ x, x = w7.heap.size := ⟨_, rfl⟩
      rw [← hX10]
      rw [← hX10] at q10 g10_0 g10_1 g10_2 g10_3 g10_4 g10_5
      clear hX10
      refine (satext_any kd pt sk fa fn fc fb fm fd FK FC FD _ hF.C hF.D hF.hn hF.hm).mono ?_
      rintro ee w9 ⟨rfl, b6⟩
      rw [← HS.out]
      have hSS1 : (S != S) = false := ba_ne S
      clear g5_0 g5_1 g5_2 g5_3 g5_4 g5_5 g8_0 g8_1 g8_2 g8_3 g8_4 g8_5 g10_0 g10_1 g10_2 g10_3 g10_4 g10_5
      replace BB := BB.trans (b6.mono BB.size)
      replace hF := hF.below b6
      replace hg := hg.below b6
      replace hw := hw.below b6
      replace q5 := q5.below b6
      replace q8 := q8.below b6
      replace q10 := q10.below b6
      clear b6
      have g5_0 := q5.cell 0
      have g5_1 := q5.cell 1
      have g5_2 := q5.cell 2
      have g5_3 := q5.cell 3
      have g5_4 := q5.cell 4
      have g5_5 := q5.cell 5
      have g8_0 := q8.cell 0
      have g8_1 := q8.cell 1
      have g8_2 := q8.cell 2
      have g8_3 := q8.cell 3
      have g8_4 := q8.cell 4
      have g8_5 := q8.cell 5
      have g10_0 := q10.cell 0
      have g10_1 := q10.cell 1
      have g10_2 := q10.cell 2
      have g10_3 := q10.cell 3
      have g10_4 := q10.cell 4
      have g10_5 := q10.cell 5
      simp only [List.getElem?_cons_zero, List.getElem?_cons_succ] at g5_0 g5_1 g5_2 g5_3 g5_4 g5_5 g8_0 g8_1 g8_2 g8_3 g8_4 g8_5 g10_0 g10_1 g10_2 g10_3 g10_4 g10_5
      go_wp2_with fail
      refine (coLn_any ⟨kk, pp, zz, ⟨a1, n2, c1, a2, m2, c2, K, C, D⟩⟩ ⟨kk, pp, zz, ⟨a3, n2, c3, a4, m2, c4, K, C, D⟩⟩ _ ⟨hg.C, hg.D, hg.hn, hg.hm⟩ ⟨hw.C, hw.D, hw.hn, hw.hm⟩ rfl rfl rfl rfl rfl rfl).mono ?_
      rintro ee w10 ⟨rfl, b7⟩
      have hok : (ok != ok) = false := by cases ok <;> rfl
      clear g5_0 g5_1 g5_2 g5_3 g5_4 g5_5 g8_0 g8_1 g8_2 g8_3 g8_4 g8_5 g10_0 g10_1 g10_2 g10_3 g10_4 g10_5
      replace BB := BB.trans (b7.mono BB.size)
      replace hF := hF.below b7
      replace hg := hg.below b7
      replace hw := hw.below b7
      replace q5 := q5.below b7
      replace q8 := q8.below b7
      replace q10 := q10.below b7
      clear b7
      clear hw q10
      cases ok
      · clear HF
        by_cases he : actText (kd, pt, sk, FC, FD, FK) = []
        · have HE : Hid (S.toList.isEmpty = true) := by (show _ = _; rw [HS.out, empty_is, he]; rfl)
          have hE := HE.out
          clear he HS hF hg
          have g5_0 := q5.cell 0
          have g5_1 := q5.cell 1
          have g5_2 := q5.cell 2
          have g5_3 := q5.cell 3
          have g5_4 := q5.cell 4
          have g5_5 := q5.cell 5
          have g8_0 := q8.cell 0
          have g8_1 := q8.cell 1
          have g8_2 := q8.cell 2
          have g8_3 := q8.cell 3
          have g8_4 := q8.cell 4
          have g8_5 := q8.cell 5
          simp only [List.getElem?_cons_zero, List.getElem?_cons_succ] at g5_0 g5_1 g5_2 g5_3 g5_4 g5_5 g8_0 g8_1 g8_2 g8_3 g8_4 g8_5
          go_wp2_with fail
          refine (iatext_any 4 0 0 none 0 0 none 0 0 0 [] [] _ ⟨rfl, fun i hi => by omega⟩ ⟨rfl, fun i hi => by omega⟩ (by omega) (by omega) (fun X hX => HTB.out X (BB.trans (hX.mono BB.size)))).mono ?_
          rintro ee w11 ⟨rfl, bx⟩
          have hR2 : (⟨(actText (4, 0, 0, [], [], 0)).toArray⟩ : ByteArray) = ⟨#[115, 116, 111, 112]⟩ := rfl
          rw [hR2]
          clear g5_0 g5_1 g5_2 g5_3 g5_4 g5_5 g8_0 g8_1 g8_2 g8_3 g8_4 g8_5
          replace BB := BB.trans (bx.mono BB.size)
          replace q5 := q5.below bx
          replace q8 := q8.below bx
          clear bx
          go_wp2
          go_ret
          exact ⟨rfl, BB⟩
        · have HE : Hid (S.toList.isEmpty = false) := by
            show _ = _
            rw [HS.out, empty_is]
            simpa using he
          have hE := HE.out
          have HO : Hid (actText (kd, pt, sk, FC, FD, FK) ≠ []) := he
          clear he
          have g5_0 := q5.cell 0
          have g5_1 := q5.cell 1
          have g5_2 := q5.cell 2
          have g5_3 := q5.cell 3
          have g5_4 := q5.cell 4
          have g5_5 := q5.cell 5
          have g8_0 := q8.cell 0
          have g8_1 := q8.cell 1
          have g8_2 := q8.cell 2
          have g8_3 := q8.cell 3
          have g8_4 := q8.cell 4
          have g8_5 := q8.cell 5
          simp only [List.getElem?_cons_zero, List.getElem?_cons_succ] at g5_0 g5_1 g5_2 g5_3 g5_4 g5_5 g8_0 g8_1 g8_2 g8_3 g8_4 g8_5
          go_wp2_with fail
          rw [HS.out]
          refine (iaread_at (raS_back HO.out) HN.out.1 HN.out.2 _ (by have := atext_len (L := (kd, pt, sk, FC, FD, FK)); omega) (ReadsN.below HA.out BB) (fun W hW => HP.out W (BB.trans (hW.mono BB.size))) (Cuts.below HU.out BB) (fun X hX => HTB.out X (BB.trans (hX.mono BB.size)))).mono ?_
          rintro ee w11 ⟨a5, c5, a6, c6, B5, B6, rfl, by1, o5, o6, _, _, _⟩
          clear g5_0 g5_1 g5_2 g5_3 g5_4 g5_5 g8_0 g8_1 g8_2 g8_3 g8_4 g8_5
          replace BB := BB.trans (by1.mono BB.size)
          replace hF := hF.below by1
          replace hg := hg.below by1
          replace q5 := q5.below by1
          replace q8 := q8.below by1
          clear by1
          have hk : FA w11 a5 fn a6 fm (FC, FD, FK) := ⟨own_ints o5 HN.out.1, own_ints o6 HN.out.2, hF.hn, hF.hm⟩
          clear o5 o6
          have al := (Below.refl (w11).heap.size (w11)).alloc (Nat.le_refl _) (.cells #[.int .i64 kd, .int .i64 pt, .int .i64 sk, .slice a5 fn c5, .slice a6 fm c6, .int .i64 FK] 36)
          replace BB := BB.trans (al.mono BB.size)
          replace hF := hF.below al
          replace hg := hg.below al
          replace hk := hk.below al
          replace q5 := q5.below al
          replace q8 := q8.below al
          clear al
          have q12 := Cel.new (w11) [.int .i64 kd, .int .i64 pt, .int .i64 sk, .slice a5 fn c5, .slice a6 fm c6, .int .i64 FK] 36
          have g5_0 := q5.cell 0
          have g5_1 := q5.cell 1
          have g5_2 := q5.cell 2
          have g5_3 := q5.cell 3
          have g5_4 := q5.cell 4
          have g5_5 := q5.cell 5
          have g8_0 := q8.cell 0
          have g8_1 := q8.cell 1
          have g8_2 := q8.cell 2
          have g8_3 := q8.cell 3
          have g8_4 := q8.cell 4
          have g8_5 := q8.cell 5
          have g12_0 := q12.cell 0
          have g12_1 := q12.cell 1
          have g12_2 := q12.cell 2
          have g12_3 := q12.cell 3
          have g12_4 := q12.cell 4
          have g12_5 := q12.cell 5
          simp only [List.getElem?_cons_zero, List.getElem?_cons_succ] at g5_0 g5_1 g5_2 g5_3 g5_4 g5_5 g8_0 g8_1 g8_2 g8_3 g8_4 g8_5 g12_0 g12_1 g12_2 g12_3 g12_4 g12_5
          go_wp2_with fail
          obtain ⟨W12, hW12⟩ : ∃ W, W = (w11).alloc (.cells #[.int .i64 kd, .int .i64 pt, .int .i64 sk, .slice a5 fn c5, .slice a6 fm c6, .int .i64 FK] 36) := ⟨_, rfl⟩
          rw [← hW12]
          rw [← hW12] at hF hg hk q5 q8 q12 BB g5_0 g5_1 g5_2 g5_3 g5_4 g5_5 g8_0 g8_1 g8_2 g8_3 g8_4 g8_5 g12_0 g12_1 g12_2 g12_3 g12_4 g12_5
          clear hW12
          obtain ⟨X12, hX12⟩ : ∃ x, x = w11.heap.size := ⟨_, rfl⟩
          rw [← hX12]
          rw [← hX12] at q12 g12_0 g12_1 g12_2 g12_3 g12_4 g12_5
          clear hX12
          refine (coLn_any ⟨kd, pt, sk, ⟨a5, fn, c5, a6, fm, c6, FK, FC, FD⟩⟩ ⟨kd, pt, sk, ⟨fa, fn, fc, fb, fm, fd, FK, FC, FD⟩⟩ _ ⟨hk.C, hk.D, hk.hn, hk.hm⟩ ⟨hF.C, hF.D, hF.hn, hF.hm⟩ rfl rfl rfl rfl rfl rfl).mono ?_
          rintro ee w13 ⟨rfl, by2⟩
          clear g5_0 g5_1 g5_2 g5_3 g5_4 g5_5 g8_0 g8_1 g8_2 g8_3 g8_4 g8_5 g12_0 g12_1 g12_2 g12_3 g12_4 g12_5
          replace BB := BB.trans (by2.mono BB.size)
          replace hF := hF.below by2
          replace hg := hg.below by2
          replace hk := hk.below by2
          replace q5 := q5.below by2
          replace q8 := q8.below by2
          replace q12 := q12.below by2
          clear by2
          clear hF hg hk q5 q8 q12
          go_wp2
          go_ret
          exact ⟨rfl, BB⟩
      · have hTX : (⟨(actText (kk, pp, zz, C, D, K)).toArray⟩ : ByteArray) = L := by rw [HL.out, raS_text HF.out]
        have HTX : Hid _ := hTX
        clear hTX
        have g5_0 := q5.cell 0
        have g5_1 := q5.cell 1
        have g5_2 := q5.cell 2
        have g5_3 := q5.cell 3
        have g5_4 := q5.cell 4
        have g5_5 := q5.cell 5
        have g8_0 := q8.cell 0
        have g8_1 := q8.cell 1
        have g8_2 := q8.cell 2
        have g8_3 := q8.cell 3
        have g8_4 := q8.cell 4
        have g8_5 := q8.cell 5
        simp only [List.getElem?_cons_zero, List.getElem?_cons_succ] at g5_0 g5_1 g5_2 g5_3 g5_4 g5_5 g8_0 g8_1 g8_2 g8_3 g8_4 g8_5
        go_wp2_with fail
        refine (iatext_any kk pp zz a1 n2 c1 a2 m2 c2 K C D _ hg.C hg.D (by omega) (by omega) (fun X hX => HTB.out X (BB.trans (hX.mono BB.size)))).mono ?_
        rintro ee w11 ⟨rfl, b8⟩
        rw [HTX.out]
        have hLL : (L != L) = false := ba_ne L
        clear g5_0 g5_1 g5_2 g5_3 g5_4 g5_5 g8_0 g8_1 g8_2 g8_3 g8_4 g8_5
        replace BB := BB.trans (b8.mono BB.size)
        replace hF := hF.below b8
        replace hg := hg.below b8
        replace q5 := q5.below b8
        replace q8 := q8.below b8
        clear b8
        clear HF
        by_cases he : actText (kd, pt, sk, FC, FD, FK) = []
        · have HE : Hid (S.toList.isEmpty = true) := by (show _ = _; rw [HS.out, empty_is, he]; rfl)
          have hE := HE.out
          clear he HS hF hg
          have g5_0 := q5.cell 0
          have g5_1 := q5.cell 1
          have g5_2 := q5.cell 2
          have g5_3 := q5.cell 3
          have g5_4 := q5.cell 4
          have g5_5 := q5.cell 5
          have g8_0 := q8.cell 0
          have g8_1 := q8.cell 1
          have g8_2 := q8.cell 2
          have g8_3 := q8.cell 3
          have g8_4 := q8.cell 4
          have g8_5 := q8.cell 5
          simp only [List.getElem?_cons_zero, List.getElem?_cons_succ] at g5_0 g5_1 g5_2 g5_3 g5_4 g5_5 g8_0 g8_1 g8_2 g8_3 g8_4 g8_5
          go_wp2_with fail
          refine (iatext_any 4 0 0 none 0 0 none 0 0 0 [] [] _ ⟨rfl, fun i hi => by omega⟩ ⟨rfl, fun i hi => by omega⟩ (by omega) (by omega) (fun X hX => HTB.out X (BB.trans (hX.mono BB.size)))).mono ?_
          rintro ee w12 ⟨rfl, bx⟩
          have hR2 : (⟨(actText (4, 0, 0, [], [], 0)).toArray⟩ : ByteArray) = ⟨#[115, 116, 111, 112]⟩ := rfl
          rw [hR2]
          clear g5_0 g5_1 g5_2 g5_3 g5_4 g5_5 g8_0 g8_1 g8_2 g8_3 g8_4 g8_5
          replace BB := BB.trans (bx.mono BB.size)
          replace q5 := q5.below bx
          replace q8 := q8.below bx
          clear bx
          go_wp2
          go_ret
          exact ⟨rfl, BB⟩
        · have HE : Hid (S.toList.isEmpty = false) := by
            show _ = _
            rw [HS.out, empty_is]
            simpa using he
          have hE := HE.out
          have HO : Hid (actText (kd, pt, sk, FC, FD, FK) ≠ []) := he
          clear he
          have g5_0 := q5.cell 0
          have g5_1 := q5.cell 1
          have g5_2 := q5.cell 2
          have g5_3 := q5.cell 3
          have g5_4 := q5.cell 4
          have g5_5 := q5.cell 5
          have g8_0 := q8.cell 0
          have g8_1 := q8.cell 1
          have g8_2 := q8.cell 2
          have g8_3 := q8.cell 3
          have g8_4 := q8.cell 4
          have g8_5 := q8.cell 5
          simp only [List.getElem?_cons_zero, List.getElem?_cons_succ] at g5_0 g5_1 g5_2 g5_3 g5_4 g5_5 g8_0 g8_1 g8_2 g8_3 g8_4 g8_5
          go_wp2_with fail
          rw [HS.out]
          refine (iaread_at (raS_back HO.out) HN.out.1 HN.out.2 _ (by have := atext_len (L := (kd, pt, sk, FC, FD, FK)); omega) (ReadsN.below HA.out BB) (fun W hW => HP.out W (BB.trans (hW.mono BB.size))) (Cuts.below HU.out BB) (fun X hX => HTB.out X (BB.trans (hX.mono BB.size)))).mono ?_
          rintro ee w12 ⟨a5, c5, a6, c6, B5, B6, rfl, by1, o5, o6, _, _, _⟩
          clear g5_0 g5_1 g5_2 g5_3 g5_4 g5_5 g8_0 g8_1 g8_2 g8_3 g8_4 g8_5
          replace BB := BB.trans (by1.mono BB.size)
          replace hF := hF.below by1
          replace hg := hg.below by1
          replace q5 := q5.below by1
          replace q8 := q8.below by1
          clear by1
          have hk : FA w12 a5 fn a6 fm (FC, FD, FK) := ⟨own_ints o5 HN.out.1, own_ints o6 HN.out.2, hF.hn, hF.hm⟩
          clear o5 o6
          have al := (Below.refl (w12).heap.size (w12)).alloc (Nat.le_refl _) (.cells #[.int .i64 kd, .int .i64 pt, .int .i64 sk, .slice a5 fn c5, .slice a6 fm c6, .int .i64 FK] 36)
          replace BB := BB.trans (al.mono BB.size)
          replace hF := hF.below al
          replace hg := hg.below al
          replace hk := hk.below al
          replace q5 := q5.below al
          replace q8 := q8.below al
          clear al
          have q12 := Cel.new (w12) [.int .i64 kd, .int .i64 pt, .int .i64 sk, .slice a5 fn c5, .slice a6 fm c6, .int .i64 FK] 36
          have g5_0 := q5.cell 0
          have g5_1 := q5.cell 1
          have g5_2 := q5.cell 2
          have g5_3 := q5.cell 3
          have g5_4 := q5.cell 4
          have g5_5 := q5.cell 5
          have g8_0 := q8.cell 0
          have g8_1 := q8.cell 1
          have g8_2 := q8.cell 2
          have g8_3 := q8.cell 3
          have g8_4 := q8.cell 4
          have g8_5 := q8.cell 5
          have g12_0 := q12.cell 0
          have g12_1 := q12.cell 1
          have g12_2 := q12.cell 2
          have g12_3 := q12.cell 3
          have g12_4 := q12.cell 4
          have g12_5 := q12.cell 5
          simp only [List.getElem?_cons_zero, List.getElem?_cons_succ] at g5_0 g5_1 g5_2 g5_3 g5_4 g5_5 g8_0 g8_1 g8_2 g8_3 g8_4 g8_5 g12_0 g12_1 g12_2 g12_3 g12_4 g12_5
          go_wp2_with fail
          obtain ⟨W13, hW13⟩ : ∃ W, W = (w12).alloc (.cells #[.int .i64 kd, .int .i64 pt, .int .i64 sk, .slice a5 fn c5, .slice a6 fm c6, .int .i64 FK] 36) := ⟨_, rfl⟩
          rw [← hW13]
          rw [← hW13] at hF hg hk q5 q8 q12 BB g5_0 g5_1 g5_2 g5_3 g5_4 g5_5 g8_0 g8_1 g8_2 g8_3 g8_4 g8_5 g12_0 g12_1 g12_2 g12_3 g12_4 g12_5
          clear hW13
          obtain ⟨X12, hX12⟩ : ∃ x, x = w12.heap.size := ⟨_, rfl⟩
          rw [← hX12]
          rw [← hX12] at q12 g12_0 g12_1 g12_2 g12_3 g12_4 g12_5
          clear hX12
          refine (coLn_any ⟨kd, pt, sk, ⟨a5, fn, c5, a6, fm, c6, FK, FC, FD⟩⟩ ⟨kd, pt, sk, ⟨fa, fn, fc, fb, fm, fd, FK, FC, FD⟩⟩ _ ⟨hk.C, hk.D, hk.hn, hk.hm⟩ ⟨hF.C, hF.D, hF.hn, hF.hm⟩ rfl rfl rfl rfl rfl rfl).mono ?_
          rintro ee w14 ⟨rfl, by2⟩
          clear g5_0 g5_1 g5_2 g5_3 g5_4 g5_5 g8_0 g8_1 g8_2 g8_3 g8_4 g8_5 g12_0 g12_1 g12_2 g12_3 g12_4 g12_5
          replace BB := BB.trans (by2.mono BB.size)
          replace hF := hF.below by2
          replace hg := hg.below by2
          replace hk := hk.below by2
          replace q5 := q5.below by2
          replace q8 := q8.below by2
          replace q12 := q12.below by2
          clear by2
          clear hF hg hk q5 q8 q12
          go_wp2
          go_ret
          exact ⟨rfl, BB⟩
    · go_enter Tryz.func4, Tryz.ntmps4
      go_wp2
      go_ret
      exact ⟨rfl, Below.refl _ _⟩
  · go_enter Tryz.func4, Tryz.ntmps4
    go_wp2
    go_ret
    exact ⟨rfl, Below.refl _ _⟩

/-! ### The row's step -/
theorem star : "*" ++ "errors.errorString" = "*errors.errorString" := by decide
theorem rowErr (u : TypeId) (h : Tryz.prog.typeName? 3 u = some "*errors.errorString") : u = 201 :=
  typeName_ptr_named (nm := "errors.errorString") (by rw [star]; kernel_rfl) (by kernel_rfl) (by decide) u (by rw [star]; exact h)
theorem tab_of {W : World} (h : laidMetH Tryz.prog Rows.fnActTextRow.laid W) : Lib.TabIs Tryz.prog W "internal/strconv.uint64pow10" .u64 Lib.pow10Tab := by
  rw [MakeChecks.laidMetH_plain _ _ _ (by kernel_rfl)] at h
  have h2 : laidMet Tryz.prog (("internal/strconv.uint64pow10", Lib.tabData .u64 Lib.pow10Tab) :: Rows.fnActTextRow.laid.tail.tail.tail) W := h.tail.tail
  exact Lib.tabIs_of_head (g := 2) (t := 179) (e := 160) (n := 20) (by kernel_rfl) (by kernel_rfl) Tryz.underlying179 Tryz.underlying160 (by kernel_rfl) (by kernel_rfl) h2
theorem reads_laid {W : World} (h : laidMetH Tryz.prog Rows.fnActTextRow.laid W) : ReadsN W := by
  rw [MakeChecks.laidMetH_plain _ _ _ (by kernel_rfl)] at h
  have hR := h.tail.tail.tail.tail
  obtain ⟨a1, s1, hv1, -, -, -⟩ := laid_sentinel hR (g := 4) (by kernel_rfl) (by kernel_rfl) Tryz.underlying57 rowErr Tryz.underlying201 Tryz.underlying203 rfl rfl Tryz.underlying9 (by kernel_rfl) (by kernel_rfl)
  obtain ⟨a0, s0, hv0, -, -, -⟩ := laid_sentinel hR.tail (g := 3) (by kernel_rfl) (by kernel_rfl) Tryz.underlying57 rowErr Tryz.underlying201 Tryz.underlying203 rfl rfl Tryz.underlying9 (by kernel_rfl) (by kernel_rfl)
  exact reads_of W _ _ _ _ hv0 hv1

set_option maxRecDepth 100000 in
theorem step {H : Type} {enc : TypeId × Value → H} (W : World) (base : Nat) (args : Array Value) (ds gs : List (DataW H)) (before : List MemPlace)
    (hval0 : ∀ (j : Nat) t v, Tryz.f4.params[j]? = some t → args[j]? = some v → Value.okWide Tryz.prog W .any base t v)
    (hW : DataW.Whole enc Tryz.prog Tryz.f4.params.toList Rows.fnActTextSpec.vars false W args.toList ds gs before)
    (hL : laidMetH Tryz.prog Rows.fnActTextRow.laid W) (hsh : W.ShapedOpen Tryz.prog) :
    Calls Tryz.prog 4 args W fun e W' => ∃ v, e = .returned v ∧ Rows.fnActTextSpec.post enc Tryz.prog Tryz.f4 false true false false W args v W' := by
  have hval : ∀ (j : Nat) t v, Tryz.f4.params[j]? = some t → args[j]? = some v → Value.okWide Tryz.prog W .any base t v := hval0
  have hW' := hW
  obtain ⟨p, q, hA0, hV, rfl, hfz, hnd⟩ := hW
  have hA : DataW.TrodAll enc Tryz.prog W 0 (fun _ => true) true Tryz.f4.params.toList args.toList ds p := hA0
  rw [Tryz.params4] at hA hval
  obtain ⟨v0, vs0, d0, ds0, p0, q0, hargs, rfl, rfl, h0, r0⟩ := trodAll_cons hA
  obtain ⟨v1, vs1, d1, ds1, p1, q1, rfl, rfl, rfl, h1, r1⟩ := trodAll_cons r0
  obtain ⟨rfl, rfl, rfl⟩ := trodAll_nil r1
  obtain rfl : args = #[v0, v1] := by cases args; simp_all
  obtain ⟨rfl, rfl⟩ := trodVars_none hV
  have k0 := h0
  have lt0 : ∀ x ∈ p0, x.block < W.heap.size := by obtain ⟨m, hm⟩ := k0; exact DataW.trod_lt m _ _ _ hm
  obtain ⟨a0, n0, cap0, C0, rfl, hC0, hn0⟩ := open_bytesT (hval 0 22 v0 rfl rfl) h0
  have k1 := h1
  have lt1 : ∀ x ∈ p1, x.block < W.heap.size := by obtain ⟨m, hm⟩ := k1; exact DataW.trod_lt m _ _ _ hm
  obtain ⟨a1, n1, cap1, C1, rfl, hC1, hn1⟩ := open_bytesT (hval 1 22 v1 rfl rfl) h1
  obtain ⟨m, hm⟩ := Tryz.laysM146.s1_3 W hsh
  clear hA0 hval0
  refine (walk W a0 n0 cap0 C0 hC0 hn0 a1 n1 cap1 C1 hC1 hn1 (reads_laid hL) (splits_of W m hm) (cuts_of W m hm) (Lib.tabBelow_of_tabIs (tab_of hL))).mono fun e W' ⟨he, bel⟩ => ?_
  subst he
  exact ⟨_, rfl, _, _, _, [], _, [], hW', trodAll_mk1 (shut_bool Tryz.underlying4 _), (trodAll_cons_mk (Below.trod laidOut (by kernel_rfl) (of_decide_eq_true (by kernel_rfl)) k0 bel lt0) (trodAll_cons_mk (Below.trod laidOut (by kernel_rfl) (of_decide_eq_true (by kernel_rfl)) k1 bel lt1) trodAll_mk0)), rfl, bel.frame _, fun h => by cases h⟩

set_option maxRecDepth 100000 in
theorem lifted (os : Os) (started : os.Started) (H : Type) (enc : TypeId × Value → H) :
    ReturnsInHanded {} Tryz.checked os 4 .any (fun w args => (Rows.fnActTextSpec.pre enc Tryz.prog Tryz.f4 Rows.fnActTextRow.domain false w args ∧ laidMetH Tryz.prog Rows.fnActTextRow.laid w) ∧ sizedMet enc Tryz.prog Tryz.f4 (OpenSpec.ofChange Rows.fnActTextSpec) false w args) (Rows.fnActTextSpec.post enc Tryz.prog Tryz.f4 false true false false) := by
  refine returnsInHanded_of_calls own started (by kernel_rfl)
    (ChangeSpec.witness_shaped (enc := enc) (C := Tryz.checked) (os := os) (X := fun w _ => laidMetH Tryz.prog Rows.fnActTextRow.laid w) false (World.laidAll Tryz.prog os Rows.fnActTextRow.laid) #[.slice none 0 0, .slice none 0 0] 8 (World.laidAll_os _ _ _)
      (World.shaped_of_ZipB (by kernel_rfl) (by kernel_rfl)) (by kernel_rfl) (by kernel_rfl) (by kernel_rfl)
      (by rw [MakeChecks.laidMetH_plain _ _ _ (by kernel_rfl)]; exact laidMet_laidAll _ (by kernel_rfl) (by kernel_rfl))) ?_
  intro w0 tape i _ hsh _ hok hpre _
  obtain ⟨_, _, _, fn', hfn', _, _, _, _, hval⟩ := hok
  obtain rfl : fn' = Tryz.f4 := Option.some.inj (hfn'.symm.trans Tryz.func4)
  obtain ⟨⟨⟨ds, gs, before, hw, -⟩, hx⟩, -⟩ := hpre
  have hL : laidMetH Tryz.prog Rows.fnActTextRow.laid (w0.forCall tape i) := hx.of_heap (by rfl)
  refine (step (w0.forCall tape i) w0.heap.size i.args ds gs before hval (DataW.Whole.of_heap (w' := w0.forCall tape i) (by rfl) hw) hL hsh).mono ?_
  rintro e W' ⟨v, rfl, hp⟩
  exact ChangeSpec.post_blind hp

theorem over : Rows.fnActTextRow.holds Tryz.pinned (OpenSpec.ofChange Rows.fnActTextSpec) :=
  OpenClaim.holds_of_wide 4 Tryz.f4 rfl rfl rfl rfl rfl rfl rfl ⟨rfl, rfl, rfl, rfl, rfl⟩ rfl rfl rfl rfl rfl (by kernel_rfl) Tryz.func4 (by kernel_rfl)
    (of_decide_eq_true (by kernel_rfl)) (by unfold Func.isWrapper; first | (rw [if_pos (by decide +kernel)]; kernel_rfl) | (rw [if_neg (by decide +kernel)]; exact ⟨rfl, rfl⟩))
    (fun os started H enc _ => lifted os started H enc)

end Go.Proofs.YtfkcfjkojfnfnaaGreatDoor.fnActText
namespace Go.Proofs.YtfkcfjkojfnfnaaGreatDoor
/-- The statement. -/
theorem fnActText_holds : Rows.FnActTextCardSaid :=
  Claim7.holds_tied_plain_at .later [] [.data, .data, .data, .data, .sentinel, .sentinel, .pinned] true Rows.fnActTextCard.stood.harness Rows.fnActTextCard.stood.looks fnActText.over (fun _ h => by cases h) (by kernel_rfl) (fun _ h => by cases h) fnActText_row_tie rfl ⟨rfl, rfl⟩ (by kernel_rfl) rfl
    (fun f fn hf hfn => by
      obtain rfl : f = 4 := Option.some.inj ((show Tryz.prog.funcNamed Rows.fnActTextRow.func = some 4 by kernel_rfl).symm.trans hf) |>.symm
      obtain rfl : fn = Tryz.f4 := (Option.some.inj (Tryz.func4.symm.trans hfn)).symm
      exact ⟨by kernel_rfl, fun j t ht => by
        rw [Tryz.params4] at ht
        have hm : t ∈ [22, 22] := by simpa using Array.mem_of_getElem? ht
        have hall : ([22, 22].all fun u => !Tryz.prog.wantsStandIn u) = true := by kernel_rfl
        exact (show Tryz.prog.wantsStandIn t = false by simpa using List.all_eq_true.1 hall t hm)⟩)
    (by kernel_rfl)
#print axioms fnActText_holds
end Go.Proofs.YtfkcfjkojfnfnaaGreatDoor
