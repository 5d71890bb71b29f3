/-
  The text of a form, as the program writes it: the same. Lengths at most 1048576; the library's table of powers of ten is as its text lays it.
-/
import Derived.Test.YtmhhphpihnkfpaaDoorFTxt
import Derived.Test.YtmhhphpihnkfpaaDoorTxtI
import Derived.Test.YtmhhphpihnkfpaaDoorKeyed
import Derived.Deep.Upon
namespace Go.Proofs.YtmhhphpihnkfpaaDoor
open Go.RowKit Go.Deep
set_option linter.unusedVariables false
set_option maxRecDepth 100000

theorem JT.nil (w : World) : JT w (.slice none 0 0) [] w := ⟨Below.refl _ _, World.ownsRow_nil w _ _ _⟩
abbrev bytesL (ws : List (List UInt8)) : List ByteArray := ws.map fun l => ⟨l.toArray⟩
theorem bytes_back (ws : List (List UInt8)) : (bytesL ws).map (·.data.toList) = ws := by
  simp [bytesL, Function.comp_def]
theorem times_len (x : UInt8) (zs : List Int) : ∀ k, (timesL x zs k).length ≤ k
  | 0 => by simp [timesL]
  | k + 1 => by
    have := times_len x zs k
    rw [timesL]
    split
    · rw [List.append_nil]; omega
    · rw [List.length_append, List.length_cons, List.length_nil]; omega
theorem times_bytes {x : UInt8} {zs : List Int} (hb : ∀ i : Nat, -10000000 ≤ zs[i]?.getD 0 ∧ zs[i]?.getD 0 ≤ 10000000) : ∀ k, k ≤ 10 → (spaced (timesL x zs k)).length ≤ 50 * k
  | 0, _ => by simp [timesL, spaced]
  | k + 1, h => by
    have ih := times_bytes (x := x) hb k (by omega)
    have hz := hb k
    have h1 := Lib.itoa_length_le (zs[k]?.getD 0) (by omega) (by omega)
    have h2 := Lib.itoa_length_le (k : Int) (by omega) (by omega)
    rw [timesL]
    split
    · rw [List.append_nil]; omega
    · rw [spaced_snoc]
      simp only [List.length_append, List.length_cons, List.length_nil]
      omega
theorem spaced_append (a b : List (List UInt8)) : spaced (a ++ b) = spaced a ++ spaced b := by
  unfold spaced
  rw [List.map_append, List.flatten_append]

set_option maxHeartbeats 1600000 in
theorem wot_any (x : UInt8) (a : Option Addr) (n cap : Nat) (zs : List Int) (w : World) (hC : Ints w a n zs) (hn : n ≤ 10) (hb : ∀ i : Nat, -10000000 ≤ zs[i]?.getD 0 ∧ zs[i]?.getD 0 ≤ 10000000) (hT : Lib.TabBelow Tryd.prog w.heap.size w "internal/strconv.uint64pow10" .u64 Lib.pow10Tab) :
    Calls Tryd.prog 100 #[.slice a n cap, .string ⟨#[x]⟩] w fun e w' => ∃ v, e = .returned v ∧ JT w v (bytesL (timesL x zs n)) w' ∧ (timesL x zs n = [] → v = .slice none 0 0) := by
  have HL : Hid (zs.length = n) := hC.1
  have HTB : Hid _ := hT
  have BZ : Hid _ := hb
  clear hT hb
  obtain ⟨i0, hi, hz0, hz1, hz2⟩ := info_parts Tryd.infoStr
  go_enter Tryd.func100, Tryd.ntmps100
  go_wp2_with fail
  go_loopw [5, 6, 7, 10] (fun v _ _ i wr => ∃ (k m : Nat), k ≤ n ∧ i = .int .i64 k ∧ (timesL x zs k).length = m ∧ JT w v (bytesL (timesL x zs k)) wr ∧ (timesL x zs k = [] → v = .slice none 0 0)) (fun _ _ _ i _ => n - (intOf i).toNat)
  case atStart => exact ⟨0, 0, Nat.zero_le _, rfl, rfl, JT.nil w, fun _ => rfl⟩
  case round =>
    obtain ⟨k, m, hk, rfl, hm, j, hnil⟩ := hrel
    have HM : Hid _ := hm
    have HNL : Hid _ := hnil
    have hm10 := times_len x zs k
    rw [HM.out] at hm10
    clear hm hnil
    have hjb := j.b.size
    by_cases hlt : k < n
    · obtain ⟨b, off, rfl, hcell⟩ := (hC.below j.b).pos (by omega)
      have hck : wr.cell? ⟨b, off + k, none⟩ = some (.int .i64 (zs[k]?.getD 0)) := by rw [hcell k hlt]; simp
      by_cases hz : zs[k]?.getD 0 = 0
      · have HZ : Hid _ := times_zero (x := x) hz
        rw [hz] at hck
        clear hz hcell
        go_wp2
        go_roundw
        case rel => exact ⟨k + 1, m, by omega, by go_num, by rw [HZ.out]; exact HM.out, by rw [HZ.out]; exact j, by rw [HZ.out]; exact HNL.out⟩
        case measure => simp [intOf]; omega
      · have HZ : Hid _ := times_more (x := x) hz
        have hz' : (zs[k]?.getD 0 != 0) = true := by simp [hz]
        have hzb := BZ.out k
        generalize HG : zs[k]?.getD 0 = z at *
        clear HG hcell hz
        obtain ⟨z1, z2⟩ := hzb
        have hI := Lib.itoa_length_le z (by omega) (by omega)
        have hJ := Lib.itoa_length_le (k : Int) (by omega) (by omega)
        generalize HGI : Lib.itoa z = I at *
        generalize HGJ : Lib.itoa (k : Int) = J at *
        have HGI' : Hid _ := HGI
        have HGJ' : Hid _ := HGJ
        clear HGI HGJ
        have tab : Lib.TabIs Tryd.prog wr "internal/strconv.uint64pow10" .u64 Lib.pow10Tab := HTB.out wr j.b
        go_wp2_with fail
        refine (Tryd.strconv_Itoa z (by omega) (by omega) _ tab).mono ?_
        rintro e w2 ⟨rfl, q, os, hw2⟩
        rw [HGI'.out]
        have b2 : Below wr.heap.size wr w2 := by rw [hw2]; exact Lib.below_grow _ _ (Nat.le_refl _) _ _
        clear hw2 tab
        have j2 := j.below b2
        have tab : Lib.TabIs Tryd.prog w2 "internal/strconv.uint64pow10" .u64 Lib.pow10Tab := HTB.out w2 j2.b
        clear b2 j
        go_wp2_with fail
        refine (Tryd.strconv_Itoa (k : Int) (by omega) (by omega) _ tab).mono ?_
        rintro e w3 ⟨rfl, q, os, hw3⟩
        rw [HGJ'.out]
        have b3 : Below w2.heap.size w2 w3 := by rw [hw3]; exact Lib.below_grow _ _ (Nat.le_refl _) _ _
        clear hw3 tab
        have j3 := j2.below b3
        have jo := j3.o
        rw [List.length_map, HM.out] at jo
        have hjb3 := j3.b.size
        clear b3 j2
        go_wp2_with (at_builtin; go_must (refine wpList_append_lies _ rfl (.tmp 17) (.tmp 25) 27 rfl w.heap.size 9 i0 (.string ⟨#[]⟩) 1 16 Tryd.underlying27 hi hz0 hz1 hz2 rfl (by decide) _ _ _ rfl (jo.alloc _) ⟨w3.heap.size, 0, none⟩ 1 1 [.string (⟨I.toArray⟩ ++ ⟨#[x]⟩ ++ ⟨J.toArray⟩)] rfl rfl (newsS _ _ _) (oneS _) (by omega) (by unfold maxLen; omega) (by omega) (by rw [World.size_alloc]; omega) _ rfl ?_); intro g cp w4 hown hgrow hat hlt1)
        have j4 := j3.app (by rw [List.length_map, HM.out]) hown hgrow
        have e4 : bytesL (timesL x zs (k + 1)) = bytesL (timesL x zs k) ++ [⟨I.toArray⟩ ++ ⟨#[x]⟩ ++ ⟨J.toArray⟩] := by
          rw [HZ.out, bytesL, bytesL, List.map_append, show (⟨#[x]⟩ : ByteArray) = ⟨[x].toArray⟩ from rfl, cat_str, cat_str]
          rfl
        rw [← e4] at j4
        have E4 : Hid _ := e4
        clear hown hgrow jo j3 hat e4
        go_wp2
        go_roundw
        case rel => exact ⟨k + 1, m + 1, by omega, by go_num, by rw [HZ.out, List.length_append, HM.out]; rfl, j4, fun h => by rw [HZ.out] at h; simp at h⟩
        case measure => simp [intOf]; omega
    · obtain rfl : k = n := by omega
      go_wp2
      go_ret
      exact ⟨_, rfl, j, HNL.out⟩

/-- Nothing is appended. -/
theorem wp_append_nothing {P : Program} {w : World} {o : Oper} {a : Act} {K : Act → World → Prop} {Q : Exit → Act → World → Prop} (s x : Operand) (t : TypeId)
    (ho : o.op = .call { callee := .builtin .append, args := #[s, x], argTypes := #[t, t] }) (e : TypeId) (i : TypeInfo) (ht : P.underlying t = some (.slice e)) (hi : P.info? e = some i)
    (base : Option Addr) (sLen sCap : Nat) (hle : sLen ≤ sCap) (hs : a.eval s = .slice base sLen sCap) (hx : a.eval x = .slice none 0 0) (h : K (a.put o.dst (.slice base sLen sCap)) w) : o.wp P a w K Q := by
  have hr := run_append_nothing (P := P) w t t o.type e i ht hi base sLen sCap hle (.slice none 0 0) (Src.ofNil w ht 0)
  unfold Oper.wp execOp
  simp only [ho, resolve, invoke, builtin, Sem.run_bind, Sem.run_pure, Result.andThen_ok, List.map_toArray, List.map_cons, List.map_nil, hs, hx, hr]
  exact h

theorem newsT {W : World} {g : Nat} {xs : List ByteArray} (h : ∀ (i : Nat) x, xs[i]? = some x → W.cell? ⟨g, 0 + i, none⟩ = some (.string x)) : ∀ j u, (xs.map Value.string)[j]? = some u → W.cell? ((⟨g, 0, none⟩ : Addr).add j) = some u := fun j u hu => by
  rw [List.getElem?_map] at hu
  obtain ⟨x, hx, rfl⟩ := Option.map_eq_some_iff.1 hu
  have hadd : (⟨g, 0, none⟩ : Addr).add j = ⟨g, 0 + j, none⟩ := by
    by_cases h0 : j = 0
    · subst h0; simp [Addr.add]
    · simp [Addr.add, h0]
  rw [hadd]
  exact h j x hx
theorem oneT (xs : List ByteArray) : ∀ u ∈ xs.map Value.string, u.oneCell' = true := fun u hu => by
  obtain ⟨x, _, rfl⟩ := List.mem_map.1 hu
  rfl
theorem JT.slice {w W : World} {v : Value} {xs : List ByteArray} {k : Nat} (j : JT w v xs W) (hk : xs.length = k) : ∃ a cap, v = .slice a k cap ∧ k ≤ cap := by
  subst hk
  rcases j.o.2 with ⟨hv, h⟩ | ⟨g, cap', cur, rfl, hg, hh, hl, _, _⟩
  · exact ⟨none, 0, by rw [hv, h], by omega⟩
  · exact ⟨_, cap', rfl, hl⟩
theorem JT.rebase {w w1 W : World} {v : Value} {xs : List ByteArray} (j : JT w1 v xs W) (b : Below w.heap.size w w1) : JT w v xs W := by
  refine ⟨b.trans (j.b.mono b.size), j.o.1, ?_⟩
  rcases j.o.2 with h2 | ⟨g, cap, cur, hv, hg, hh, r⟩
  · exact Or.inl h2
  · exact Or.inr ⟨g, cap, cur, hv, Nat.le_trans b.size hg, hh, r⟩

set_option maxHeartbeats 3200000 in
theorem text_any (a : Option Addr) (cap : Nat) (c : Option Addr) (cap' : Nat) (K : Int) (C D : List Int) (w : World) (hC : Ints w a 3 C) (hD : Ints w c 2 D)
    (bC : ∀ i : Nat, -10000000 ≤ C[i]?.getD 0 ∧ C[i]?.getD 0 ≤ 10000000) (bD : ∀ i : Nat, -10000000 ≤ D[i]?.getD 0 ∧ D[i]?.getD 0 ≤ 10000000) (K1 : -10000000 ≤ K) (K2 : K ≤ 10000000)
    (hT : Lib.TabBelow Tryd.prog w.heap.size w "internal/strconv.uint64pow10" .u64 Lib.pow10Tab) :
    Calls Tryd.prog 99 #[formV a 3 cap c 2 cap' K] w fun e w' => e = .returned (.string ⟨(spaced (timesL 120 C 3 ++ timesL 97 D 2) ++ Lib.itoa K).toArray⟩) ∧ Below w.heap.size w w' := by
  have HTB : Hid _ := hT
  have BC : Hid _ := bC
  have BD : Hid _ := bD
  clear hT bC bD
  obtain ⟨i0, hi, hz0, hz1, hz2⟩ := info_parts Tryd.infoStr
  have q0 := Cel.new w [.slice a 3 cap, .slice c 2 cap', .int .i64 K] 46
  have b0 := (Below.refl w.heap.size w).alloc (Nat.le_refl _) (.cells #[.slice a 3 cap, .slice c 2 cap', .int .i64 K] 46)
  go_enter Tryd.func99, Tryd.ntmps99
  go_upto_region 1 with fail
  obtain ⟨W, hW⟩ : ∃ W, W = w.alloc (.cells #[.slice a 3 cap, .slice c 2 cap', .int .i64 K] 46) := ⟨_, rfl⟩
  rw [← hW] at q0 b0 ⊢
  clear hW
  have KP : Hid (∀ X : World, Below W.heap.size W X → X.cell? ⟨w.heap.size, 0, none⟩ = some (.slice a 3 cap) ∧ X.cell? ⟨w.heap.size, 1, none⟩ = some (.slice c 2 cap')) := fun X h => ⟨(q0.below h).cell 0, (q0.below h).cell 1⟩
  have TB : Hid (∀ X : World, Below W.heap.size W X → Lib.TabBelow Tryd.prog X.heap.size X "internal/strconv.uint64pow10" .u64 Lib.pow10Tab) := fun X h w' h' => HTB.out w' ((b0.trans (h.mono b0.size)).trans (h'.mono (by have := b0.size; have := h.size; omega)))
  have iC := hC.below b0
  have iD := hD.below b0
  clear hC hD
  have hSS := And.intro (KP.out _ (Below.refl _ _).drew) (True.intro)
  refine wp_region_ends (fun w' => w'.cell? ⟨w.heap.size, 0, none⟩ = some (.slice a 3 cap) ∧ w'.cell? ⟨w.heap.size, 1, none⟩ = some (.slice c 2 cap')) (fun _ => True) 7 (by kernel_rfl) ?_
  refine wpAnyE_take0 (i := 0) (v := ?v0) rfl (by kernel_rfl) (by kernel_rfl) (by kernel_rfl) (by decide) (fun _ _ _ h => h) (Or.inl ⟨by rfl, ?hy0⟩) hSS ?_
  case hy0 => (intro wz hSw; (try dsimp only at hSw); go_simp; try (with_reducible rfl))
  refine wpAnyE_take0 (i := 1) (v := ?v1) rfl (by kernel_rfl) (by kernel_rfl) (by kernel_rfl) (by decide) (fun _ _ _ h => h) (Or.inl ⟨by rfl, ?hy1⟩) hSS ?_
  case hy1 => (intro wz hSw; (try dsimp only at hSw); go_simp; try (with_reducible rfl))
  refine wpAnyE_take0 (i := 3) (v := ?v3) rfl (by kernel_rfl) (by kernel_rfl) (by kernel_rfl) (by decide) (fun _ _ _ h => h) (Or.inl ⟨by rfl, ?hy3⟩) hSS ?_
  case hy3 => (intro wz hSw; (try dsimp only at hSw); go_simp; try (with_reducible rfl))
  refine wpAnyE_take0 (i := 4) (v := ?v4) rfl (by kernel_rfl) (by kernel_rfl) (by kernel_rfl) (by decide) (fun _ _ _ h => h) (Or.inl ⟨by rfl, ?hy4⟩) hSS ?_
  case hy4 => (intro wz hSw; (try dsimp only at hSw); go_simp; try (with_reducible rfl))
  refine wpAnyE_one (i := 2) (by kernel_rfl) rfl (fun Kn hK => ?_)
  go_simp
  refine (wot_any 120 _ _ _ C _ (iC.below (Below.refl _ _).drew) (by omega) BC.out (TB.out _ (Below.refl _ _).drew)).mono ?_
  rintro ee w2 ⟨v1, rfl, j1, -⟩
  have b2 : Below W.heap.size W w2 := below_of_drew j1.b
  have j1' : JT W v1 (bytesL (timesL 120 C 3)) w2 := j1.rebase ((Below.refl _ _).drew)
  clear j1
  dsimp only
  refine hK.out _ _ ⟨KP.out _ b2, fun _ => trivial⟩ ?_
  clear hK Kn hSS
  refine wpAnyE_one (i := 5) (by kernel_rfl) rfl (fun Kn hK => ?_)
  go_simp
  refine (wot_any 97 _ _ _ D _ (iD.below b2) (by omega) BD.out (TB.out _ b2)).mono ?_
  rintro ee w3 ⟨v2, rfl, j2, hnil⟩
  have b3 := b2.trans (j2.b.mono b2.size)
  have j13 := j1'.below j2.b
  clear j1'
  dsimp only
  refine hK.out _ _ ⟨KP.out _ b3, fun _ => trivial⟩ ?_
  clear hK Kn
  have l1 := times_len 120 C 3
  have l2 := times_len 97 D 2
  obtain ⟨n1, hn1⟩ : ∃ n1, (timesL 120 C 3).length = n1 := ⟨_, rfl⟩
  obtain ⟨n2, hn2⟩ : ∃ n2, (timesL 97 D 2).length = n2 := ⟨_, rfl⟩
  rw [hn1] at l1
  rw [hn2] at l2
  have HN1 : Hid _ := hn1
  have HN2 : Hid _ := hn2
  clear hn1 hn2
  have hI := Lib.itoa_length_le K (by omega) (by omega)
  generalize HGI : Lib.itoa K = I at *
  have HGI' : Hid _ := HGI
  clear HGI
  obtain ⟨WS, hWS⟩ : ∃ WS, WS = timesL 120 C 3 ++ timesL 97 D 2 := ⟨_, rfl⟩
  have HWS : Hid _ := hWS
  have HSL : Hid ((spaced WS).length ≤ 250) := by
    show (spaced WS).length ≤ 250
    rw [hWS, spaced_append, List.length_append]
    have := times_bytes (x := 120) BC.out 3 (by omega)
    have := times_bytes (x := 97) BD.out 2 (by omega)
    omega
  obtain ⟨nn, hnn⟩ : ∃ nn, nn = n1 + n2 := ⟨_, rfl⟩
  have HNN : Hid (WS.length = nn) := by show WS.length = nn; rw [hWS, List.length_append, HN1.out, HN2.out, hnn]
  have hn5 : nn ≤ 5 := by omega
  by_cases hz : timesL 97 D 2 = []
  · have e2 : n2 = 0 := by rw [← HN2.out, hz]; rfl
    have hv2 := hnil hz
    subst hv2
    have ew : WS = timesL 120 C 3 := by rw [hWS, hz, List.append_nil]
    have jj : JT W v1 (bytesL WS) w3 := by rw [ew]; exact j13
    clear hWS ew hz hnil j13 j2
    obtain ⟨a1, c1, hv1, hle⟩ := jj.slice (k := nn) (by rw [List.length_map, HNN.out])
    subst hv1
    clear hnn e2
    refine wpAnyE_one (i := 6) (by kernel_rfl) rfl (fun Kn hK => ?_)
    rw [if_pos (by rfl)]
    refine wp_append_nothing (.tmp 6) (.tmp 9) 27 rfl 9 i0 Tryd.underlying27 hi a1 nn c1 hle (by rfl) (by rfl) ?_
    refine hK.out _ _ ⟨KP.out _ jj.b, fun _ => trivial⟩ ?_
    clear hK Kn
    refine wpAnyE_one (i := 7) (by kernel_rfl) rfl (fun Kn hK => ?_)
    go_simp
    refine hK.out _ _ ⟨KP.out _ jj.b, fun _ => trivial⟩ ?_
    clear hK Kn
    refine wpAnyE_done (by kernel_rfl) ?_ _
    have kK := (q0.below jj.b).cell 2
    simp only [List.getElem?_cons_zero, List.getElem?_cons_succ] at kK
    have tab : Lib.TabIs Tryd.prog w3 "internal/strconv.uint64pow10" .u64 Lib.pow10Tab := HTB.out _ (b0.trans (jj.b.mono b0.size))
    go_wp2_with fail
    refine (Tryd.strconv_Itoa K (by omega) (by omega) _ tab).mono ?_
    rintro e w5 ⟨rfl, qq, os, hw5⟩
    rw [HGI'.out]
    have b5 : Below w3.heap.size w3 w5 := by rw [hw5]; exact Lib.below_grow _ _ (Nat.le_refl _) _ _
    clear hw5 tab
    have j5 := jj.below b5
    have jo := j5.o
    rw [List.length_map, HNN.out] at jo
    have hjb5 := j5.b.size
    clear b5 jj
    go_wp2_with (at_builtin; go_must (refine wpList_append_lies _ rfl (.tmp 11) (.tmp 15) 27 rfl W.heap.size 9 i0 (.string ⟨#[]⟩) 1 16 Tryd.underlying27 hi hz0 hz1 hz2 rfl (by decide) _ _ _ rfl (jo.alloc _) ⟨w5.heap.size, 0, none⟩ 1 1 [.string ⟨I.toArray⟩] rfl rfl (newsS _ _ _) (oneS _) (by omega) (by unfold maxLen; omega) (by omega) (by rw [World.size_alloc]; omega) _ rfl ?_); intro g6 cp6 w6 hown hgrow hat hlt1)
    have j6 := j5.app (by rw [List.length_map, HNN.out]) hown hgrow
    rw [show bytesL WS ++ [⟨I.toArray⟩] = bytesL (WS ++ [I]) by rw [bytesL, bytesL, List.map_append]; rfl] at j6
    have hl6 : (bytesL (WS ++ [I])).length = nn + 1 := by rw [List.length_map, List.length_append, HNN.out]; rfl
    clear hown hgrow jo j5 hat
    obtain ⟨g7, c7, hv7, hcap, hg7, hcs⟩ := j6.cells hl6 (by omega)
    simp only [Value.slice.injEq, Option.some.injEq, Addr.mk.injEq, and_true, true_and] at hv7
    obtain ⟨rfl, rfl⟩ := hv7
    have HJ := Tryd.strings_Join g6 0 cp6 (bytesL (WS ++ [I])) ⟨#[32]⟩ w6 hcs hg7 (by rw [hl6]; omega) (by rw [hl6]; exact hcap) (by
      rw [show (⟨#[32]⟩ : ByteArray).data.toList = [32] from rfl, bytes_back, join_spaced, List.length_append]
      have := HSL.out
      omega)
    rw [hl6, show (⟨#[32]⟩ : ByteArray).data.toList = [32] from rfl, bytes_back, join_spaced] at HJ
    have jb := j6.b
    clear hcs hcap hg7 j6 hl6
    go_wp2_with fail
    refine HJ.mono ?_
    rintro e w7 ⟨rfl, b7⟩
    have B7 := (b0.trans (jb.mono b0.size)).trans (b7.mono (by have := b0.size; have := jb.size; omega))
    go_wp2
    go_ret
    refine ⟨?_, B7⟩
    rw [← HWS.out, HGI'.out]
    rfl
  · have hp : 0 < n2 := by
      rw [← HN2.out]
      exact List.length_pos_iff.2 hz
    obtain ⟨g2, c2, rfl, -, hg2, hcs2⟩ := j2.cells (k := n2) (by rw [List.length_map, HN2.out]) hp
    have jo1 := j13.o
    rw [List.length_map, HN1.out] at jo1
    have hjb1 := j13.b.size
    clear hnil hz j2
    refine wpAnyE_one (i := 6) (by kernel_rfl) rfl (fun Kn hK => ?_)
    rw [if_pos (by rfl)]
    refine wp_append_lies _ (.tmp 6) (.tmp 9) 27 rfl W.heap.size 9 i0 (.string ⟨#[]⟩) 1 16 Tryd.underlying27 hi hz0 hz1 hz2 rfl (by decide) v1 n1 _ (by rfl) jo1 ⟨g2, 0, none⟩ n2 c2 ((bytesL (timesL 97 D 2)).map Value.string) (by rfl) (by rw [List.length_map, List.length_map, HN2.out, Nat.mul_one]) (newsT hcs2) (oneT _) hp (by unfold maxLen; omega) (by omega) hjb1 _ rfl ?_
    intro g4 cp4 w4 hown hgrow hat hlt1
    have jj : JT W (.slice (some ⟨g4, 0, none⟩) (n1 + n2) cp4) (bytesL WS) w4 := by
      refine ⟨j13.b.grown hgrow j13.b.size (fun k hk => (j13.o.lt k hk).1), ?_⟩
      rw [List.length_map, HNN.out, hnn, hWS, bytesL, List.map_append, List.map_append]
      exact hown
    rw [← hnn] at jj ⊢
    clear hown hgrow hat jo1 j13 hcs2 hWS hnn
    refine hK.out _ _ ⟨KP.out _ jj.b, fun _ => trivial⟩ ?_
    clear hK Kn
    refine wpAnyE_one (i := 7) (by kernel_rfl) rfl (fun Kn hK => ?_)
    go_simp
    refine hK.out _ _ ⟨KP.out _ jj.b, fun _ => trivial⟩ ?_
    clear hK Kn
    refine wpAnyE_done (by kernel_rfl) ?_ _
    have kK := (q0.below jj.b).cell 2
    simp only [List.getElem?_cons_zero, List.getElem?_cons_succ] at kK
    have tab : Lib.TabIs Tryd.prog w4 "internal/strconv.uint64pow10" .u64 Lib.pow10Tab := HTB.out _ (b0.trans (jj.b.mono b0.size))
    go_wp2_with fail
    refine (Tryd.strconv_Itoa K (by omega) (by omega) _ tab).mono ?_
    rintro e w5 ⟨rfl, qq, os, hw5⟩
    rw [HGI'.out]
    have b5 : Below w4.heap.size w4 w5 := by rw [hw5]; exact Lib.below_grow _ _ (Nat.le_refl _) _ _
    clear hw5 tab
    have j5 := jj.below b5
    have jo := j5.o
    rw [List.length_map, HNN.out] at jo
    have hjb5 := j5.b.size
    clear b5 jj
    go_wp2_with (at_builtin; go_must (refine wpList_append_lies _ rfl (.tmp 11) (.tmp 15) 27 rfl W.heap.size 9 i0 (.string ⟨#[]⟩) 1 16 Tryd.underlying27 hi hz0 hz1 hz2 rfl (by decide) _ _ _ rfl (jo.alloc _) ⟨w5.heap.size, 0, none⟩ 1 1 [.string ⟨I.toArray⟩] rfl rfl (newsS _ _ _) (oneS _) (by omega) (by unfold maxLen; omega) (by omega) (by rw [World.size_alloc]; omega) _ rfl ?_); intro g6 cp6 w6 hown hgrow hat hlt1)
    have j6 := j5.app (by rw [List.length_map, HNN.out]) hown hgrow
    rw [show bytesL WS ++ [⟨I.toArray⟩] = bytesL (WS ++ [I]) by rw [bytesL, bytesL, List.map_append]; rfl] at j6
    have hl6 : (bytesL (WS ++ [I])).length = nn + 1 := by rw [List.length_map, List.length_append, HNN.out]; rfl
    clear hown hgrow jo j5 hat
    obtain ⟨g7, c7, hv7, hcap, hg7, hcs⟩ := j6.cells hl6 (by omega)
    simp only [Value.slice.injEq, Option.some.injEq, Addr.mk.injEq, and_true, true_and] at hv7
    obtain ⟨rfl, rfl⟩ := hv7
    have HJ := Tryd.strings_Join g6 0 cp6 (bytesL (WS ++ [I])) ⟨#[32]⟩ w6 hcs hg7 (by rw [hl6]; omega) (by rw [hl6]; exact hcap) (by
      rw [show (⟨#[32]⟩ : ByteArray).data.toList = [32] from rfl, bytes_back, join_spaced, List.length_append]
      have := HSL.out
      omega)
    rw [hl6, show (⟨#[32]⟩ : ByteArray).data.toList = [32] from rfl, bytes_back, join_spaced] at HJ
    have jb := j6.b
    clear hcs hcap hg7 j6 hl6
    go_wp2_with fail
    refine HJ.mono ?_
    rintro e w7 ⟨rfl, b7⟩
    have B7 := (b0.trans (jb.mono b0.size)).trans (b7.mono (by have := b0.size; have := jb.size; omega))
    go_wp2
    go_ret
    refine ⟨?_, B7⟩
    rw [← HWS.out, HGI'.out]
    rfl

end Go.Proofs.YtmhhphpihnkfpaaDoor
