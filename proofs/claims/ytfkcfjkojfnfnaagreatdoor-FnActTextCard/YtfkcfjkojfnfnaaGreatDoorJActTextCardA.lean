/-
  Lemmas that the claim's last text rests on: FTxtI, RfP, RfQ, Twn, TxtJ, RdI, Own0, RfR, RfT, FrmTextI, RfU, RfV, RdJ, RdK, Shelf2, RdL, RfW, AcP, AcT.
-/
import Derived.Test.YtfkcfjkojfnfnaaGreatDoorFTxt
import Derived.Test.YtfkcfjkojfnfnaaGreatDoorTxtI
import Derived.Test.YtfkcfjkojfnfnaaGreatDoorKeyed
import Derived.Deep.Upon
import Derived.Test.YtfkcfjkojfnfnaaGreatDoorRdP
import Derived.Test.YtfkcfjkojfnfnaaGreatDoorGrow
import Derived.Lib.SliceRun
import Derived.Test.YtfkcfjkojfnfnaaGreatDoorPots
import Derived.Test.YtfkcfjkojfnfnaaGreatDoorOpen
import Derived.Stop.LaidErr
import Derived.Lib.LaidTab
import Derived.LaidMore
import Derived.Lay
import Derived.SevenTiedAt
import Derived.Stop.Joined
import Derived.Deep.RegionHeld3
import Derived.Deep.DeepCutAuto
import Derived.Shelf.LaysM
import Derived.Shelf.LaysC
import Derived.Shelf.Strings.SplitShaped
import Derived.Shelf.Strconv.ErrVarAll
import Derived.Test.YtfkcfjkojfnfnaaGreatDoorProg
import Derived.Lib.SmallJoins
import Derived.Lib.AtoiErrMem
import Derived.Test.YtfkcfjkojfnfnaaGreatDoorLines
import Derived.Test.YtfkcfjkojfnfnaaGreatDoorLine
namespace Go.Proofs.YtfkcfjkojfnfnaaGreatDoor
open Go.RowKit Go.Deep
set_option linter.unusedVariables false
set_option maxRecDepth 100000

theorem JT.nil (w : World) : JT w (.slice none 0 0) [] w := ⟨Below.refl _ _, World.ownsRow_nil w _ _ _⟩
abbrev bytesL (ws : List (List UInt8)) : List ByteArray := ws.map fun l => ⟨l.toArray⟩
theorem bytes_back (ws : List (List UInt8)) : (bytesL ws).map (·.data.toList) = ws := by
  simp [bytesL, Function.comp_def]
theorem times_len (x : UInt8) (zs : List Int) : ∀ k, (timesL x zs k).length ≤ k
  | 0 => by simp [timesL]
  | k + 1 => by
    have := times_len x zs k
    rw [timesL]
    split
    · rw [List.append_nil]; omega
    · rw [List.length_append, List.length_cons, List.length_nil]; omega
theorem times_bytes {x : UInt8} {zs : List Int} (hb : ∀ i : Nat, -10000000 ≤ zs[i]?.getD 0 ∧ zs[i]?.getD 0 ≤ 10000000) : ∀ k, k ≤ 10 → (spaced (timesL x zs k)).length ≤ 50 * k
  | 0, _ => by simp [timesL, spaced]
  | k + 1, h => by
    have ih := times_bytes (x := x) hb k (by omega)
    have hz := hb k
    have h1 := Lib.itoa_length_le (zs[k]?.getD 0) (by omega) (by omega)
    have h2 := Lib.itoa_length_le (k : Int) (by omega) (by omega)
    rw [timesL]
    split
    · rw [List.append_nil]; omega
    · rw [spaced_snoc]
      simp only [List.length_append, List.length_cons, List.length_nil]
      omega
theorem spaced_append (a b : List (List UInt8)) : spaced (a ++ b) = spaced a ++ spaced b := by
  unfold spaced
  rw [List.map_append, List.flatten_append]

set_option maxHeartbeats 1600000 in
theorem wot_any (x : UInt8) (a : Option Addr) (n cap : Nat) (zs : List Int) (w : World) (hC : Ints w a n zs) (hn : n ≤ 10) (hb : ∀ i : Nat, -10000000 ≤ zs[i]?.getD 0 ∧ zs[i]?.getD 0 ≤ 10000000) (hT : Lib.TabBelow Tryz.prog w.heap.size w "internal/strconv.uint64pow10" .u64 Lib.pow10Tab) :
    Calls Tryz.prog 119 #[.slice a n cap, .string ⟨#[x]⟩] w fun e w' => ∃ v, e = .returned v ∧ JT w v (bytesL (timesL x zs n)) w' ∧ (timesL x zs n = [] → v = .slice none 0 0) := by
  have HL : Hid (zs.length = n) := hC.1
  have HTB : Hid _ := hT
  have BZ : Hid _ := hb
  clear hT hb
  obtain ⟨i0, hi, hz0, hz1, hz2⟩ := info_parts Tryz.infoStr
  go_enter Tryz.func119, Tryz.ntmps119
  go_wp2_with fail
  go_loopw [5, 6, 7, 10] (fun v _ _ i wr => ∃ (k m : Nat), k ≤ n ∧ i = .int .i64 k ∧ (timesL x zs k).length = m ∧ JT w v (bytesL (timesL x zs k)) wr ∧ (timesL x zs k = [] → v = .slice none 0 0)) (fun _ _ _ i _ => n - (intOf i).toNat)
  case atStart => exact ⟨0, 0, Nat.zero_le _, rfl, rfl, JT.nil w, fun _ => rfl⟩
  case round =>
    obtain ⟨k, m, hk, rfl, hm, j, hnil⟩ := hrel
    have HM : Hid _ := hm
    have HNL : Hid _ := hnil
    have hm10 := times_len x zs k
    rw [HM.out] at hm10
    clear hm hnil
    have hjb := j.b.size
    by_cases hlt : k < n
    · obtain ⟨b, off, rfl, hcell⟩ := (hC.below j.b).pos (by omega)
      have hck : wr.cell? ⟨b, off + k, none⟩ = some (.int .i64 (zs[k]?.getD 0)) := by rw [hcell k hlt]; simp
      by_cases hz : zs[k]?.getD 0 = 0
      · have HZ : Hid _ := times_zero (x := x) hz
        rw [hz] at hck
        clear hz hcell
        go_wp2
        go_roundw
        case rel => exact ⟨k + 1, m, by omega, by go_num, by rw [HZ.out]; exact HM.out, by rw [HZ.out]; exact j, by rw [HZ.out]; exact HNL.out⟩
        case measure => simp [intOf]; omega
      · have HZ : Hid _ := times_more (x := x) hz
        have hz' : (zs[k]?.getD 0 != 0) = true := by simp [hz]
        have hzb := BZ.out k
        generalize HG : zs[k]?.getD 0 = z at *
        clear HG hcell hz
        obtain ⟨z1, z2⟩ := hzb
        have hI := Lib.itoa_length_le z (by omega) (by omega)
        have hJ := Lib.itoa_length_le (k : Int) (by omega) (by omega)
        generalize HGI : Lib.itoa z = I at *
        generalize HGJ : Lib.itoa (k : Int) = J at *
        have HGI' : Hid _ := HGI
        have HGJ' : Hid _ := HGJ
        clear HGI HGJ
        have tab : Lib.TabIs Tryz.prog wr "internal/strconv.uint64pow10" .u64 Lib.pow10Tab := HTB.out wr j.b
        go_wp2_with fail
        refine (Tryz.strconv_Itoa z (by omega) (by omega) _ tab).mono ?_
        rintro e w2 ⟨rfl, q, os, hw2⟩
        rw [HGI'.out]
        have b2 : Below wr.heap.size wr w2 := by rw [hw2]; exact Lib.below_grow _ _ (Nat.le_refl _) _ _
        clear hw2 tab
        have j2 := j.below b2
        have tab : Lib.TabIs Tryz.prog w2 "internal/strconv.uint64pow10" .u64 Lib.pow10Tab := HTB.out w2 j2.b
        clear b2 j
        go_wp2_with fail
        refine (Tryz.strconv_Itoa (k : Int) (by omega) (by omega) _ tab).mono ?_
        rintro e w3 ⟨rfl, q, os, hw3⟩
        rw [HGJ'.out]
        have b3 : Below w2.heap.size w2 w3 := by rw [hw3]; exact Lib.below_grow _ _ (Nat.le_refl _) _ _
        clear hw3 tab
        have j3 := j2.below b3
        have jo := j3.o
        rw [List.length_map, HM.out] at jo
        have hjb3 := j3.b.size
        clear b3 j2
        go_wp2_with (at_builtin; go_must (refine wpList_append_lies _ rfl (.tmp 17) (.tmp 25) 53 rfl w.heap.size 9 i0 (.string ⟨#[]⟩) 1 16 Tryz.underlying53 hi hz0 hz1 hz2 rfl (by decide) _ _ _ rfl (jo.alloc _) ⟨w3.heap.size, 0, none⟩ 1 1 [.string (⟨I.toArray⟩ ++ ⟨#[x]⟩ ++ ⟨J.toArray⟩)] rfl rfl (newsS _ _ _) (oneS _) (by omega) (by unfold maxLen; omega) (by omega) (by rw [World.size_alloc]; omega) _ rfl ?_); intro g cp w4 hown hgrow hat hlt1)
        have j4 := j3.app (by rw [List.length_map, HM.out]) hown hgrow
        have e4 : bytesL (timesL x zs (k + 1)) = bytesL (timesL x zs k) ++ [⟨I.toArray⟩ ++ ⟨#[x]⟩ ++ ⟨J.toArray⟩] := by
          rw [HZ.out, bytesL, bytesL, List.map_append, show (⟨#[x]⟩ : ByteArray) = ⟨[x].toArray⟩ from rfl, cat_str, cat_str]
          rfl
        rw [← e4] at j4
        have E4 : Hid _ := e4
        clear hown hgrow jo j3 hat e4
        go_wp2
        go_roundw
        case rel => exact ⟨k + 1, m + 1, by omega, by go_num, by rw [HZ.out, List.length_append, HM.out]; rfl, j4, fun h => by rw [HZ.out] at h; simp at h⟩
        case measure => simp [intOf]; omega
    · obtain rfl : k = n := by omega
      go_wp2
      go_ret
      exact ⟨_, rfl, j, HNL.out⟩

/-- Nothing is appended. -/
theorem wp_append_nothing {P : Program} {w : World} {o : Oper} {a : Act} {K : Act → World → Prop} {Q : Exit → Act → World → Prop} (s x : Operand) (t : TypeId)
    (ho : o.op = .call { callee := .builtin .append, args := #[s, x], argTypes := #[t, t] }) (e : TypeId) (i : TypeInfo) (ht : P.underlying t = some (.slice e)) (hi : P.info? e = some i)
    (base : Option Addr) (sLen sCap : Nat) (hle : sLen ≤ sCap) (hs : a.eval s = .slice base sLen sCap) (hx : a.eval x = .slice none 0 0) (h : K (a.put o.dst (.slice base sLen sCap)) w) : o.wp P a w K Q := by
  have hr := run_append_nothing (P := P) w t t o.type e i ht hi base sLen sCap hle (.slice none 0 0) (Src.ofNil w ht 0)
  unfold Oper.wp execOp
  simp only [ho, resolve, invoke, builtin, Sem.run_bind, Sem.run_pure, Result.andThen_ok, List.map_toArray, List.map_cons, List.map_nil, hs, hx, hr]
  exact h

theorem newsT {W : World} {g : Nat} {xs : List ByteArray} (h : ∀ (i : Nat) x, xs[i]? = some x → W.cell? ⟨g, 0 + i, none⟩ = some (.string x)) : ∀ j u, (xs.map Value.string)[j]? = some u → W.cell? ((⟨g, 0, none⟩ : Addr).add j) = some u := fun j u hu => by
  rw [List.getElem?_map] at hu
  obtain ⟨x, hx, rfl⟩ := Option.map_eq_some_iff.1 hu
  have hadd : (⟨g, 0, none⟩ : Addr).add j = ⟨g, 0 + j, none⟩ := by
    by_cases h0 : j = 0
    · subst h0; simp [Addr.add]
    · simp [Addr.add, h0]
  rw [hadd]
  exact h j x hx
theorem oneT (xs : List ByteArray) : ∀ u ∈ xs.map Value.string, u.oneCell' = true := fun u hu => by
  obtain ⟨x, _, rfl⟩ := List.mem_map.1 hu
  rfl
theorem JT.slice {w W : World} {v : Value} {xs : List ByteArray} {k : Nat} (j : JT w v xs W) (hk : xs.length = k) : ∃ a cap, v = .slice a k cap ∧ k ≤ cap := by
  subst hk
  rcases j.o.2 with ⟨hv, h⟩ | ⟨g, cap', cur, rfl, hg, hh, hl, _, _⟩
  · exact ⟨none, 0, by rw [hv, h], by omega⟩
  · exact ⟨_, cap', rfl, hl⟩
theorem JT.rebase {w w1 W : World} {v : Value} {xs : List ByteArray} (j : JT w1 v xs W) (b : Below w.heap.size w w1) : JT w v xs W := by
  refine ⟨b.trans (j.b.mono b.size), j.o.1, ?_⟩
  rcases j.o.2 with h2 | ⟨g, cap, cur, hv, hg, hh, r⟩
  · exact Or.inl h2
  · exact Or.inr ⟨g, cap, cur, hv, Nat.le_trans b.size hg, hh, r⟩

set_option maxHeartbeats 3200000 in
theorem text_any (a : Option Addr) (cap : Nat) (c : Option Addr) (cap' : Nat) (K : Int) (C D : List Int) (w : World) (hC : Ints w a 3 C) (hD : Ints w c 2 D)
    (bC : ∀ i : Nat, -10000000 ≤ C[i]?.getD 0 ∧ C[i]?.getD 0 ≤ 10000000) (bD : ∀ i : Nat, -10000000 ≤ D[i]?.getD 0 ∧ D[i]?.getD 0 ≤ 10000000) (K1 : -10000000 ≤ K) (K2 : K ≤ 10000000)
    (hT : Lib.TabBelow Tryz.prog w.heap.size w "internal/strconv.uint64pow10" .u64 Lib.pow10Tab) :
    Calls Tryz.prog 101 #[formV a 3 cap c 2 cap' K] w fun e w' => e = .returned (.string ⟨(spaced (timesL 120 C 3 ++ timesL 97 D 2) ++ Lib.itoa K).toArray⟩) ∧ Below w.heap.size w w' := by
  have HTB : Hid _ := hT
  have BC : Hid _ := bC
  have BD : Hid _ := bD
  clear hT bC bD
  obtain ⟨i0, hi, hz0, hz1, hz2⟩ := info_parts Tryz.infoStr
  have q0 := Cel.new w [.slice a 3 cap, .slice c 2 cap', .int .i64 K] 34
  have b0 := (Below.refl w.heap.size w).alloc (Nat.le_refl _) (.cells #[.slice a 3 cap, .slice c 2 cap', .int .i64 K] 34)
  go_enter Tryz.func101, Tryz.ntmps101
  go_upto_region 1 with fail
  obtain ⟨W, hW⟩ : ∃ W, W = w.alloc (.cells #[.slice a 3 cap, .slice c 2 cap', .int .i64 K] 34) := ⟨_, rfl⟩
  rw [← hW] at q0 b0 ⊢
  clear hW
  have KP : Hid (∀ X : World, Below W.heap.size W X → X.cell? ⟨w.heap.size, 0, none⟩ = some (.slice a 3 cap) ∧ X.cell? ⟨w.heap.size, 1, none⟩ = some (.slice c 2 cap')) := fun X h => ⟨(q0.below h).cell 0, (q0.below h).cell 1⟩
  have TB : Hid (∀ X : World, Below W.heap.size W X → Lib.TabBelow Tryz.prog X.heap.size X "internal/strconv.uint64pow10" .u64 Lib.pow10Tab) := fun X h w' h' => HTB.out w' ((b0.trans (h.mono b0.size)).trans (h'.mono (by have := b0.size; have := h.size; omega)))
  have iC := hC.below b0
  have iD := hD.below b0
  clear hC hD
  have hSS := And.intro (KP.out _ (Below.refl _ _).drew) (True.intro)
  refine wp_region_ends (fun w' => w'.cell? ⟨w.heap.size, 0, none⟩ = some (.slice a 3 cap) ∧ w'.cell? ⟨w.heap.size, 1, none⟩ = some (.slice c 2 cap')) (fun _ => True) 7 (by kernel_rfl) ?_
  refine wpAnyE_take0 (i := 0) (v := ?v0) rfl (by kernel_rfl) (by kernel_rfl) (by kernel_rfl) (by decide) (fun _ _ _ h => h) (Or.inl ⟨by rfl, ?hy0⟩) hSS ?_
  case hy0 => (intro wz hSw; (try dsimp only at hSw); go_simp; try (with_reducible rfl))
  refine wpAnyE_take0 (i := 1) (v := ?v1) rfl (by kernel_rfl) (by kernel_rfl) (by kernel_rfl) (by decide) (fun _ _ _ h => h) (Or.inl ⟨by rfl, ?hy1⟩) hSS ?_
  case hy1 => (intro wz hSw; (try dsimp only at hSw); go_simp; try (with_reducible rfl))
  refine wpAnyE_take0 (i := 3) (v := ?v3) rfl (by kernel_rfl) (by kernel_rfl) (by kernel_rfl) (by decide) (fun _ _ _ h => h) (Or.inl ⟨by rfl, ?hy3⟩) hSS ?_
  case hy3 => (intro wz hSw; (try dsimp only at hSw); go_simp; try (with_reducible rfl))
  refine wpAnyE_take0 (i := 4) (v := ?v4) rfl (by kernel_rfl) (by kernel_rfl) (by kernel_rfl) (by decide) (fun _ _ _ h => h) (Or.inl ⟨by rfl, ?hy4⟩) hSS ?_
  case hy4 => (intro wz hSw; (try dsimp only at hSw); go_simp; try (with_reducible rfl))
  refine wpAnyE_one (i := 2) (by kernel_rfl) rfl (fun Kn hK => ?_)
  go_simp
  refine (wot_any 120 _ _ _ C _ (iC.below (Below.refl _ _).drew) (by omega) BC.out (TB.out _ (Below.refl _ _).drew)).mono ?_
  rintro ee w2 ⟨v1, rfl, j1, -⟩
  have b2 : Below W.heap.size W w2 := below_of_drew j1.b
  have j1' : JT W v1 (bytesL (timesL 120 C 3)) w2 := j1.rebase ((Below.refl _ _).drew)
  clear j1
  dsimp only
  refine hK.out _ _ ⟨KP.out _ b2, fun _ => trivial⟩ ?_
  clear hK Kn hSS
  refine wpAnyE_one (i := 5) (by kernel_rfl) rfl (fun Kn hK => ?_)
  go_simp
  refine (wot_any 97 _ _ _ D _ (iD.below b2) (by omega) BD.out (TB.out _ b2)).mono ?_
  rintro ee w3 ⟨v2, rfl, j2, hnil⟩
  have b3 := b2.trans (j2.b.mono b2.size)
  have j13 := j1'.below j2.b
  clear j1'
  dsimp only
  refine hK.out _ _ ⟨KP.out _ b3, fun _ => trivial⟩ ?_
  clear hK Kn
  have l1 := times_len 120 C 3
  have l2 := times_len 97 D 2
  obtain ⟨n1, hn1⟩ : ∃ n1, (timesL 120 C 3).length = n1 := ⟨_, rfl⟩
  obtain ⟨n2, hn2⟩ : ∃ n2, (timesL 97 D 2).length = n2 := ⟨_, rfl⟩
  rw [hn1] at l1
  rw [hn2] at l2
  have HN1 : Hid _ := hn1
  have HN2 : Hid _ := hn2
  clear hn1 hn2
  have hI := Lib.itoa_length_le K (by omega) (by omega)
  generalize HGI : Lib.itoa K = I at *
  have HGI' : Hid _ := HGI
  clear HGI
  obtain ⟨WS, hWS⟩ : ∃ WS, WS = timesL 120 C 3 ++ timesL 97 D 2 := ⟨_, rfl⟩
  have HWS : Hid _ := hWS
  have HSL : Hid ((spaced WS).length ≤ 250) := by
    show (spaced WS).length ≤ 250
    rw [hWS, spaced_append, List.length_append]
    have := times_bytes (x := 120) BC.out 3 (by omega)
    have := times_bytes (x := 97) BD.out 2 (by omega)
    omega
  obtain ⟨nn, hnn⟩ : ∃ nn, nn = n1 + n2 := ⟨_, rfl⟩
  have HNN : Hid (WS.length = nn) := by show WS.length = nn; rw [hWS, List.length_append, HN1.out, HN2.out, hnn]
  have hn5 : nn ≤ 5 := by omega
  by_cases hz : timesL 97 D 2 = []
  · have e2 : n2 = 0 := by rw [← HN2.out, hz]; rfl
    have hv2 := hnil hz
    subst hv2
    have ew : WS = timesL 120 C 3 := by rw [hWS, hz, List.append_nil]
    have jj : JT W v1 (bytesL WS) w3 := by rw [ew]; exact j13
    clear hWS ew hz hnil j13 j2
    obtain ⟨a1, c1, hv1, hle⟩ := jj.slice (k := nn) (by rw [List.length_map, HNN.out])
    subst hv1
    clear hnn e2
    refine wpAnyE_one (i := 6) (by kernel_rfl) rfl (fun Kn hK => ?_)
    rw [if_pos (by rfl)]
    refine wp_append_nothing (.tmp 6) (.tmp 9) 53 rfl 9 i0 Tryz.underlying53 hi a1 nn c1 hle (by rfl) (by rfl) ?_
    refine hK.out _ _ ⟨KP.out _ jj.b, fun _ => trivial⟩ ?_
    clear hK Kn
    refine wpAnyE_one (i := 7) (by kernel_rfl) rfl (fun Kn hK => ?_)
    go_simp
    refine hK.out _ _ ⟨KP.out _ jj.b, fun _ => trivial⟩ ?_
    clear hK Kn
    refine wpAnyE_done (by kernel_rfl) ?_ _
    have kK := (q0.below jj.b).cell 2
    simp only [List.getElem?_cons_zero, List.getElem?_cons_succ] at kK
    have tab : Lib.TabIs Tryz.prog w3 "internal/strconv.uint64pow10" .u64 Lib.pow10Tab := HTB.out _ (b0.trans (jj.b.mono b0.size))
    go_wp2_with fail
    refine (Tryz.strconv_Itoa K (by omega) (by omega) _ tab).mono ?_
    rintro e w5 ⟨rfl, qq, os, hw5⟩
    rw [HGI'.out]
    have b5 : Below w3.heap.size w3 w5 := by rw [hw5]; exact Lib.below_grow _ _ (Nat.le_refl _) _ _
    clear hw5 tab
    have j5 := jj.below b5
    have jo := j5.o
    rw [List.length_map, HNN.out] at jo
    have hjb5 := j5.b.size
    clear b5 jj
    go_wp2_with (at_builtin; go_must (refine wpList_append_lies _ rfl (.tmp 11) (.tmp 15) 53 rfl W.heap.size 9 i0 (.string ⟨#[]⟩) 1 16 Tryz.underlying53 hi hz0 hz1 hz2 rfl (by decide) _ _ _ rfl (jo.alloc _) ⟨w5.heap.size, 0, none⟩ 1 1 [.string ⟨I.toArray⟩] rfl rfl (newsS _ _ _) (oneS _) (by omega) (by unfold maxLen; omega) (by omega) (by rw [World.size_alloc]; omega) _ rfl ?_); intro g6 cp6 w6 hown hgrow hat hlt1)
    have j6 := j5.app (by rw [List.length_map, HNN.out]) hown hgrow
    rw [show bytesL WS ++ [⟨I.toArray⟩] = bytesL (WS ++ [I]) by rw [bytesL, bytesL, List.map_append]; rfl] at j6
    have hl6 : (bytesL (WS ++ [I])).length = nn + 1 := by rw [List.length_map, List.length_append, HNN.out]; rfl
    clear hown hgrow jo j5 hat
    obtain ⟨g7, c7, hv7, hcap, hg7, hcs⟩ := j6.cells hl6 (by omega)
    simp only [Value.slice.injEq, Option.some.injEq, Addr.mk.injEq, and_true, true_and] at hv7
    obtain ⟨rfl, rfl⟩ := hv7
    have HJ := Tryz.strings_Join g6 0 cp6 (bytesL (WS ++ [I])) ⟨#[32]⟩ w6 hcs hg7 (by rw [hl6]; omega) (by rw [hl6]; exact hcap) (by
      rw [show (⟨#[32]⟩ : ByteArray).data.toList = [32] from rfl, bytes_back, join_spaced, List.length_append]
      have := HSL.out
      omega)
    rw [hl6, show (⟨#[32]⟩ : ByteArray).data.toList = [32] from rfl, bytes_back, join_spaced] at HJ
    have jb := j6.b
    clear hcs hcap hg7 j6 hl6
    go_wp2_with fail
    refine HJ.mono ?_
    rintro e w7 ⟨rfl, b7⟩
    have B7 := (b0.trans (jb.mono b0.size)).trans (b7.mono (by have := b0.size; have := jb.size; omega))
    go_wp2
    go_ret
    refine ⟨?_, B7⟩
    rw [← HWS.out, HGI'.out]
    rfl
  · have hp : 0 < n2 := by
      rw [← HN2.out]
      exact List.length_pos_iff.2 hz
    obtain ⟨g2, c2, rfl, -, hg2, hcs2⟩ := j2.cells (k := n2) (by rw [List.length_map, HN2.out]) hp
    have jo1 := j13.o
    rw [List.length_map, HN1.out] at jo1
    have hjb1 := j13.b.size
    clear hnil hz j2
    refine wpAnyE_one (i := 6) (by kernel_rfl) rfl (fun Kn hK => ?_)
    rw [if_pos (by rfl)]
    refine wp_append_lies _ (.tmp 6) (.tmp 9) 53 rfl W.heap.size 9 i0 (.string ⟨#[]⟩) 1 16 Tryz.underlying53 hi hz0 hz1 hz2 rfl (by decide) v1 n1 _ (by rfl) jo1 ⟨g2, 0, none⟩ n2 c2 ((bytesL (timesL 97 D 2)).map Value.string) (by rfl) (by rw [List.length_map, List.length_map, HN2.out, Nat.mul_one]) (newsT hcs2) (oneT _) hp (by unfold maxLen; omega) (by omega) hjb1 _ rfl ?_
    intro g4 cp4 w4 hown hgrow hat hlt1
    have jj : JT W (.slice (some ⟨g4, 0, none⟩) (n1 + n2) cp4) (bytesL WS) w4 := by
      refine ⟨j13.b.grown hgrow j13.b.size (fun k hk => (j13.o.lt k hk).1), ?_⟩
      rw [List.length_map, HNN.out, hnn, hWS, bytesL, List.map_append, List.map_append]
      exact hown
    rw [← hnn] at jj ⊢
    clear hown hgrow hat jo1 j13 hcs2 hWS hnn
    refine hK.out _ _ ⟨KP.out _ jj.b, fun _ => trivial⟩ ?_
    clear hK Kn
    refine wpAnyE_one (i := 7) (by kernel_rfl) rfl (fun Kn hK => ?_)
    go_simp
    refine hK.out _ _ ⟨KP.out _ jj.b, fun _ => trivial⟩ ?_
    clear hK Kn
    refine wpAnyE_done (by kernel_rfl) ?_ _
    have kK := (q0.below jj.b).cell 2
    simp only [List.getElem?_cons_zero, List.getElem?_cons_succ] at kK
    have tab : Lib.TabIs Tryz.prog w4 "internal/strconv.uint64pow10" .u64 Lib.pow10Tab := HTB.out _ (b0.trans (jj.b.mono b0.size))
    go_wp2_with fail
    refine (Tryz.strconv_Itoa K (by omega) (by omega) _ tab).mono ?_
    rintro e w5 ⟨rfl, qq, os, hw5⟩
    rw [HGI'.out]
    have b5 : Below w4.heap.size w4 w5 := by rw [hw5]; exact Lib.below_grow _ _ (Nat.le_refl _) _ _
    clear hw5 tab
    have j5 := jj.below b5
    have jo := j5.o
    rw [List.length_map, HNN.out] at jo
    have hjb5 := j5.b.size
    clear b5 jj
    go_wp2_with (at_builtin; go_must (refine wpList_append_lies _ rfl (.tmp 11) (.tmp 15) 53 rfl W.heap.size 9 i0 (.string ⟨#[]⟩) 1 16 Tryz.underlying53 hi hz0 hz1 hz2 rfl (by decide) _ _ _ rfl (jo.alloc _) ⟨w5.heap.size, 0, none⟩ 1 1 [.string ⟨I.toArray⟩] rfl rfl (newsS _ _ _) (oneS _) (by omega) (by unfold maxLen; omega) (by omega) (by rw [World.size_alloc]; omega) _ rfl ?_); intro g6 cp6 w6 hown hgrow hat hlt1)
    have j6 := j5.app (by rw [List.length_map, HNN.out]) hown hgrow
    rw [show bytesL WS ++ [⟨I.toArray⟩] = bytesL (WS ++ [I]) by rw [bytesL, bytesL, List.map_append]; rfl] at j6
    have hl6 : (bytesL (WS ++ [I])).length = nn + 1 := by rw [List.length_map, List.length_append, HNN.out]; rfl
    clear hown hgrow jo j5 hat
    obtain ⟨g7, c7, hv7, hcap, hg7, hcs⟩ := j6.cells hl6 (by omega)
    simp only [Value.slice.injEq, Option.some.injEq, Addr.mk.injEq, and_true, true_and] at hv7
    obtain ⟨rfl, rfl⟩ := hv7
    have HJ := Tryz.strings_Join g6 0 cp6 (bytesL (WS ++ [I])) ⟨#[32]⟩ w6 hcs hg7 (by rw [hl6]; omega) (by rw [hl6]; exact hcap) (by
      rw [show (⟨#[32]⟩ : ByteArray).data.toList = [32] from rfl, bytes_back, join_spaced, List.length_append]
      have := HSL.out
      omega)
    rw [hl6, show (⟨#[32]⟩ : ByteArray).data.toList = [32] from rfl, bytes_back, join_spaced] at HJ
    have jb := j6.b
    clear hcs hcap hg7 j6 hl6
    go_wp2_with fail
    refine HJ.mono ?_
    rintro e w7 ⟨rfl, b7⟩
    have B7 := (b0.trans (jb.mono b0.size)).trans (b7.mono (by have := b0.size; have := jb.size; omega))
    go_wp2
    go_ret
    refine ⟨?_, B7⟩
    rw [← HWS.out, HGI'.out]
    rfl

end Go.Proofs.YtfkcfjkojfnfnaaGreatDoor
namespace Go.Proofs.YtfkcfjkojfnfnaaGreatDoor
open Go.RowKit
set_option linter.unusedVariables false

/-- A form that is being read: its two lists and its number. -/
abbrev FR := List Int × List Int × Int
def zeroR : FR := ([0, 0, 0], [0, 0], 0)
def byteAt (s : List UInt8) (i : Nat) : UInt8 := s[i]?.getD 0
/-- One word, as the specification reads it. -/
def partL (f : FR) (s : List UInt8) : FR :=
  if 2 < s.length ∧ (byteAt s (s.length - 2) = 120 ∨ byteAt s (s.length - 2) = 97) then
    (if byteAt s (s.length - 2) = 120 then
      (if inB ((byteAt s (s.length - 1)).toNat - 48) 0 2 = true then (f.1.set ((byteAt s (s.length - 1)).toNat - 48) (numL (s.take (s.length - 2))).1, f.2.1, f.2.2) else f)
    else (if inB ((byteAt s (s.length - 1)).toNat - 48) 0 1 = true then (f.1, f.2.1.set ((byteAt s (s.length - 1)).toNat - 48) (numL (s.take (s.length - 2))).1, f.2.2) else f))
  else (f.1, f.2.1, (numL s).1)
/-- One word of a list's, as the program reads it. -/
def timesR (x : UInt8) (zs : List Int) (s : List UInt8) : Option (List Int) :=
  match Lib.cut s [x] with
  | (m, q, true) => match Lib.atoiAll m, Lib.atoiAll q with
    | .ok z, .ok p => if 0 ≤ p ∧ p < zs.length then some (zs.set p.toNat z) else none
    | _, _ => none
  | (_, _, false) => none
def wordR (f : FR) (s : List UInt8) : Option FR :=
  match timesR 120 f.1 s with
  | some C => some (C, f.2.1, f.2.2)
  | none => match timesR 97 f.2.1 s with
    | some D => some (f.1, D, f.2.2)
    | none => none
def wordsR (f : FR) : List (List UInt8) → Option FR
  | [] => some f
  | x :: t => match wordR f x with
    | some g => wordsR g t
    | none => none
theorem wordsR_append (a b : List (List UInt8)) : ∀ f : FR, wordsR f (a ++ b) = (wordsR f a).bind (wordsR · b) := by
  induction a with
  | nil => intro f; rfl
  | cons x t ih =>
    intro f
    simp only [List.cons_append, wordsR]
    cases wordR f x with
    | none => rfl
    | some g => exact ih g

/-! ### Words of a form's own text -/
theorem itoa_bytes (z : Int) : ∀ b ∈ Lib.itoa z, b = 45 ∨ (48 ≤ b.toNat ∧ b.toNat ≤ 57) := by
  intro b hb
  rw [Lib.itoa] at hb
  split at hb
  · rcases List.mem_cons.1 hb with e | hb
    · exact Or.inl e
    · exact Or.inr (dec_digits _ _ hb)
  · exact Or.inr (dec_digits _ _ hb)
theorem itoa_no (z : Int) (x : UInt8) (hx : x = 120 ∨ x = 97 ∨ x = 32) : x ∉ Lib.itoa z := by
  intro m
  rcases itoa_bytes z x m with e | ⟨h1, h2⟩
  · rcases hx with rfl | rfl | rfl <;> cases e
  · rcases hx with rfl | rfl | rfl
    · rw [show (120 : UInt8).toNat = 120 from rfl] at h2; omega
    · rw [show (97 : UInt8).toNat = 97 from rfl] at h2; omega
    · rw [show (32 : UInt8).toNat = 32 from rfl] at h1; omega
theorem itoa_small {k : Nat} (hk : k < 10) : Lib.itoa (k : Int) = [UInt8.ofNat (48 + k)] := by
  rw [Lib.itoa, if_neg (by omega), Int.toNat_natCast, dec_one hk]
theorem itoa_pos (z : Int) : 1 ≤ (Lib.itoa z).length := by
  rw [Lib.itoa]
  split
  · simp
  · exact dec_pos _
def termW (x : UInt8) (z : Int) (k : Nat) : List UInt8 := Lib.itoa z ++ [x] ++ Lib.itoa (k : Int)
theorem term_len {x : UInt8} {z : Int} {k : Nat} (hk : k < 10) : (termW x z k).length = (Lib.itoa z).length + 2 := by
  rw [termW, itoa_small hk]; simp
theorem term_mid {x : UInt8} {z : Int} {k : Nat} (hk : k < 10) : byteAt (termW x z k) ((termW x z k).length - 2) = x := by
  rw [term_len hk, byteAt, termW, itoa_small hk]; simp
theorem term_last {x : UInt8} {z : Int} {k : Nat} (hk : k < 10) : (byteAt (termW x z k) ((termW x z k).length - 1)).toNat = 48 + k := by
  rw [term_len hk, byteAt, termW, itoa_small hk]
  have : (Lib.itoa z).length + 2 - 1 = (Lib.itoa z ++ [x]).length := by simp
  rw [this, List.getElem?_append_right (Nat.le_refl _)]
  simp
  omega
theorem term_head {x : UInt8} {z : Int} {k : Nat} (hk : k < 10) : (termW x z k).take ((termW x z k).length - 2) = Lib.itoa z := by
  rw [term_len hk, termW, List.append_assoc]; simp
theorem part_x (f : FR) (z : Int) (k : Nat) (hk : k ≤ 2) (hz : -10000000 ≤ z ∧ z ≤ 10000000) : partL f (termW 120 z k) = (f.1.set k z, f.2.1, f.2.2) := by
  have h1 := itoa_pos z
  rw [partL, if_pos ⟨by rw [term_len (by omega)]; omega, Or.inl (term_mid (by omega))⟩, if_pos (term_mid (by omega)), term_last (by omega), term_head (by omega), num_back z (by omega), if_pos (by rw [inB_iff]; omega)]
  congr 2
  omega
theorem part_a (f : FR) (z : Int) (k : Nat) (hk : k ≤ 1) (hz : -10000000 ≤ z ∧ z ≤ 10000000) : partL f (termW 97 z k) = (f.1, f.2.1.set k z, f.2.2) := by
  have h1 := itoa_pos z
  rw [partL, if_pos ⟨by rw [term_len (by omega)]; omega, Or.inr (term_mid (by omega))⟩, if_neg (by rw [term_mid (by omega)]; decide), term_last (by omega), term_head (by omega), num_back z (by omega), if_pos (by rw [inB_iff]; omega)]
  congr 3
  omega
theorem part_k (f : FR) (K : Int) (hK : -10000000 ≤ K ∧ K ≤ 10000000) : partL f (Lib.itoa K) = (f.1, f.2.1, K) := by
  rw [partL, if_neg, num_back K (by omega)]
  rintro ⟨h1, h2⟩
  have hm : byteAt (Lib.itoa K) ((Lib.itoa K).length - 2) ∈ Lib.itoa K := by
    rw [byteAt, List.getElem?_eq_getElem (by omega)]
    exact List.getElem_mem _
  rcases h2 with h2 | h2
  · rw [h2] at hm; exact itoa_no K 120 (Or.inl rfl) hm
  · rw [h2] at hm; exact itoa_no K 97 (Or.inr (Or.inl rfl)) hm
theorem index_first : ∀ (p r : List UInt8) (x : UInt8), x ∉ p → Lib.indexByte (p ++ x :: r) x = p.length
  | [], r, x, _ => by rw [List.nil_append, Lib.indexByte, if_pos (by simp)]; rfl
  | b :: t, r, x, h => by
    have hb : ¬ (b == x) = true := fun e => h (by have : b = x := by simpa using e
                                                  rw [this]; simp)
    have ih := index_first t r x (fun m => h (List.mem_cons_of_mem _ m))
    rw [List.cons_append, Lib.indexByte, if_neg hb, ih, if_neg (by simp), List.length_cons]
    omega
theorem cut_term {x : UInt8} {z : Int} {k : Nat} (hx : x = 120 ∨ x = 97) : Lib.cut (termW x z k) [x] = (Lib.itoa z, Lib.itoa (k : Int), true) := by
  have hn : x ∉ Lib.itoa z := itoa_no z x (by rcases hx with h | h; exact Or.inl h; exact Or.inr (Or.inl h))
  have e : termW x z k = Lib.itoa z ++ x :: Lib.itoa (k : Int) := by rw [termW]; simp
  rw [Lib.cut, Lib.index_one, e, index_first _ _ _ hn, if_pos (by omega), Int.toNat_natCast]
  simp
theorem cut_none {x : UInt8} {s : List UInt8} (h : x ∉ s) : Lib.cut s [x] = (s, [], false) := by
  rw [Lib.cut, Lib.index_one]
  have : Lib.indexByte s x = -1 := Classical.byContradiction fun hi => by
    obtain ⟨i, -, -, h2⟩ := indexByte_some hi
    exact h (by rw [h2]; simp)
  rw [this, if_neg (by omega)]
theorem times_term {x : UInt8} {zs : List Int} {z : Int} {k : Nat} (hx : x = 120 ∨ x = 97) (hk : k < zs.length) (hk3 : k ≤ 2) (hz : -10000000 ≤ z ∧ z ≤ 10000000) : timesR x zs (termW x z k) = some (zs.set k z) := by
  rw [timesR, cut_term hx]
  show (match Lib.atoiAll (Lib.itoa z), Lib.atoiAll (Lib.itoa (k : Int)) with | .ok z, .ok p => _ | _, _ => _) = _
  rw [all_back z (by omega), all_back k (by omega)]
  show (if _ then _ else _) = _
  rw [if_pos (by omega), Int.toNat_natCast]
theorem word_x (f : FR) (z : Int) (k : Nat) (hf : f.1.length = 3) (hk : k ≤ 2) (hz : -10000000 ≤ z ∧ z ≤ 10000000) : wordR f (termW 120 z k) = some (f.1.set k z, f.2.1, f.2.2) := by
  rw [wordR, times_term (Or.inl rfl) (by omega) hk hz]
theorem word_a (f : FR) (z : Int) (k : Nat) (hf : f.2.1.length = 2) (hk : k ≤ 1) (hz : -10000000 ≤ z ∧ z ≤ 10000000) : wordR f (termW 97 z k) = some (f.1, f.2.1.set k z, f.2.2) := by
  have hn : (120 : UInt8) ∉ termW 97 z k := by
    rw [termW]
    intro m
    rcases List.mem_append.1 m with m | m
    · rcases List.mem_append.1 m with m | m
      · exact itoa_no z 120 (Or.inl rfl) m
      · exact absurd m (by decide)
    · exact itoa_no k 120 (Or.inl rfl) m
  have h0 : timesR 120 f.1 (termW 97 z k) = none := by rw [timesR, cut_none hn]
  rw [wordR, h0, times_term (Or.inr rfl) (by omega) (by omega) hz]

end Go.Proofs.YtfkcfjkojfnfnaaGreatDoor
namespace Go.Proofs.YtfkcfjkojfnfnaaGreatDoor
open Go.RowKit
set_option linter.unusedVariables false

def okZ (z : Int) : Prop := -10000000 ≤ z ∧ z ≤ 10000000
theorem times3 (x : UInt8) (a b c : Int) : timesL x [a, b, c] 3 = (((if a = 0 then [] else [termW x a 0]) ++ (if b = 0 then [] else [termW x b 1])) ++ (if c = 0 then [] else [termW x c 2])) := rfl
theorem times2 (x : UInt8) (a b : Int) : timesL x [a, b] 2 = ((if a = 0 then [] else [termW x a 0]) ++ (if b = 0 then [] else [termW x b 1])) := rfl
theorem fold_x (a b c : Int) (ha : okZ a) (hb : okZ b) (hc : okZ c) (D : List Int) (K : Int) : (timesL 120 [a, b, c] 3).foldl partL ([0, 0, 0], D, K) = ([a, b, c], D, K) := by
  have p0 : ∀ f, partL f (termW 120 a 0) = (f.1.set 0 a, f.2.1, f.2.2) := fun f => part_x f a 0 (by omega) ha
  have p1 : ∀ f, partL f (termW 120 b 1) = (f.1.set 1 b, f.2.1, f.2.2) := fun f => part_x f b 1 (by omega) hb
  have p2 : ∀ f, partL f (termW 120 c 2) = (f.1.set 2 c, f.2.1, f.2.2) := fun f => part_x f c 2 (by omega) hc
  rw [times3]
  by_cases h0 : a = 0 <;> by_cases h1 : b = 0 <;> by_cases h2 : c = 0 <;> simp [h0, h1, h2, p0, p1, p2]
theorem fold_a (a b : Int) (ha : okZ a) (hb : okZ b) (C : List Int) (K : Int) : (timesL 97 [a, b] 2).foldl partL (C, [0, 0], K) = (C, [a, b], K) := by
  have p0 : ∀ f, partL f (termW 97 a 0) = (f.1, f.2.1.set 0 a, f.2.2) := fun f => part_a f a 0 (by omega) ha
  have p1 : ∀ f, partL f (termW 97 b 1) = (f.1, f.2.1.set 1 b, f.2.2) := fun f => part_a f b 1 (by omega) hb
  rw [times2]
  by_cases h0 : a = 0 <;> by_cases h1 : b = 0 <;> simp [h0, h1, p0, p1]
theorem words_x (a b c : Int) (ha : okZ a) (hb : okZ b) (hc : okZ c) (D : List Int) (K : Int) : wordsR ([0, 0, 0], D, K) (timesL 120 [a, b, c] 3) = some ([a, b, c], D, K) := by
  have p0 : ∀ u v w : Int, wordR ([u, v, w], D, K) (termW 120 a 0) = some ([u, v, w].set 0 a, D, K) := fun u v w => word_x _ a 0 rfl (by omega) ha
  have p1 : ∀ u v w : Int, wordR ([u, v, w], D, K) (termW 120 b 1) = some ([u, v, w].set 1 b, D, K) := fun u v w => word_x _ b 1 rfl (by omega) hb
  have p2 : ∀ u v w : Int, wordR ([u, v, w], D, K) (termW 120 c 2) = some ([u, v, w].set 2 c, D, K) := fun u v w => word_x _ c 2 rfl (by omega) hc
  rw [times3]
  by_cases h0 : a = 0 <;> by_cases h1 : b = 0 <;> by_cases h2 : c = 0 <;> simp [h0, h1, h2, p0, p1, p2, wordsR]
theorem words_a (a b : Int) (ha : okZ a) (hb : okZ b) (C : List Int) (K : Int) : wordsR (C, [0, 0], K) (timesL 97 [a, b] 2) = some (C, [a, b], K) := by
  have p0 : ∀ u v : Int, wordR (C, [u, v], K) (termW 97 a 0) = some (C, [u, v].set 0 a, K) := fun u v => word_a _ a 0 rfl (by omega) ha
  have p1 : ∀ u v : Int, wordR (C, [u, v], K) (termW 97 b 1) = some (C, [u, v].set 1 b, K) := fun u v => word_a _ b 1 rfl (by omega) hb
  rw [times2]
  by_cases h0 : a = 0 <;> by_cases h1 : b = 0 <;> simp [h0, h1, p0, p1, wordsR]
theorem term_plain {x : UInt8} (hx : x = 120 ∨ x = 97) (z : Int) (k : Nat) : 32 ∉ termW x z k := by
  rw [termW]
  intro m
  rcases List.mem_append.1 m with m | m
  · rcases List.mem_append.1 m with m | m
    · exact itoa_plain z m
    · rcases hx with rfl | rfl <;> exact absurd m (by decide)
  · exact itoa_plain k m
theorem times_plain {x : UInt8} (hx : x = 120 ∨ x = 97) (zs : List Int) : ∀ k, ∀ s ∈ timesL x zs k, 32 ∉ s
  | 0, s, h => by cases h
  | k + 1, s, h => by
    rw [timesL] at h
    rcases List.mem_append.1 h with h | h
    · exact times_plain hx zs k s h
    · split at h
      · cases h
      · have e := List.mem_singleton.1 h
        rw [e]
        exact term_plain hx _ k
theorem words_spaced : ∀ (ws : List (List UInt8)) (last : List UInt8), (∀ s ∈ ws, 32 ∉ s) → 32 ∉ last → wordsOf (spaced ws ++ last) = ws ++ [last]
  | [], last, _, h => by simpa [spaced] using words_plain h
  | x :: t, last, hs, h => by
    have e : spaced (x :: t) ++ last = x ++ 32 :: (spaced t ++ last) := by simp [spaced]
    rw [e, words_cut (hs x (by simp)), words_spaced t last (fun s m => hs s (List.mem_cons_of_mem _ m)) h]
    rfl

/-- What a text is read as by the specification, by the program. -/
def preF (l : List UInt8) : FR := (wordsOf l).foldl partL zeroR
def goR (l : List UInt8) : Option FR :=
  match wordsR zeroR (wordsOf l).dropLast with
  | none => none
  | some f => match Lib.atoiAll ((wordsOf l).getLastD []) with
    | .ok z => some (f.1, f.2.1, z)
    | _ => none
def textF (f : FR) : List UInt8 := formText f.1.length f.2.1.length f.1 f.2.1 f.2.2
def noF : FR × Bool := (([], [], 0), false)
def rfS (l : List UInt8) : FR × Bool := if textF (preF l) ≠ [] ∧ textF (preF l) = l then (preF l, true) else noF
def rfI (l : List UInt8) : FR × Bool :=
  match goR l with
  | none => noF
  | some f => if textF f = l then (f, true) else noF
theorem len3 {C : List Int} (h : C.length = 3) : ∃ a b c, C = [a, b, c] := by
  match C, h with
  | [a, b, c], _ => exact ⟨a, b, c, rfl⟩
theorem len2 {C : List Int} (h : C.length = 2) : ∃ a b, C = [a, b] := by
  match C, h with
  | [a, b], _ => exact ⟨a, b, rfl⟩
theorem form_back {f : FR} {l : List UInt8} (h0 : l ≠ []) (h : textF f = l) : preF l = f ∧ goR l = some f := by
  obtain ⟨C, D, K⟩ := f
  have hok : formB C.length D.length C D K = true := by
    cases e : formB C.length D.length C D K with
    | true => rfl
    | false => exact absurd ((h.symm.trans (formText_no e))) h0
  obtain ⟨h3, h2, bC, bD, k1, k2⟩ := formB_elim hok
  obtain ⟨a, b, c, rfl⟩ := len3 h3
  obtain ⟨d, e, rfl⟩ := len2 h2
  have hl : l = spaced (timesL 120 [a, b, c] 3 ++ timesL 97 [d, e] 2) ++ Lib.itoa K := h.symm.trans (formText_yes hok)
  have hw : wordsOf l = (timesL 120 [a, b, c] 3 ++ timesL 97 [d, e] 2) ++ [Lib.itoa K] := by
    rw [hl, words_spaced _ _ _ (itoa_plain K)]
    intro s m
    rcases List.mem_append.1 m with m | m
    · exact times_plain (Or.inl rfl) _ _ s m
    · exact times_plain (Or.inr rfl) _ _ s m
  have ba : okZ a := bC 0
  have bb : okZ b := bC 1
  have bc : okZ c := bC 2
  have bd : okZ d := bD 0
  have be : okZ e := bD 1
  constructor
  · rw [preF, hw, List.foldl_append, List.foldl_append, zeroR, fold_x a b c ba bb bc, fold_a d e bd be]
    show partL _ _ = _
    rw [part_k _ K ⟨k1, k2⟩]
  · rw [goR, hw, List.dropLast_concat, wordsR_append, zeroR, words_x a b c ba bb bc]
    show (match wordsR ([a, b, c], [0, 0], 0) _ with | none => _ | some f => _) = _
    rw [words_a d e bd be]
    show (match Lib.atoiAll _ with | .ok z => _ | _ => _) = _
    rw [List.getLastD_concat, all_back K (by omega)]
theorem rf_same (l : List UInt8) : rfI l = rfS l := by
  by_cases h0 : l = []
  · subst h0
    rw [rfS, if_neg (fun h => h.1 h.2)]
    rfl
  rw [rfS]
  by_cases h : textF (preF l) ≠ [] ∧ textF (preF l) = l
  · rw [if_pos h, rfI, (form_back h0 h.2).2]
    show (if _ then _ else _) = _
    rw [if_pos h.2]
  · rw [if_neg h, rfI]
    cases e : goR l with
    | none => rfl
    | some f =>
      show (if _ then _ else _) = _
      rw [if_neg]
      intro hf
      obtain ⟨h1, -⟩ := form_back h0 hf
      exact h (by rw [h1, hf]; exact ⟨h0, rfl⟩)

end Go.Proofs.YtfkcfjkojfnfnaaGreatDoor
namespace Go.Proofs.YtfkcfjkojfnfnaaGreatDoor
open Go.RowKit
set_option linter.unusedVariables false
set_option maxRecDepth 100000

def wordsT (l : List UInt8) (zs : List Int) : List ByteArray := ⟨l.toArray⟩ :: zs.map fun z => ⟨(Lib.itoa z).toArray⟩
theorem wordsT_join (l : List UInt8) (zs : List Int) : Lib.join ((wordsT l zs).map (·.data.toList)) [32] = l ++ tailL zs := by
  rw [wordsT, List.map_cons, Lib.join_cons, tailL, List.map_map]
  rfl
theorem wordsT_step {l : List UInt8} {zs : List Int} {k : Nat} (h : k < zs.length) : wordsT l (zs.take (k + 1)) = wordsT l (zs.take k) ++ [⟨(Lib.itoa (zs[k]?.getD 0)).toArray⟩] := by
  rw [wordsT, wordsT, List.take_succ_eq_append_getElem h, List.getElem?_eq_getElem h, List.map_append]
  rfl
set_option maxHeartbeats 3200000 in
theorem itwn_any (l : List UInt8) (a : Option Addr) (n cap : Nat) (zs : List Int) (w : World) (hC : Ints w a n zs) (hn : n ≤ 1000) (hl : l.length ≤ 1000) (hz : ∀ i : Nat, -999999999999 ≤ zs[i]?.getD 0 ∧ zs[i]?.getD 0 ≤ 999999999999) (hT : Lib.TabBelow Tryz.prog w.heap.size w "internal/strconv.uint64pow10" .u64 Lib.pow10Tab) :
    Calls Tryz.prog 25 #[.string ⟨l.toArray⟩, .slice a n cap] w fun e w' => e = .returned (.string ⟨(l ++ tailL zs).toArray⟩) ∧ Below w.heap.size w w' := by
  have HL : Hid (zs.length = n) := hC.1
  have HTB : Hid _ := hT
  have BZ : Hid (∀ i : Nat, -999999999999 ≤ zs[i]?.getD 0 ∧ zs[i]?.getD 0 ≤ 999999999999) := hz
  have HLL : Hid (l.length ≤ 1000) := hl
  clear hT hz hl
  obtain ⟨i0, hi, hz0, hz1, hz2⟩ := info_parts Tryz.infoStr
  obtain ⟨S, hS⟩ : ∃ S : ByteArray, S = ⟨l.toArray⟩ := ⟨_, rfl⟩
  have HS0 : Hid (S = ⟨l.toArray⟩) := hS
  rw [← hS]
  clear hS
  go_enter Tryz.func25, Tryz.ntmps25
  go_wp2_with fail
  go_loopw [5, 7, 12] (fun v _ i wr => ∃ (k : Nat) (xs : List ByteArray), k ≤ n ∧ i = .int .i64 k ∧ xs.length = k + 1 ∧ xs = wordsT l (zs.take k) ∧ JT w v xs wr) (fun _ _ i _ => n - (intOf i).toNat)
  case atStart => exact ⟨0, _, Nat.zero_le _, rfl, rfl, by rw [HS0.out]; rfl, JT.one w S⟩
  case round =>
    obtain ⟨k, xs, hk, rfl, hxl, hxs, j⟩ := hrel
    have HXL : Hid _ := hxl
    have HXS : Hid _ := hxs
    clear hxl hxs
    have hjb := j.b.size
    by_cases hlt : k < n
    · obtain ⟨b, off, rfl, hcell⟩ := (hC.below j.b).pos (by omega)
      have hck : wr.cell? ⟨b, off + k, none⟩ = some (.int .i64 (zs[k]?.getD 0)) := by rw [hcell k hlt]; simp
      have HS : Hid _ := wordsT_step (l := l) (zs := zs) (k := k) (by rw [HL.out]; exact hlt)
      have hz := BZ.out k
      generalize HG : zs[k]?.getD 0 = z at hck HS hz
      clear HG hcell
      obtain ⟨z1, z2⟩ := hz
      have tab : Lib.TabIs Tryz.prog wr "internal/strconv.uint64pow10" .u64 Lib.pow10Tab := HTB.out wr j.b
      go_wp2_with fail
      refine (Tryz.strconv_Itoa z (by omega) (by omega) _ tab).mono ?_
      rintro e w2 ⟨rfl, q, os, hw2⟩
      have b2 : Below wr.heap.size wr w2 := by rw [hw2]; exact Lib.below_grow _ _ (Nat.le_refl _) _ _
      clear hw2 tab
      have j2 := j.below b2
      have jo := j2.o
      rw [HXL.out] at jo
      have hjb2 := j2.b.size
      clear b2 j
      obtain ⟨I, hI⟩ : ∃ I : ByteArray, I = ⟨(Lib.itoa z).toArray⟩ := ⟨_, rfl⟩
      rw [← hI]
      have HI : Hid _ := hI
      clear hI
      go_wp2_with (at_builtin; go_must (refine wpList_append_lies _ rfl (.tmp 16) (.tmp 19) 53 rfl w.heap.size 9 i0 (.string ⟨#[]⟩) 1 16 Tryz.underlying53 hi hz0 hz1 hz2 rfl (by decide) _ _ _ rfl (jo.alloc _) ⟨w2.heap.size, 0, none⟩ 1 1 [.string I] rfl rfl (newsS _ _ _) (oneS _) (by omega) (by unfold maxLen; omega) (by omega) (by rw [World.size_alloc]; omega) _ rfl ?_); intro g cp w3 hown hgrow hat hlt1)
      have j3 := j2.app HXL.out hown hgrow
      clear hown hgrow jo j2 hat
      go_wp2
      go_roundw
      case rel => exact ⟨k + 1, _, by omega, by go_num, by rw [List.length_append, HXL.out]; rfl, by rw [HS.out, HXS.out, HI.out], j3⟩
      case measure => simp [intOf]; omega
    · obtain rfl : k = n := by omega
      obtain ⟨g, gc, rfl, hcap, hg, hcs⟩ := j.cells HXL.out (by omega)
      have HJ := Tryz.strings_Join g 0 gc xs ⟨#[32]⟩ wr hcs hg (by rw [HXL.out]; omega) (by rw [HXL.out]; exact hcap) (by
        rw [HXS.out, List.take_of_length_le (by rw [HL.out]; exact Nat.le_refl _)]
        have := wordsT_join l zs
        rw [show (⟨#[32]⟩ : ByteArray).data.toList = [32] from rfl, this, List.length_append]
        have := tail_len BZ.out zs.length (Nat.le_refl _)
        rw [List.take_length] at this
        have := HLL.out
        have := HL.out
        omega)
      rw [HXL.out] at HJ
      have jb := j.b
      clear hcs hcap hg j
      go_wp2_with fail
      refine HJ.mono ?_
      rintro e w2 ⟨rfl, b2⟩
      have B2 := jb.trans (b2.mono (by omega))
      go_wp2
      go_ret
      refine ⟨?_, B2⟩
      rw [← wordsT_join l zs, HXS.out, List.take_of_length_le (by rw [HL.out]; exact Nat.le_refl _)]
      rfl

end Go.Proofs.YtfkcfjkojfnfnaaGreatDoor
namespace Go.Proofs.YtfkcfjkojfnfnaaGreatDoor
open Go.RowKit
set_option linter.unusedVariables false
set_option maxRecDepth 100000

end Go.Proofs.YtfkcfjkojfnfnaaGreatDoor
namespace Go.Proofs.YtfkcfjkojfnfnaaGreatDoor
open Go.RowKit
set_option linter.unusedVariables false
set_option maxRecDepth 100000

def AtoiPost (x : List UInt8) (W : World) (e : Ending) (w' : World) : Prop :=
  Below W.heap.size W w' ∧ ((∃ v, Lib.atoiAll x = .ok v ∧ e = .returned (.tuple #[.int .i64 v, .nilIface])) ∨ ((∀ v, Lib.atoiAll x ≠ .ok v) ∧ ∃ z t b, e = .returned (.tuple #[.int .i64 z, .iface t (.pointer (some ⟨b, 0, none⟩))])))
def ReadsN (w : World) : Prop := ∀ W, Below w.heap.size w W → ∀ x : List UInt8, x.length ≤ 120 → Calls Tryz.prog 72 #[.string ⟨x.toArray⟩] W (AtoiPost x W)
def SplitPost (l : List UInt8) (W : World) (e : Ending) (w' : World) : Prop :=
  e = .returned (.slice (some ⟨W.heap.size, 0, none⟩) (wordsOf l).length (wordsOf l).length) ∧ W.heap.size < w'.heap.size ∧ (∀ (i : Nat) (x : List UInt8), (wordsOf l)[i]? = some x → w'.cell? ⟨W.heap.size, i, none⟩ = some (.string ⟨x.toArray⟩)) ∧ Below W.heap.size W w'
def Splits (w : World) : Prop := ∀ W, Below w.heap.size w W → ∀ l : List UInt8, l.length ≤ 120 → Calls Tryz.prog 53 #[.string ⟨l.toArray⟩, .string ⟨#[32]⟩] W (SplitPost l W)
theorem ReadsN.below {w w' : World} (h : ReadsN w) (b : Below w.heap.size w w') : ReadsN w' := fun W hW => h W (b.trans (hW.mono b.size))
theorem atoiS_drop {ws : List (List UInt8)} {k : Nat} {x : List UInt8} {v : Int} {xs : List Int} (hk : ws[k]? = some x) (hx : Lib.atoiAll x = .ok v) (h : atoiS ws = (atoiS (ws.drop k)).map (xs ++ ·)) : atoiS ws = (atoiS (ws.drop (k + 1))).map ((xs ++ [v]) ++ ·) := by
  have hl := (List.getElem?_eq_some_iff.1 hk).1
  have e : ws.drop k = x :: ws.drop (k + 1) := by
    rw [List.drop_eq_getElem_cons hl, (List.getElem?_eq_some_iff.1 hk).2]
  rw [h, e, atoiS, hx]
  simp only [Option.map_map]
  congr 1
  funext y
  simp
theorem atoiS_bad {ws : List (List UInt8)} {k : Nat} {x : List UInt8} {xs : List Int} (hk : ws[k]? = some x) (hx : ∀ v, Lib.atoiAll x ≠ .ok v) (h : atoiS ws = (atoiS (ws.drop k)).map (xs ++ ·)) : atoiS ws = none := by
  have hl := (List.getElem?_eq_some_iff.1 hk).1
  have e : ws.drop k = x :: ws.drop (k + 1) := by
    rw [List.drop_eq_getElem_cons hl, (List.getElem?_eq_some_iff.1 hk).2]
  rw [h, e, atoiS]
  cases hh : Lib.atoiAll x with
  | ok v => exact absurd hh (hx v)
  | «syntax» => rfl
  | range => rfl

set_option maxHeartbeats 3200000 in
theorem inums_any (ws : List (List UInt8)) (b o n cap : Nat) (w : World) (hn : ws.length = n) (hn1 : n ≤ 121) (hb : b < w.heap.size) (hW : ∀ (i : Nat) (x : List UInt8), ws[i]? = some x → w.cell? ⟨b, o + i, none⟩ = some (.string ⟨x.toArray⟩)) (hws : ∀ x ∈ ws, x.length ≤ 120) (hA : ReadsN w) :
    Calls Tryz.prog 54 #[.slice (some ⟨b, o, none⟩) n cap] w fun e w' => ∃ v xs ok, e = .returned (.tuple #[v, .bool ok]) ∧ JA w v xs w' ∧ (ok = true → atoiS ws = some xs) ∧ (ok = false → atoiS ws = none) := by
  have HN : Hid _ := hn
  have HW : Hid _ := hW
  have HS : Hid _ := hws
  have HA : Hid _ := hA
  clear hn hW hws hA
  obtain ⟨i0, hi, hz0, hz1, hz2⟩ := info_parts Tryz.infoInt
  go_enter Tryz.func54, Tryz.ntmps54
  go_wp2_with fail
  go_loopw [4, 6, 7, 8, 11] (fun v _ _ _ i wr => ∃ (k : Nat) (xs : List Int), k ≤ n ∧ i = .int .i64 k ∧ xs.length = k ∧ atoiS ws = (atoiS (ws.drop k)).map (xs ++ ·) ∧ JA w v xs wr) (fun _ _ _ _ i _ => n - (intOf i).toNat)
  case atStart => exact ⟨0, [], Nat.zero_le _, rfl, rfl, by simp, JA.nil w⟩
  case round =>
    obtain ⟨k, xs, hk, rfl, hxl, hxs, j⟩ := hrel
    have HXL : Hid _ := hxl
    have HXS : Hid _ := hxs
    clear hxl hxs
    have hjb := j.b.size
    by_cases hlt : k < n
    · obtain ⟨x, hx⟩ : ∃ x, ws[k]? = some x := ⟨_, List.getElem?_eq_getElem (by rw [HN.out]; exact hlt)⟩
      have hck : wr.cell? ⟨b, o + k, none⟩ = some (.string ⟨x.toArray⟩) := by
        rw [j.b.cell (p := ⟨b, o + k, none⟩) hb]; exact HW.out k x hx
      have hxlen : x.length ≤ 120 := HS.out x (List.mem_of_getElem? hx)
      have HX : Hid _ := hx
      clear hx
      go_wp2_with fail
      refine (HA.out wr j.b x hxlen).mono ?_
      rintro e w2 ⟨b2, hcase⟩
      rcases hcase with ⟨v, hv, rfl⟩ | ⟨hv, z, t, bb, rfl⟩
      · have HV : Hid _ := atoiS_drop HX.out hv HXS.out
        clear hv
        have j2 := j.below b2
        have jo := j2.o
        rw [HXL.out] at jo
        have hjb2 := j2.b.size
        clear b2 j
        go_wp2_with (at_builtin; go_must (refine wpList_append_lies _ rfl (.tmp 22) (.tmp 24) 23 rfl w.heap.size 3 i0 (.int .i64 0) 1 8 Tryz.underlying23 hi hz0 hz1 hz2 rfl (by decide) _ _ _ rfl (jo.alloc _) ⟨w2.heap.size, 0, none⟩ 1 1 [.int .i64 v] rfl rfl (news1 _ _ _) (one1 _ _) (by omega) (by unfold maxLen; omega) (by omega) (by rw [World.size_alloc]; omega) _ rfl ?_); intro g cp w3 hown hgrow hat hlt1)
        have j3 := j2.app HXL.out hown hgrow
        clear hown hgrow jo j2 hat
        go_wp2
        go_roundw
        case rel => exact ⟨k + 1, _, by omega, by go_num, by rw [List.length_append, HXL.out]; rfl, HV.out, j3⟩
        case measure => simp [intOf]; omega
      · have HV : Hid _ := atoiS_bad HX.out hv HXS.out
        have B2 := j.b.trans (b2.mono j.b.size)
        clear hv
        go_wp2
        refine bodyPost_ret (v := .tuple #[.slice none 0 0, .bool false]) (by simp [results, Tryz.results54, go_sem]) rfl ?_
        exact ⟨_, [], false, rfl, ⟨B2, World.ownsRow_nil _ _ _ _⟩, (fun h => by cases h), (fun _ => HV.out)⟩
    · obtain rfl : k = n := by omega
      have HV : Hid (atoiS ws = some xs) := by
        show _ = _
        rw [HXS.out, List.drop_of_length_le (by rw [HN.out]; exact Nat.le_refl _)]
        simp [atoiS]
      go_wp2
      refine bodyPost_ret (v := .tuple #[_, .bool true]) (by simp [results, Tryz.results54, go_sem]; rfl) rfl ?_
      exact ⟨_, xs, true, rfl, j, (fun _ => HV.out), (fun h => by cases h)⟩

end Go.Proofs.YtfkcfjkojfnfnaaGreatDoor
namespace Go.Proofs.YtfkcfjkojfnfnaaGreatDoor
open Go.RowKit
set_option linter.unusedVariables false
set_option maxRecDepth 100000

/-- The first n cells of block B are zs, free to be written; there may be room behind them. -/
def OwnX (W : World) (a : Option Addr) (B n : Nat) (zs : List Int) : Prop :=
  zs.length = n ∧ (n = 0 ∨ (a = some ⟨B, 0, none⟩ ∧ ∃ cur : List Value, Cel W B cur 3 ∧ ∀ i, i < n → cur[i]? = some (.int .i64 (zs[i]?.getD 0))))
theorem OwnX.ints {W : World} {a : Option Addr} {B n : Nat} {zs : List Int} (h : OwnX W a B n zs) : Ints W a n zs := by
  refine ⟨h.1, fun i hi => ?_⟩
  rcases h.2 with h0 | ⟨rfl, cur, hc, hv⟩
  · omega
  · refine ⟨B, 0, rfl, ?_⟩
    rw [Nat.zero_add, hc.cell i, hv i hi]
    simp
theorem OwnX.below {W W' : World} {a : Option Addr} {B n : Nat} {zs : List Int} (h : OwnX W a B n zs) (b : Below W.heap.size W W') : OwnX W' a B n zs := by
  refine ⟨h.1, ?_⟩
  rcases h.2 with h0 | ⟨e, cur, hc, hv⟩
  · exact .inl h0
  · exact .inr ⟨e, cur, hc.below b, hv⟩
theorem OwnX.alloc {W : World} {a : Option Addr} {B n : Nat} {zs : List Int} (h : OwnX W a B n zs) (o : Obj) : OwnX (W.alloc o) a B n zs := h.below ((Below.refl _ _).alloc (Nat.le_refl _) _)
theorem OwnX.touch {S : Nat → Prop} {W W' : World} {a : Option Addr} {B n : Nat} {zs : List Int} (h : OwnX W a B n zs) (t : Touch S W W') (hn : 0 < n → ¬ S B) : OwnX W' a B n zs := by
  refine ⟨h.1, ?_⟩
  rcases h.2 with h0 | ⟨e, cur, hc, hv⟩
  · exact .inl h0
  · by_cases h0 : 0 < n
    · exact .inr ⟨e, cur, hc.touch t (hn h0), hv⟩
    · exact .inl (by omega)
theorem OwnX.lt {W : World} {a : Option Addr} {B n : Nat} {zs : List Int} (h : OwnX W a B n zs) (hn : 0 < n) : B < W.heap.size := by
  rcases h.2 with h0 | ⟨e, cur, hc, hv⟩
  · omega
  · exact hc.lt
theorem OwnX.setOther {W : World} {a : Option Addr} {B n X : Nat} {zs : List Int} (h : OwnX W a B n zs) (hX : 0 < n → X ≠ B) (i : Nat) (v : Value) : OwnX (W.setCell ⟨X, i, none⟩ v) a B n zs := by
  refine h.touch (S := fun k => k = X) (Touch.setCell (S := fun k => k = X) (Touch.refl _ _) rfl v) (fun h0 e => hX h0 e.symm)
theorem OwnX.nil (W : World) (a : Option Addr) (B : Nat) : OwnX W a B 0 [] := ⟨rfl, .inl rfl⟩
theorem OwnX.pos {W : World} {a : Option Addr} {B n : Nat} {zs : List Int} (h : OwnX W a B n zs) (hn : 0 < n) : a = some ⟨B, 0, none⟩ ∧ (∀ i, i < n → W.cell? ⟨B, i, none⟩ = some (.int .i64 (zs[i]?.getD 0))) ∧ ∀ i, W.frozen? ⟨B, i, none⟩ = false := by
  rcases h.2 with h0 | ⟨rfl, cur, hc, hv⟩
  · omega
  · exact ⟨rfl, fun i hi => by rw [hc.cell i, hv i hi], fun i => hc.free i⟩
theorem OwnX.set {W : World} {a : Option Addr} {B n : Nat} {zs : List Int} (h : OwnX W a B n zs) {i : Nat} (hi : i < n) (x : Int) : OwnX (W.setCell ⟨B, i, none⟩ (.int .i64 x)) a B n (zs.set i x) := by
  refine ⟨by rw [List.length_set]; exact h.1, ?_⟩
  rcases h.2 with h0 | ⟨e, cur, hc, hv⟩
  · omega
  · refine .inr ⟨e, cur.set i (.int .i64 x), hc.set _ _, fun j hj => ?_⟩
    have hl : i < cur.length := by
      have := hv i hi
      exact (List.getElem?_eq_some_iff.1 this).1
    have hz := h.1
    by_cases e : j = i
    · subst e
      rw [List.getElem?_set_self hl, List.getElem?_set_self (by omega)]; rfl
    · rw [List.getElem?_set_ne (by omega), hv j hj, List.getElem?_set_ne (by omega)]
theorem JA.ownx {w W : World} {v : Value} {xs : List Int} {n : Nat} (j : JA w v xs W) (hn : xs.length = n) : ∃ a cap B, v = .slice a n cap ∧ OwnX W a B n xs ∧ (0 < n → w.heap.size ≤ B) := by
  subst hn
  rcases j.o.2 with ⟨hv, h⟩ | ⟨g, cap', cur, rfl, hg, hh, hl, _, hs, ht⟩
  · rw [h]
    have : xs = [] := List.eq_nil_of_length_eq_zero h
    subst this
    exact ⟨none, 0, 0, hv, OwnX.nil _ _ _, fun h => by omega⟩
  · refine ⟨some ⟨g, 0, none⟩, cap', g, rfl, ⟨rfl, .inr ⟨rfl, cur.toList, by unfold Cel; simpa using hh, fun i hi => ?_⟩⟩, fun _ => hg⟩
    have h1 : (cur.toList.take (xs.length * 1))[i]? = (xs.map (Value.int .i64))[i]? := by rw [ht]
    rw [List.getElem?_take, if_pos (by omega)] at h1
    rw [h1]
    simp [hi]

end Go.Proofs.YtfkcfjkojfnfnaaGreatDoor
namespace Go.Proofs.YtfkcfjkojfnfnaaGreatDoor
open Go.RowKit
set_option linter.unusedVariables false
set_option maxRecDepth 100000

def Cuts (w : World) : Prop := ∀ W, Below w.heap.size w W → ∀ (s : List UInt8) (x : UInt8), s.length ≤ 120 → Calls Tryz.prog 61 #[.string ⟨s.toArray⟩, .string ⟨#[x]⟩] W fun e w' =>
  e = .returned (.tuple #[.string ⟨(Lib.cut s [x]).1.toArray⟩, .string ⟨(Lib.cut s [x]).2.1.toArray⟩, .bool (Lib.cut s [x]).2.2]) ∧ Below W.heap.size W w'
theorem Cuts.below {w w' : World} (h : Cuts w) (b : Below w.heap.size w w') : Cuts w' := fun W hW => h W (b.trans (hW.mono b.size))
theorem cut_len {s m q : List UInt8} {x : UInt8} {f : Bool} (h : Lib.cut s [x] = (m, q, f)) : m.length ≤ s.length ∧ q.length ≤ s.length := by
  rw [Lib.cut] at h
  split at h
  · cases h
    rw [List.length_take, List.length_drop]
    omega
  · cases h
    exact ⟨Nat.le_refl _, Nat.zero_le _⟩
theorem times_f {s m q : List UInt8} {x : UInt8} {zs : List Int} (h : Lib.cut s [x] = (m, q, false)) : timesR x zs s = none := by rw [timesR, h]
theorem times_m {s m q : List UInt8} {x : UInt8} {zs : List Int} (h : Lib.cut s [x] = (m, q, true)) (hm : ∀ v, Lib.atoiAll m ≠ .ok v) : timesR x zs s = none := by
  rw [timesR, h]
  show (match Lib.atoiAll m, Lib.atoiAll q with | .ok z, .ok p => _ | _, _ => _) = _
  cases e : Lib.atoiAll m with
  | ok v => exact absurd e (hm v)
  | «syntax» => rfl
  | range => rfl
theorem times_q {s m q : List UInt8} {x : UInt8} {zs : List Int} {v : Int} (h : Lib.cut s [x] = (m, q, true)) (hm : Lib.atoiAll m = .ok v) (hq : ∀ v, Lib.atoiAll q ≠ .ok v) : timesR x zs s = none := by
  rw [timesR, h]
  show (match Lib.atoiAll m, Lib.atoiAll q with | .ok z, .ok p => _ | _, _ => _) = _
  rw [hm]
  cases e : Lib.atoiAll q with
  | ok v => exact absurd e (hq v)
  | «syntax» => rfl
  | range => rfl
theorem times_ok {s m q : List UInt8} {x : UInt8} {zs : List Int} {v p : Int} (h : Lib.cut s [x] = (m, q, true)) (hm : Lib.atoiAll m = .ok v) (hq : Lib.atoiAll q = .ok p) : timesR x zs s = if 0 ≤ p ∧ p < zs.length then some (zs.set p.toNat v) else none := by
  rw [timesR, h]
  show (match Lib.atoiAll m, Lib.atoiAll q with | .ok z, .ok p => _ | _, _ => _) = _
  rw [hm, hq]

set_option maxHeartbeats 3200000 in
theorem rtimes_any (x : UInt8) (s : List UInt8) (B n : Nat) (zs : List Int) (w : World) (hs : s.length ≤ 120) (hz : Blk w B zs) (hn : zs.length = n) (hn1 : n ≤ 3) (hA : ReadsN w) (hC : Cuts w) :
    Calls Tryz.prog 100 #[.string ⟨s.toArray⟩, .string ⟨#[x]⟩, .slice (some ⟨B, 0, none⟩) n n] w fun e w' =>
      (∃ ys, timesR x zs s = some ys ∧ ys.length = n ∧ e = .returned (.bool true) ∧ Touch (fun k => k = B) w w' ∧ Blk w' B ys) ∨ (timesR x zs s = none ∧ e = .returned (.bool false) ∧ Below w.heap.size w w') := by
  have HN : Hid _ := hn
  have HA : Hid _ := hA
  have HC : Hid _ := hC
  clear hn hA hC
  obtain ⟨⟨m, q, f⟩, hc⟩ : ∃ r, Lib.cut s [x] = r := ⟨_, rfl⟩
  have HCU : Hid _ := hc
  obtain ⟨lm, lq⟩ := cut_len hc
  have hm120 : m.length ≤ 120 := by omega
  have hq120 : q.length ≤ 120 := by omega
  go_enter Tryz.func100, Tryz.ntmps100
  go_wp2_with fail
  refine (HC.out w (Below.refl _ _) s x hs).mono ?_
  rintro e w1 ⟨rfl, b1⟩
  rw [hc]
  clear hc lm lq hs HC
  go_wp2_with fail
  refine (HA.out w1 b1 m hm120).mono ?_
  rintro e w2 ⟨b2, hcase⟩
  have B2 := b1.trans (b2.mono b1.size)
  clear b1 b2
  rcases hcase with ⟨v, hv, rfl⟩ | ⟨hv, z, t, bb, rfl⟩
  · have HV : Hid _ := hv
    clear hv
    go_wp2_with fail
    refine (HA.out w2 B2 q hq120).mono ?_
    rintro e w3 ⟨b3, hcase⟩
    have B3 := B2.trans (b3.mono B2.size)
    clear b3 B2
    rcases hcase with ⟨p, hp, rfl⟩ | ⟨hp, z, t, bb, rfl⟩
    · have HP : Hid _ := hp
      clear hp
      cases f with
      | false =>
        go_wp2
        go_ret
        exact Or.inr ⟨times_f HCU.out, rfl, B3⟩
      | true =>
        have HT : Hid _ := times_ok (zs := zs) HCU.out HV.out HP.out
        go_wp2_with fail
        refine (place_any _ _ _).mono ?_
        rintro e w4 ⟨rfl, rfl⟩
        by_cases hin : 0 ≤ p ∧ p < (n : Int)
        · obtain ⟨k, rfl⟩ : ∃ k : Nat, p = k := ⟨p.toNat, by omega⟩
          have hd : decide (0 ≤ (k : Int) ∧ (k : Int) < (n : Int)) = true := by simpa using hin
          rw [hd]
          have hk : k < n := by omega
          have hz3 : Blk w4 B zs := hz.below B3
          have hc := hz3.cell k (by rw [HN.out]; exact hk)
          have hf := hz3.free k
          have hs2 := hz3.set k v
          have T3 : Touch (fun j => j = B) w (w4.setCell ⟨B, k, none⟩ (.int .i64 v)) := Touch.setCell (S := fun j => j = B) (Touch.of B3) rfl _
          have HR : Hid (timesR x zs s = some (zs.set k v)) := by show _ = _; rw [HT.out, if_pos (by rw [HN.out]; exact hin)]; rfl
          clear hin hd hz hz3 HT
          go_wp2
          go_ret
          exact Or.inl ⟨_, HR.out, by rw [List.length_set]; exact HN.out, rfl, T3, hs2⟩
        · have hd : decide (0 ≤ p ∧ p < (n : Int)) = false := by simpa using hin
          rw [hd]
          have HR : Hid (timesR x zs s = none) := by show _ = _; rw [HT.out, if_neg (by rw [HN.out]; exact hin)]
          clear hin hd HT
          go_wp2
          go_ret
          exact Or.inr ⟨HR.out, rfl, B3⟩
    · have HR : Hid (timesR x zs s = none) := by
        show _ = _
        cases f with
        | false => exact times_f HCU.out
        | true => exact times_q HCU.out HV.out hp
      clear hp
      cases f with
      | false =>
        go_wp2
        go_ret
        exact Or.inr ⟨HR.out, rfl, B3⟩
      | true =>
        go_wp2
        go_ret
        exact Or.inr ⟨HR.out, rfl, B3⟩
  · have HR : Hid (timesR x zs s = none) := by
      show _ = _
      cases f with
      | false => exact times_f HCU.out
      | true => exact times_m HCU.out hv
    clear hv
    go_wp2_with fail
    refine (HA.out w2 B2 q hq120).mono ?_
    rintro e w3 ⟨b3, hcase⟩
    have B3 := B2.trans (b3.mono B2.size)
    clear b3 B2
    rcases hcase with ⟨p, hp, rfl⟩ | ⟨hp, z, t, bb, rfl⟩
    · clear hp
      cases f with
      | false =>
        go_wp2
        go_ret
        exact Or.inr ⟨HR.out, rfl, B3⟩
      | true =>
        go_wp2
        go_ret
        exact Or.inr ⟨HR.out, rfl, B3⟩
    · clear hp
      cases f with
      | false =>
        go_wp2
        go_ret
        exact Or.inr ⟨HR.out, rfl, B3⟩
      | true =>
        go_wp2
        go_ret
        exact Or.inr ⟨HR.out, rfl, B3⟩

end Go.Proofs.YtfkcfjkojfnfnaaGreatDoor
namespace Go.Proofs.YtfkcfjkojfnfnaaGreatDoor
open Go.RowKit
set_option linter.unusedVariables false
set_option maxRecDepth 100000

def goW (ws : List (List UInt8)) (last : List UInt8) : Option FR :=
  match wordsR zeroR ws with
  | none => none
  | some f => match Lib.atoiAll last with
    | .ok z => some (f.1, f.2.1, z)
    | _ => none
theorem wordsR_take {ws : List (List UInt8)} {k : Nat} {x : List UInt8} {f g : FR} (hx : ws[k]? = some x) (h : wordsR f (ws.take k) = some g) : wordsR f (ws.take (k + 1)) = wordR g x := by
  have hl := (List.getElem?_eq_some_iff.1 hx).1
  have e : ws.take (k + 1) = ws.take k ++ [x] := by
    rw [List.take_succ_eq_append_getElem hl, (List.getElem?_eq_some_iff.1 hx).2]
  rw [e, wordsR_append, h]
  show wordsR g [x] = _
  rw [wordsR]
  cases wordR g x with
  | none => rfl
  | some y => rfl
theorem wordsR_none {ws : List (List UInt8)} {k : Nat} {x : List UInt8} {f g : FR} (hx : ws[k]? = some x) (h : wordsR f (ws.take k) = some g) (hw : wordR g x = none) : wordsR f ws = none := by
  have h1 := wordsR_take hx h
  rw [hw] at h1
  have e : ws = ws.take (k + 1) ++ ws.drop (k + 1) := (List.take_append_drop _ _).symm
  rw [e, wordsR_append, h1]
  rfl
theorem goW_none {ws : List (List UInt8)} {last : List UInt8} (h : wordsR zeroR ws = none) : goW ws last = none := by rw [goW, h]
theorem goW_bad {ws : List (List UInt8)} {last : List UInt8} {f : FR} (h : wordsR zeroR ws = some f) (hl : ∀ v, Lib.atoiAll last ≠ .ok v) : goW ws last = none := by
  rw [goW, h]
  show (match Lib.atoiAll last with | .ok z => _ | _ => _) = _
  cases e : Lib.atoiAll last with
  | ok v => exact absurd e (hl v)
  | «syntax» => rfl
  | range => rfl
theorem goW_ok {ws : List (List UInt8)} {last : List UInt8} {C D : List Int} {K z : Int} (h : wordsR zeroR ws = some (C, D, K)) (hl : Lib.atoiAll last = .ok z) : goW ws last = some (C, D, z) := by
  rw [goW, h]
  show (match Lib.atoiAll last with | .ok z => _ | _ => _) = _
  rw [hl]

/-- What the reader holds: the result's box, the form's box, its two lists. -/
structure FB (w : World) (R F B1 B2 : Nat) (C D : List Int) (W : World) : Prop where
  b : Below w.heap.size w W
  r : Cel W R [.slice none 0 0, .slice none 0 0, .int .i64 0] 34
  f : Cel W F [.slice (some ⟨B1, 0, none⟩) 3 3, .slice (some ⟨B2, 0, none⟩) 2 2, .int .i64 0] 34
  k1 : Blk W B1 C
  k2 : Blk W B2 D
  l1 : C.length = 3
  l2 : D.length = 2
  h1 : w.heap.size ≤ B1
  h2 : w.heap.size ≤ B2
  n12 : B1 ≠ B2
  n1 : R ≠ B1 ∧ R ≠ B2
  n2 : F ≠ B1 ∧ F ≠ B2
theorem FB.below {w W W' : World} {R F B1 B2 : Nat} {C D : List Int} (s : FB w R F B1 B2 C D W) (h : Below W.heap.size W W') : FB w R F B1 B2 C D W' :=
  ⟨s.b.trans (h.mono s.b.size), s.r.below h, s.f.below h, s.k1.below h, s.k2.below h, s.l1, s.l2, s.h1, s.h2, s.n12, s.n1, s.n2⟩
theorem FB.setC {w W W' : World} {R F B1 B2 : Nat} {C D C' : List Int} (s : FB w R F B1 B2 C D W) (t : Touch (fun k => k = B1) W W') (k : Blk W' B1 C') (hl : C'.length = 3) : FB w R F B1 B2 C' D W' :=
  ⟨s.b.trans (t.below s.b.size (fun k hk => by rw [hk]; exact s.h1)), s.r.touch t s.n1.1, s.f.touch t s.n2.1, k, by have := s.k2; unfold Blk at *; rw [t.block _ s.k2.lt (fun e => s.n12 e.symm)]; exact this, hl, s.l2, s.h1, s.h2, s.n12, s.n1, s.n2⟩
theorem FB.setD {w W W' : World} {R F B1 B2 : Nat} {C D D' : List Int} (s : FB w R F B1 B2 C D W) (t : Touch (fun k => k = B2) W W') (k : Blk W' B2 D') (hl : D'.length = 2) : FB w R F B1 B2 C D' W' :=
  ⟨s.b.trans (t.below s.b.size (fun k hk => by rw [hk]; exact s.h2)), s.r.touch t s.n1.2, s.f.touch t s.n2.2, by have := s.k1; unfold Blk at *; rw [t.block _ s.k1.lt s.n12]; exact this, k, s.l1, hl, s.h1, s.h2, s.n12, s.n1, s.n2⟩

set_option maxHeartbeats 6400000 in
theorem iform_any (ws : List (List UInt8)) (last : List UInt8) (b n cap : Nat) (w : World) (hn : ws.length = n) (hn1 : n ≤ 121) (hcap : n + 1 ≤ cap) (hb : b < w.heap.size) (hW : ∀ (i : Nat) (x : List UInt8), (ws ++ [last])[i]? = some x → w.cell? ⟨b, i, none⟩ = some (.string ⟨x.toArray⟩)) (hws : ∀ x ∈ ws ++ [last], x.length ≤ 120) (hA : ReadsN w) (hC : Cuts w) :
    Calls Tryz.prog 82 #[.slice (some ⟨b, 0, none⟩) (n + 1) cap] w fun e w' =>
      (∃ C D K B1 B2, goW ws last = some (C, D, K) ∧ e = .returned (.tuple #[formV (some ⟨B1, 0, none⟩) 3 3 (some ⟨B2, 0, none⟩) 2 2 K, .bool true]) ∧ C.length = 3 ∧ D.length = 2 ∧ Below w.heap.size w w' ∧ w.heap.size ≤ B1 ∧ B1 ≠ B2 ∧ w.heap.size ≤ B2 ∧ Blk w' B1 C ∧ Blk w' B2 D) ∨
      (goW ws last = none ∧ e = .returned (.tuple #[formV none 0 0 none 0 0 0, .bool false]) ∧ Below w.heap.size w w') := by
  have HN : Hid _ := hn
  have HW : Hid _ := hW
  have HS : Hid _ := hws
  have HA : Hid _ := hA
  have HC : Hid _ := hC
  clear hn hW hws hA hC
  have B0 := (Below.refl w.heap.size w).alloc (Nat.le_refl _) (.cells #[.slice none 0 0, .slice none 0 0, .int .i64 0] 34)
  have x0 := Cel.new w [.slice none 0 0, .slice none 0 0, .int .i64 0] 34
  go_enter Tryz.func82, Tryz.ntmps82
  go_wp2_with fail
  refine (izero_any _).mono ?_
  rintro e w1 ⟨B1, B2, rfl, b1, h1, h12, h2, k1, k2⟩
  rw [World.size_alloc] at h1 h2
  have x1 := x0.below b1
  have lt1 := x1.lt
  have s0 : FB w w.heap.size w1.heap.size B1 B2 [0, 0, 0] [0, 0] (w1.alloc (.cells #[.slice (some ⟨B1, 0, none⟩) 3 3, .slice (some ⟨B2, 0, none⟩) 2 2, .int .i64 0] 34)) := by
    have z1 := k1.lt
    have z2 := k2.lt
    exact ⟨(B0.trans (b1.mono B0.size)).alloc (by omega) _, x1.below ((Below.refl _ _).alloc (Nat.le_refl _) _), Cel.new w1 _ _, k1.below ((Below.refl _ _).alloc (Nat.le_refl _) _), k2.below ((Below.refl _ _).alloc (Nat.le_refl _) _), rfl, rfl, by omega, by omega, h12, ⟨by omega, by omega⟩, ⟨by omega, by omega⟩⟩
  clear B0 x0 x1 b1 h1 h2 h12 k1 k2
  go_wp2_with fail
  go_loopw [7, 18] (fun _ i wr => ∃ (k : Nat) (C D : List Int), k ≤ n ∧ i = .int .i64 k ∧ wordsR zeroR (ws.take k) = some (C, D, 0) ∧ FB w w.heap.size w1.heap.size B1 B2 C D wr) (fun _ i _ => n - (intOf i).toNat)
  case atStart => exact ⟨0, _, _, Nat.zero_le _, rfl, rfl, s0⟩
  case round =>
    clear s0
    obtain ⟨k, C, D, hk, rfl, hwr, sb⟩ := hrel
    have HWR : Hid _ := hwr
    clear hwr
    have hsz := sb.b.size
    have hbr : b < wr.heap.size := by omega
    have f0 := sb.f.cell 0
    have f1 := sb.f.cell 1
    have f2 := sb.f.cell 2
    simp only [List.getElem?_cons_zero, List.getElem?_cons_succ] at f0 f1 f2
    by_cases hlt : k < n
    · obtain ⟨x, hx⟩ : ∃ x, ws[k]? = some x := ⟨_, List.getElem?_eq_getElem (by rw [HN.out]; exact hlt)⟩
      have hx2 : (ws ++ [last])[k]? = some x := by rw [List.getElem?_append_left (by rw [HN.out]; exact hlt)]; exact hx
      have hck : wr.cell? ⟨b, k, none⟩ = some (.string ⟨x.toArray⟩) := by
        rw [sb.b.cell (p := ⟨b, k, none⟩) hb]; exact HW.out k x hx2
      have hxl : x.length ≤ 120 := HS.out x (List.mem_of_getElem? hx2)
      have HX : Hid _ := hx
      clear hx hx2
      go_wp2_with fail
      refine (rtimes_any 120 x B1 3 C wr hxl sb.k1 sb.l1 (by omega) (ReadsN.below HA.out sb.b) (Cuts.below HC.out sb.b)).mono ?_
      rintro e w2 hcase
      rcases hcase with ⟨ys, hy, hyl, rfl, t2, k2⟩ | ⟨hy, rfl, b2⟩
      · have s2 := sb.setC t2 k2 hyl
        have HR : Hid (wordsR zeroR (ws.take (k + 1)) = some (ys, D, 0)) := by
          show _ = _
          rw [wordsR_take HX.out HWR.out, wordR]
          show (match timesR 120 C x with | some C => _ | none => _) = _
          rw [hy]
        clear hy t2 k2 sb f0 f1 f2 hck
        go_wp2
        go_roundw
        case rel => exact ⟨k + 1, ys, D, by omega, by go_num, HR.out, s2⟩
        case measure => simp [intOf]; omega
      · have s2 := sb.below b2
        have HY : Hid _ := hy
        clear hy b2 sb f0 f1 f2 hck
        have f0 := s2.f.cell 0
        have f1 := s2.f.cell 1
        simp only [List.getElem?_cons_zero, List.getElem?_cons_succ] at f0 f1
        go_wp2_with fail
        refine (rtimes_any 97 x B2 2 D w2 hxl s2.k2 s2.l2 (by omega) (ReadsN.below HA.out s2.b) (Cuts.below HC.out s2.b)).mono ?_
        rintro e w3 hcase
        rcases hcase with ⟨ys, hy, hyl, rfl, t2, k2⟩ | ⟨hy, rfl, b2⟩
        · have s3 := s2.setD t2 k2 hyl
          have HR : Hid (wordsR zeroR (ws.take (k + 1)) = some (C, ys, 0)) := by
            show _ = _
            rw [wordsR_take HX.out HWR.out, wordR]
            show (match timesR 120 C x with | some C => _ | none => match timesR 97 D x with | some D => _ | none => _) = _
            rw [HY.out, hy]
          clear hy t2 k2 s2 f0 f1
          go_wp2
          go_roundw
          case rel => exact ⟨k + 1, C, ys, by omega, by go_num, HR.out, s3⟩
          case measure => simp [intOf]; omega
        · have s3 := s2.below b2
          have HR : Hid (goW ws last = none) := by
            refine goW_none (wordsR_none HX.out HWR.out ?_)
            rw [wordR]
            show (match timesR 120 C x with | some C => _ | none => match timesR 97 D x with | some D => _ | none => _) = _
            rw [HY.out, hy]
          clear hy b2 s2 f0 f1
          have r0 := s3.r.cell 0
          have r1 := s3.r.cell 1
          have r2 := s3.r.cell 2
          have q0 := s3.r.free 0
          have q1 := s3.r.free 1
          have q2 := s3.r.free 2
          simp only [List.getElem?_cons_zero, List.getElem?_cons_succ] at r0 r1 r2
          go_wp2
          exact bodyPost_ret (v := .tuple #[formV none 0 0 none 0 0 0, .bool false]) (by simp [results, Tryz.results82, go_sem, r0, r1, r2]) rfl (Or.inr ⟨HR.out, rfl, ((s3.b.setCell (Nat.le_refl _) _).setCell (Nat.le_refl _) _).setCell (Nat.le_refl _) _⟩)
    · obtain rfl : k = n := by omega
      have HWS : Hid (wordsR zeroR ws = some (C, D, 0)) := by
        show _ = _
        rw [← HWR.out, List.take_of_length_le (by rw [HN.out]; exact Nat.le_refl _)]
      have hxl : (ws ++ [last])[k]? = some last := by rw [List.getElem?_append_right (by rw [HN.out]; exact Nat.le_refl _), HN.out]; simp
      have hck : wr.cell? ⟨b, k, none⟩ = some (.string ⟨last.toArray⟩) := by
        rw [sb.b.cell (p := ⟨b, k, none⟩) hb]; exact HW.out k last hxl
      have hll : last.length ≤ 120 := HS.out last (by simp)
      clear HWR hxl
      go_wp2_with fail
      refine (HA.out wr sb.b last hll).mono ?_
      rintro e w2 ⟨b2, hcase⟩
      have s2 := sb.below b2
      clear b2 sb f0 f1 f2 hck
      have r0 := s2.r.cell 0
      have r1 := s2.r.cell 1
      have r2 := s2.r.cell 2
      have q0 := s2.r.free 0
      have q1 := s2.r.free 1
      have q2 := s2.r.free 2
      simp only [List.getElem?_cons_zero, List.getElem?_cons_succ] at r0 r1 r2
      rcases hcase with ⟨v, hv, rfl⟩ | ⟨hv, z, t, bb, rfl⟩
      · have HR : Hid _ := goW_ok HWS.out hv
        clear hv
        have f2 := s2.f.cell 2
        have p2 := s2.f.free 2
        simp only [List.getElem?_cons_zero, List.getElem?_cons_succ] at f2
        have ltF := s2.f.lt
        have ltR := s2.r.lt
        have nRF : w.heap.size ≠ w1.heap.size := by omega
        have F' := s2.f.set 2 (.int .i64 v)
        have R' := s2.r.setOther nRF 2 (.int .i64 v)
        have g0 := F'.cell 0
        have g1 := F'.cell 1
        have g2 := F'.cell 2
        have d0 := R'.cell 0
        have d1 := R'.cell 1
        have d2 := R'.cell 2
        have e0 := R'.free 0
        have e1 := R'.free 1
        have e2 := R'.free 2
        simp only [List.set_cons_zero, List.set_cons_succ, List.getElem?_cons_zero, List.getElem?_cons_succ] at g0 g1 g2 d0 d1 d2
        have B' := s2.b.setCell (p := ⟨w1.heap.size, 2, none⟩) (by show w.heap.size ≤ w1.heap.size; omega) (.int .i64 v)
        obtain ⟨m1, m2⟩ := s2.n1
        obtain ⟨m3, m4⟩ := s2.n2
        have K1 := s2.k1.setOther (Ne.symm m3) 2 (.int .i64 v)
        have K2 := s2.k2.setOther (Ne.symm m4) 2 (.int .i64 v)
        have l1 := s2.l1
        have l2 := s2.l2
        have o1 := s2.h1
        have o2 := s2.h2
        have o3 := s2.n12
        have HL : Hid (C.length = 3 ∧ D.length = 2) := ⟨l1, l2⟩
        have HL2 : Hid (w.heap.size ≤ B1 ∧ B1 ≠ B2 ∧ w.heap.size ≤ B2) := ⟨o1, o3, o2⟩
        clear s2 F' R' l1 l2 o1 o2 o3 r0 r1 r2 q0 q1 q2
        go_wp2
        exact bodyPost_ret (v := .tuple #[formV (some ⟨B1, 0, none⟩) 3 3 (some ⟨B2, 0, none⟩) 2 2 v, .bool true]) (by simp [results, Tryz.results82, go_sem, d0, d1, d2]) rfl (Or.inl ⟨C, D, v, B1, B2, HR.out, rfl, HL.out.1, HL.out.2, ((B'.setCell (Nat.le_refl _) _).setCell (Nat.le_refl _) _).setCell (Nat.le_refl _) _, HL2.out.1, HL2.out.2.1, HL2.out.2.2, ((K1.setOther (Ne.symm m1) _ _).setOther (Ne.symm m1) _ _).setOther (Ne.symm m1) _ _, ((K2.setOther (Ne.symm m2) _ _).setOther (Ne.symm m2) _ _).setOther (Ne.symm m2) _ _⟩)
      · have HR : Hid _ := goW_bad HWS.out hv
        clear hv
        go_wp2
        exact bodyPost_ret (v := .tuple #[formV none 0 0 none 0 0 0, .bool false]) (by simp [results, Tryz.results82, go_sem, r0, r1, r2]) rfl (Or.inr ⟨HR.out, rfl, ((s2.b.setCell (Nat.le_refl _) _).setCell (Nat.le_refl _) _).setCell (Nat.le_refl _) _⟩)

end Go.Proofs.YtfkcfjkojfnfnaaGreatDoor
namespace Go.Proofs.YtfkcfjkojfnfnaaGreatDoor.fnExactFrmText
open Go.ChangeShapes Go.WideShapes Go.ChangeAt Go.RowKit Go.Deep
set_option linter.unusedVariables false

theorem _root_.Go.Proofs.YtfkcfjkojfnfnaaGreatDoor.Cel.three {w : World} {B : Nat} {v0 v1 v2 : Value} {t : TypeId} (h : Cel w B [v0, v1, v2] t) : w.cell? ⟨B, 0, none⟩ = some v0 ∧ w.cell? ⟨B, 1, none⟩ = some v1 ∧ w.cell? ⟨B, 2, none⟩ = some v2 := ⟨h.cell 0, h.cell 1, h.cell 2⟩

set_option maxRecDepth 100000 in
theorem iftext_any (a : Option Addr) (n cap : Nat) (c : Option Addr) (m cap' : Nat) (K : Int) (C D : List Int) (w : World) (hC : Ints w a n C) (hD : Ints w c m D) (hn : n ≤ 1048576) (hm : m ≤ 1048576) (hT : Lib.TabBelow Tryz.prog w.heap.size w "internal/strconv.uint64pow10" .u64 Lib.pow10Tab) :
    Calls Tryz.prog 83 #[formV a n cap c m cap' K] w fun e w' => e = .returned (.string ⟨(formText n m C D K).toArray⟩) ∧ Below w.heap.size w w' := by
  have q0 := Cel.new w [.slice a n cap, .slice c m cap', .int .i64 K] 34
  have b0 := (Below.refl w.heap.size w).alloc (Nat.le_refl _) (.cells #[.slice a n cap, .slice c m cap', .int .i64 K] 34)
  have HT : Hid _ := hT
  clear hT
  cases h1 : formB n m C D K
  · have HR : Hid _ := formText_no h1
    go_enter Tryz.func83, Tryz.ntmps83
    go_wp2_with fail
    refine (iok_any _ _ _ _ _ _ _ C D _ (hC.below b0) (hD.below b0) hn hm).mono ?_
    rintro e w1 ⟨rfl, b1⟩
    rw [h1]
    go_wp2
    go_ret
    exact ⟨by rw [HR.out]; rfl, b0.trans (b1.mono b0.size)⟩
  · have HR : Hid _ := formText_yes h1
    obtain ⟨e1, e2, bC, bD, K1, K2⟩ := formB_elim h1
    have H1 : Hid _ := h1
    clear h1
    subst e1 e2
    go_enter Tryz.func83, Tryz.ntmps83
    go_wp2_with fail
    refine (iok_any _ _ _ _ _ _ _ C D _ (hC.below b0) (hD.below b0) hn hm).mono ?_
    rintro e w1 ⟨rfl, b1⟩
    rw [H1.out]
    have B1 := b0.trans (b1.mono b0.size)
    obtain ⟨c0, c1, c2⟩ := (q0.below b1).three
    go_wp2_with fail
    refine (text_any _ _ _ _ _ C D _ (hC.below B1) (hD.below B1) bC bD K1 K2 (fun w' h' => HT.out w' (B1.trans (h'.mono B1.size)))).mono ?_
    rintro e w2 ⟨rfl, b2⟩
    go_wp2
    go_ret
    exact ⟨by rw [HR.out]; rfl, B1.trans (b2.mono B1.size)⟩

end Go.Proofs.YtfkcfjkojfnfnaaGreatDoor.fnExactFrmText
namespace Go.Proofs.YtfkcfjkojfnfnaaGreatDoor
open Go.RowKit
set_option linter.unusedVariables false
set_option maxRecDepth 100000

/-- What a text is read as, of whatever length. -/
def rfF (l : List UInt8) : FR × Bool := if l.length ≤ 120 then rfI l else noF
theorem rfF_no {l : List UInt8} (h : goR l = none) : rfF l = noF := by
  rw [rfF]
  split
  · rw [rfI, h]
  · rfl
theorem rfF_yes {l : List UInt8} {C D : List Int} {K : Int} (hl : l.length ≤ 120) (h : goR l = some (C, D, K)) (h3 : C.length = 3) (h2 : D.length = 2) : rfF l = if formText 3 2 C D K = l then ((C, D, K), true) else noF := by
  rw [rfF, if_pos hl, rfI, h]
  show (if formText C.length D.length C D K = l then _ else _) = _
  rw [h3, h2]

set_option maxHeartbeats 6400000 in
theorem ifread_any (l : List UInt8) (w : World) (hl : l.length ≤ 1048576) (hA : ReadsN w) (hSp : Splits w) (hC : Cuts w) (hT : Lib.TabBelow Tryz.prog w.heap.size w "internal/strconv.uint64pow10" .u64 Lib.pow10Tab) :
    Calls Tryz.prog 63 #[.string ⟨l.toArray⟩] w fun e w' =>
      (∃ C D K B1 B2, rfF l = ((C, D, K), true) ∧ e = .returned (.tuple #[formV (some ⟨B1, 0, none⟩) 3 3 (some ⟨B2, 0, none⟩) 2 2 K, .bool true]) ∧ C.length = 3 ∧ D.length = 2 ∧ Below w.heap.size w w' ∧ w.heap.size ≤ B1 ∧ B1 ≠ B2 ∧ w.heap.size ≤ B2 ∧ Blk w' B1 C ∧ Blk w' B2 D) ∨
      (rfF l = noF ∧ e = .returned (.tuple #[formV none 0 0 none 0 0 0, .bool false]) ∧ Below w.heap.size w w') := by
  have HA : Hid _ := hA
  have HP : Hid _ := hSp
  have HC : Hid _ := hC
  have HT : Hid _ := hT
  clear hA hSp hT hC
  have bx := Cel.new w [.slice none 0 0, .slice none 0 0, .int .i64 0] 34
  have B0 := (Below.refl w.heap.size w).alloc (Nat.le_refl _) (.cells #[.slice none 0 0, .slice none 0 0, .int .i64 0] 34)
  by_cases h120 : l.length ≤ 120
  · have hi : ¬ (120 : Int) < (l.length : Int) := by omega
    obtain ⟨ws, last, hws, hd, hlst⟩ : ∃ ws last, wordsOf l = ws ++ [last] ∧ (wordsOf l).dropLast = ws ∧ (wordsOf l).getLastD [] = last := by
      have hne := words_ne l
      refine ⟨(wordsOf l).dropLast, (wordsOf l).getLastD [], ?_, rfl, rfl⟩
      rw [List.getLastD_eq_getLast?, List.getLast?_eq_some_getLast hne, Option.getD_some, List.dropLast_concat_getLast]
    have HG : Hid (goR l = goW ws last) := by show _ = _; rw [goR, hd, hlst]; rfl
    have HWS : Hid _ := hws
    obtain ⟨n, hn⟩ : ∃ n, ws.length = n := ⟨_, rfl⟩
    have HN : Hid _ := hn
    have hlen : (wordsOf l).length = n + 1 := by rw [hws, List.length_append, hn]; rfl
    have HLEN : Hid _ := hlen
    have hn121 : n ≤ 121 := by have := wordsF_len l []; rw [show wordsF [] l = wordsOf l from rfl, hlen] at this; omega
    have HS : Hid (∀ x ∈ ws ++ [last], x.length ≤ 120) := fun x hx => by
      have := wordsF_short l [] x (by rw [show wordsF [] l = wordsOf l from rfl, hws]; exact hx)
      simp at this
      omega
    clear hws hn hlen hd hlst
    go_enter Tryz.func63, Tryz.ntmps63
    go_wp2_with fail
    refine (HP.out _ B0 l h120).mono ?_
    rintro e w1 ⟨rfl, hg, hcs, b1⟩
    rw [HLEN.out]
    have bx1 := bx.below b1
    have B1 := B0.trans (b1.mono B0.size)
    rw [World.size_alloc] at hg hcs ⊢
    have lt1 := bx1.lt
    have HCS : Hid (∀ (i : Nat) (x : List UInt8), (ws ++ [last])[i]? = some x → w1.cell? ⟨w.heap.size + 1, i, none⟩ = some (.string ⟨x.toArray⟩)) := fun i x hx => hcs i x (by rw [HWS.out]; exact hx)
    clear hcs bx b1
    go_wp2_with fail
    refine (iform_any ws last _ n _ _ HN.out hn121 (Nat.le_refl _) hg HCS.out HS.out (ReadsN.below HA.out B1) (Cuts.below HC.out B1)).mono ?_
    rintro e w2 hcase
    rcases hcase with ⟨C, D, K, A1, A2, hgo, rfl, l1, l2, b2, o1, o12, o2, k1, k2⟩ | ⟨hgo, rfl, b2⟩
    · have B2 := B1.trans (b2.mono B1.size)
      have bx2 := bx1.below b2
      have HR : Hid _ := rfF_yes h120 (HG.out.trans hgo) l1 l2
      have HL : Hid (C.length = 3 ∧ D.length = 2) := ⟨l1, l2⟩
      have HO : Hid (w1.heap.size ≤ A1 ∧ A1 ≠ A2 ∧ w1.heap.size ≤ A2) := ⟨o1, o12, o2⟩
      have r0 := bx2.cell 0
      have r1 := bx2.cell 1
      have r2 := bx2.cell 2
      have lt2 := bx2.lt
      simp only [List.getElem?_cons_zero, List.getElem?_cons_succ] at r0 r1 r2
      clear hgo l1 l2 b2 o1 o12 o2 bx1
      go_wp2_with fail
      obtain ⟨W3, hW3⟩ : ∃ W3, W3 = w2.alloc (.cells #[.slice (some ⟨A1, 0, none⟩) 3 3, .slice (some ⟨A2, 0, none⟩) 2 2, .int .i64 K] 34) := ⟨_, rfl⟩
      have K1 : Blk W3 A1 C := by rw [hW3]; exact k1.below ((Below.refl _ _).alloc (Nat.le_refl _) _)
      have K2 : Blk W3 A2 D := by rw [hW3]; exact k2.below ((Below.refl _ _).alloc (Nat.le_refl _) _)
      have bn : Cel W3 w2.heap.size [.slice (some ⟨A1, 0, none⟩) 3 3, .slice (some ⟨A2, 0, none⟩) 2 2, .int .i64 K] 34 := by rw [hW3]; exact Cel.new w2 _ _
      have bx3 : Cel W3 w.heap.size [.slice none 0 0, .slice none 0 0, .int .i64 0] 34 := by rw [hW3]; exact bx2.below ((Below.refl _ _).alloc (Nat.le_refl _) _)
      have B3 : Below w.heap.size w W3 := by rw [hW3]; exact B2.alloc B2.size _
      rw [← hW3]
      clear hW3 bx2 r0 r1 r2 B2 k1 k2
      have i1 : Ints W3 (some ⟨A1, 0, none⟩) 3 C := K1.ints' HL.out.1
      have i2 : Ints W3 (some ⟨A2, 0, none⟩) 2 D := K2.ints' HL.out.2
      refine (fnExactFrmText.iftext_any _ _ _ _ _ _ K C D W3 i1 i2 (by omega) (by omega) (fun w' h' => HT.out w' (B3.trans (h'.mono B3.size)))).mono ?_
      rintro e w4 ⟨rfl, b4⟩
      obtain ⟨T, hTx⟩ : ∃ T, formText 3 2 C D K = T := ⟨_, rfl⟩
      rw [hTx]
      have HTX : Hid _ := hTx
      clear hTx i1 i2
      have K14 := K1.below b4
      have K24 := K2.below b4
      have B4 := B3.trans (b4.mono B3.size)
      have bx4 := bx3.below b4
      have bn4 := bn.below b4
      have r0 := bx4.cell 0
      have r1 := bx4.cell 1
      have r2 := bx4.cell 2
      have f0 := bx4.free 0
      have f1 := bx4.free 1
      have f2 := bx4.free 2
      have n0 := bn4.cell 0
      have n1 := bn4.cell 1
      have n2 := bn4.cell 2
      have lt4 := bx4.lt
      have lt5 := bn4.lt
      simp only [List.getElem?_cons_zero, List.getElem?_cons_succ] at r0 r1 r2 n0 n1 n2
      clear K1 K2 bn bx3 B3 bx4 bn4 b4
      by_cases he : T = l
      · have hE : (T == l) = true := by rw [he]; simp
        have hE2 : (T != l) = false := by rw [he]; simp
        have HR2 : Hid (rfF l = ((C, D, K), true)) := by show _ = _; rw [HR.out, if_pos (by rw [HTX.out]; exact he)]
        clear he HR
        go_wp2
        have hA1 : A1 ≠ w.heap.size := by have := HO.out; omega
        have hA2 : A2 ≠ w.heap.size := by have := HO.out; omega
        exact bodyPost_ret (v := .tuple #[formV (some ⟨A1, 0, none⟩) 3 3 (some ⟨A2, 0, none⟩) 2 2 K, .bool true]) (by simp [results, Tryz.results63, go_sem, r0, r1, r2]) rfl (Or.inl ⟨C, D, K, A1, A2, HR2.out, rfl, HL.out.1, HL.out.2, ((B4.setCell (Nat.le_refl _) _).setCell (Nat.le_refl _) _).setCell (Nat.le_refl _) _, by have := HO.out; have := B1.size; omega, HO.out.2.1, by have := HO.out; have := B1.size; omega, ((K14.setOther hA1 _ _).setOther hA1 _ _).setOther hA1 _ _, ((K24.setOther hA2 _ _).setOther hA2 _ _).setOther hA2 _ _⟩)
      · have hE : (T == l) = false := by simpa using he
        have hE2 : (T != l) = true := by simpa using he
        have HR2 : Hid (rfF l = noF) := by show _ = _; rw [HR.out, if_neg (by rw [HTX.out]; exact he)]
        clear he HR
        go_wp2
        exact bodyPost_ret (v := .tuple #[formV none 0 0 none 0 0 0, .bool false]) (by simp [results, Tryz.results63, go_sem, r0, r1, r2]) rfl (Or.inr ⟨HR2.out, rfl, ((B4.setCell (Nat.le_refl _) _).setCell (Nat.le_refl _) _).setCell (Nat.le_refl _) _⟩)
    · have HR : Hid _ := rfF_no (HG.out.trans hgo)
      have B2 := B1.trans (b2.mono B1.size)
      have bx2 := bx1.below b2
      have r0 := bx2.cell 0
      have r1 := bx2.cell 1
      have r2 := bx2.cell 2
      have f0 := bx2.free 0
      have f1 := bx2.free 1
      have f2 := bx2.free 2
      have lt2 := bx2.lt
      simp only [List.getElem?_cons_zero, List.getElem?_cons_succ] at r0 r1 r2
      have d := (((bx2.set 0 (.slice none 0 0)).set 1 (.slice none 0 0)).set 2 (.int .i64 0)).below ((Below.refl _ _).alloc (Nat.le_refl _) (.cells #[.slice none 0 0, .slice none 0 0, .int .i64 0] 34))
      have d0 := d.cell 0
      have d1 := d.cell 1
      have d2 := d.cell 2
      simp only [List.set_cons_zero, List.set_cons_succ, List.getElem?_cons_zero, List.getElem?_cons_succ] at d0 d1 d2
      have BE := (((B2.setCell (p := ⟨w.heap.size, 0, none⟩) (Nat.le_refl _) (.slice none 0 0)).setCell (p := ⟨w.heap.size, 1, none⟩) (Nat.le_refl _) (.slice none 0 0)).setCell (p := ⟨w.heap.size, 2, none⟩) (Nat.le_refl _) (.int .i64 0))
      have BF := BE.alloc BE.size (.cells #[.slice none 0 0, .slice none 0 0, .int .i64 0] 34)
      clear hgo b2 bx1 bx2 d BE
      go_wp2
      exact bodyPost_ret (v := .tuple #[formV none 0 0 none 0 0 0, .bool false]) (by simp [results, Tryz.results63, go_sem, d0, d1, d2]) rfl (Or.inr ⟨HR.out, rfl, BF⟩)
  · have hi : (120 : Int) < (l.length : Int) := by omega
    have r0 := bx.cell 0
    have r1 := bx.cell 1
    have r2 := bx.cell 2
    have f0 := bx.free 0
    have f1 := bx.free 1
    have f2 := bx.free 2
    simp only [List.getElem?_cons_zero, List.getElem?_cons_succ] at r0 r1 r2
    have HR : Hid (rfF l = noF) := by show _ = _; rw [rfF, if_neg h120]
    go_enter Tryz.func63, Tryz.ntmps63
    go_wp2
    exact bodyPost_ret (v := .tuple #[formV none 0 0 none 0 0 0, .bool false]) (by simp [results, Tryz.results63, go_sem]) rfl (Or.inr ⟨HR.out, rfl, B0⟩)

end Go.Proofs.YtfkcfjkojfnfnaaGreatDoor
namespace Go.Proofs.YtfkcfjkojfnfnaaGreatDoor
open Go.RowKit
set_option linter.unusedVariables false
set_option maxRecDepth 100000

theorem Touch.setNew {S : Nat → Prop} {w w' : World} (h : Touch S w w') {B i : Nat} (hB : w.heap.size ≤ B) (v : Value) : Touch S w (w'.setCell ⟨B, i, none⟩ v) :=
  ⟨h.os, h.tape, h.output, by rw [size_setCell]; exact h.size, fun k hk hn => by rw [Below.heap_setCell _ _ _ _ (show k ≠ B by omega)]; exact h.block k hk hn⟩
theorem part_form {l : List UInt8} {j : Nat} {x y : UInt8} (f : FR) (hl : l.length = j + 2) (hj : 0 < j) (hx : l[j]?.getD 0 = x) (hy : l[j + 1]?.getD 0 = y) : partL f l = if x = 120 ∨ x = 97 then (if x = 120 then (if inB (y.toNat - 48) 0 2 = true then (f.1.set (y.toNat - 48) (numL (l.take j)).1, f.2.1, f.2.2) else f) else (if inB (y.toNat - 48) 0 1 = true then (f.1, f.2.1.set (y.toNat - 48) (numL (l.take j)).1, f.2.2) else f)) else (f.1, f.2.1, (numL l).1) := by
  have h1 : byteAt l (l.length - 2) = x := by rw [hl, byteAt]; exact hx
  have h2 : byteAt l (l.length - 1) = y := by rw [hl, byteAt]; exact hy
  rw [partL, h1, h2, hl, show j + 2 - 2 = j by omega]
  by_cases h : x = 120 ∨ x = 97
  · rw [if_pos ⟨by omega, h⟩, if_pos h]
  · rw [if_neg (fun g => h g.2), if_neg h]
theorem part_short {l : List UInt8} (f : FR) (hl : l.length ≤ 2) : partL f l = (f.1, f.2.1, (numL l).1) := by
  rw [partL, if_neg (fun g => by have := g.1; omega)]

set_option maxHeartbeats 3200000 in
theorem spart_x (l : List UInt8) (j : Nat) (x y : UInt8) (hl : l.length = j + 2) (hj : 0 < j) (hX : l[j]?.getD 0 = x) (hY : l[j + 1]?.getD 0 = y) (hx : x = 120) (B1 B2 : Nat) (C D : List Int) (K : Int) (w : World) (hs : l.length ≤ 120) (k1 : Blk w B1 C) (k2 : Blk w B2 D) (l1 : C.length = 3) (l2 : D.length = 2) (n12 : B1 ≠ B2) :
    Calls Tryz.prog 65 #[formV (some ⟨B1, 0, none⟩) 3 3 (some ⟨B2, 0, none⟩) 2 2 K, .string ⟨l.toArray⟩] w fun e w' => ∃ C' D' K', partL (C, D, K) l = (C', D', K') ∧ e = .returned (formV (some ⟨B1, 0, none⟩) 3 3 (some ⟨B2, 0, none⟩) 2 2 K') ∧ C'.length = 3 ∧ D'.length = 2 ∧ Touch (fun x => x = B1 ∨ x = B2) w w' ∧ Blk w' B1 C' ∧ Blk w' B2 D' := by
  have HL : Hid (C.length = 3 ∧ D.length = 2) := ⟨l1, l2⟩
  have zz1 := k1.lt
  have zz2 := k2.lt
  have HLN : Hid _ := hl
  have HX : Hid _ := hX
  have HY : Hid _ := hY
  have hlt2 : j < l.length := by omega
  have hlt1 : j + 1 < l.length := by omega
  have hB2' := str_at (l := l) (k := j) hlt2
  have hB1' := str_at (l := l) (k := j + 1) hlt1
  rw [hX] at hB2'
  rw [hY] at hB1'
  clear hX hY
  have hex : (⟨l.toArray⟩ : ByteArray).extract 0 j = ⟨(l.take j).toArray⟩ := by
    apply ByteArray.ext
    rw [← Array.toList_inj]
    rw [Lib.extract_data]
    simp
  have h2 : (2 : Int) < (l.length : Int) := by omega
  subst hx
  have hx' : ((⟨l.toArray⟩ : ByteArray)[j]'(str_lt hlt2)).toNat = 120 := by rw [hB2']; rfl
  clear hB2'
  by_cases hk : 48 ≤ y.toNat ∧ y.toNat ≤ 50
  · obtain ⟨kk, hkk⟩ : ∃ kk, y.toNat = kk + 48 := ⟨y.toNat - 48, by omega⟩
    have hkx : kk ≤ 2 := by omega
    have hy' : ((⟨l.toArray⟩ : ByteArray)[j + 1]'(str_lt hlt1)).toNat = kk + 48 := by rw [hB1']; exact hkk
    have hin : inB (kk : Int) 0 2 = true := inB_iff.2 ⟨by omega, by omega⟩
    have PART : Hid (partL (C, D, K) l = (C.set kk (numL (l.take j)).1, D, K)) := by
      show _ = _
      rw [part_form (C, D, K) HLN.out hj HX.out HY.out, if_pos (Or.inl rfl), if_pos rfl, hkk, if_pos (by rw [inB_iff]; omega), Nat.add_sub_cancel]
    clear hkk hB1' hk
    go_enter Tryz.func65, Tryz.ntmps65
    go_upto_region 1 with fail
    obtain ⟨W0, hW0⟩ : ∃ W0, W0 = (w.alloc (.cells #[.slice (some ⟨B1, 0, none⟩) 3 3, .slice (some ⟨B2, 0, none⟩) 2 2, .int .i64 K] 34)).alloc (.cells #[.slice none 0 0, .slice none 0 0, .int .i64 0] 34) := ⟨_, rfl⟩
    have A1 : Below w.heap.size w (w.alloc (.cells #[.slice (some ⟨B1, 0, none⟩) 3 3, .slice (some ⟨B2, 0, none⟩) 2 2, .int .i64 K] 34)) := (Below.refl _ _).alloc (Nat.le_refl _) _
    have A2 : Below (w.alloc (.cells #[.slice (some ⟨B1, 0, none⟩) 3 3, .slice (some ⟨B2, 0, none⟩) 2 2, .int .i64 K] 34)).heap.size (w.alloc (.cells #[.slice (some ⟨B1, 0, none⟩) 3 3, .slice (some ⟨B2, 0, none⟩) 2 2, .int .i64 K] 34)) ((w.alloc (.cells #[.slice (some ⟨B1, 0, none⟩) 3 3, .slice (some ⟨B2, 0, none⟩) 2 2, .int .i64 K] 34)).alloc (.cells #[.slice none 0 0, .slice none 0 0, .int .i64 0] 34)) := (Below.refl _ _).alloc (Nat.le_refl _) _
    have xb : Cel W0 w.heap.size [.slice (some ⟨B1, 0, none⟩) 3 3, .slice (some ⟨B2, 0, none⟩) 2 2, .int .i64 K] 34 := by rw [hW0]; exact (Cel.new w _ _).below A2
    have xr : Cel W0 (w.heap.size + 1) [.slice none 0 0, .slice none 0 0, .int .i64 0] 34 := by
      have := Cel.new (w.alloc (.cells #[.slice (some ⟨B1, 0, none⟩) 3 3, .slice (some ⟨B2, 0, none⟩) 2 2, .int .i64 K] 34)) [.slice none 0 0, .slice none 0 0, .int .i64 0] 34
      rw [World.size_alloc] at this
      rw [hW0]; exact this
    have BW : Below w.heap.size w W0 := by rw [hW0]; exact A1.trans (A2.mono A1.size)
    have K1 := k1.below BW
    have K2 := k2.below BW
    have T0 : Touch (fun x => x = B1 ∨ x = B2) w W0 := Touch.of BW
    rw [← hW0]
    clear hW0 A1 A2 BW k1 k2 l1 l2
    have zb := xb.lt
    have zr := xr.lt
    go_wp2_with fail
    refine (num_any _ _ (by rw [List.length_take]; omega)).mono ?_
    rintro e w4 ⟨rfl, hw4⟩
    rw [hw4]
    clear hw4
    generalize (numL (l.take j)).1 = z at *
    generalize (numL (l.take j)).2 = z2 at *
    go_wp2_with fail
    refine (in_any _ _ _ _).mono ?_
    rintro e w5 ⟨rfl, hw5⟩
    rw [hw5, hin]
    clear hw5
    have hc := K1.cell kk (by rw [HL.out.1]; omega)
    have hf := K1.free kk
    have KS := K1.set kk z
    have KO := K2.setOther (show B2 ≠ B1 from n12.symm) kk (.int .i64 z)
    have xb1 := xb.setOther (show w.heap.size ≠ B1 by omega) kk (.int .i64 z)
    have xr1 := xr.setOther (show w.heap.size + 1 ≠ B1 by omega) kk (.int .i64 z)
    have T1 : Touch (fun x => x = B1 ∨ x = B2) w (W0.setCell ⟨B1, kk, none⟩ (.int .i64 z)) := Touch.setCell (S := fun x => x = B1 ∨ x = B2) T0 (Or.inl rfl) _
    have b0 := xb.cell 0
    simp only [List.getElem?_cons_zero] at b0
    have g0 := xb1.cell 0
    have g1 := xb1.cell 1
    have g2 := xb1.cell 2
    have d0 := xr1.cell 0
    have d1 := xr1.cell 1
    have d2 := xr1.cell 2
    have q0 := xr1.free 0
    have q1 := xr1.free 1
    have q2 := xr1.free 2
    simp only [List.getElem?_cons_zero, List.getElem?_cons_succ] at g0 g1 g2 d0 d1 d2
    clear K1 K2 xb xr xb1 xr1 T0
    go_wp2
    exact bodyPost_ret (v := formV (some ⟨B1, 0, none⟩) 3 3 (some ⟨B2, 0, none⟩) 2 2 K) (by simp [results, Tryz.results65, go_sem, d0, d1, d2]) rfl ⟨_, _, K, PART.out, rfl, by rw [List.length_set]; exact HL.out.1, HL.out.2, ((Touch.setNew (Touch.setNew (Touch.setNew T1 (B := w.heap.size + 1) (by omega) _) (B := w.heap.size + 1) (by omega) _) (B := w.heap.size + 1) (by omega) _)), ((KS.setOther (by omega) _ _).setOther (by omega) _ _).setOther (by omega) _ _, ((KO.setOther (by omega) _ _).setOther (by omega) _ _).setOther (by omega) _ _⟩
  · have hin : inB ((y.toNat : Int) - 48) 0 2 = false := inB_not.2 (by omega)
    have PART : Hid (partL (C, D, K) l = (C, D, K)) := by
      show _ = _
      rw [part_form (C, D, K) HLN.out hj HX.out HY.out, if_pos (Or.inl rfl), if_pos rfl, hin, if_neg (by decide)]
    have hyb : y.toNat ≤ 255 := by have := y.toNat_lt; omega
    clear hk
    go_enter Tryz.func65, Tryz.ntmps65
    go_upto_region 1 with fail
    obtain ⟨W0, hW0⟩ : ∃ W0, W0 = (w.alloc (.cells #[.slice (some ⟨B1, 0, none⟩) 3 3, .slice (some ⟨B2, 0, none⟩) 2 2, .int .i64 K] 34)).alloc (.cells #[.slice none 0 0, .slice none 0 0, .int .i64 0] 34) := ⟨_, rfl⟩
    have A1 : Below w.heap.size w (w.alloc (.cells #[.slice (some ⟨B1, 0, none⟩) 3 3, .slice (some ⟨B2, 0, none⟩) 2 2, .int .i64 K] 34)) := (Below.refl _ _).alloc (Nat.le_refl _) _
    have A2 : Below (w.alloc (.cells #[.slice (some ⟨B1, 0, none⟩) 3 3, .slice (some ⟨B2, 0, none⟩) 2 2, .int .i64 K] 34)).heap.size (w.alloc (.cells #[.slice (some ⟨B1, 0, none⟩) 3 3, .slice (some ⟨B2, 0, none⟩) 2 2, .int .i64 K] 34)) ((w.alloc (.cells #[.slice (some ⟨B1, 0, none⟩) 3 3, .slice (some ⟨B2, 0, none⟩) 2 2, .int .i64 K] 34)).alloc (.cells #[.slice none 0 0, .slice none 0 0, .int .i64 0] 34)) := (Below.refl _ _).alloc (Nat.le_refl _) _
    have xb : Cel W0 w.heap.size [.slice (some ⟨B1, 0, none⟩) 3 3, .slice (some ⟨B2, 0, none⟩) 2 2, .int .i64 K] 34 := by rw [hW0]; exact (Cel.new w _ _).below A2
    have xr : Cel W0 (w.heap.size + 1) [.slice none 0 0, .slice none 0 0, .int .i64 0] 34 := by
      have := Cel.new (w.alloc (.cells #[.slice (some ⟨B1, 0, none⟩) 3 3, .slice (some ⟨B2, 0, none⟩) 2 2, .int .i64 K] 34)) [.slice none 0 0, .slice none 0 0, .int .i64 0] 34
      rw [World.size_alloc] at this
      rw [hW0]; exact this
    have BW : Below w.heap.size w W0 := by rw [hW0]; exact A1.trans (A2.mono A1.size)
    have K1 := k1.below BW
    have K2 := k2.below BW
    have T0 : Touch (fun x => x = B1 ∨ x = B2) w W0 := Touch.of BW
    rw [← hW0]
    clear hW0 A1 A2 BW k1 k2 l1 l2
    have zb := xb.lt
    have zr := xr.lt
    go_wp2_with fail
    refine (num_any _ _ (by rw [List.length_take]; omega)).mono ?_
    rintro e w4 ⟨rfl, hw4⟩
    rw [hw4]
    clear hw4
    generalize (numL (l.take j)).1 = z at *
    generalize (numL (l.take j)).2 = z2 at *
    go_wp2_with fail
    refine (in_any _ _ _ _).mono ?_
    rintro e w5 ⟨rfl, hw5⟩
    rw [hw5, hin]
    clear hw5
    have g0 := xb.cell 0
    have g1 := xb.cell 1
    have g2 := xb.cell 2
    have d0 := xr.cell 0
    have d1 := xr.cell 1
    have d2 := xr.cell 2
    have q0 := xr.free 0
    have q1 := xr.free 1
    have q2 := xr.free 2
    simp only [List.getElem?_cons_zero, List.getElem?_cons_succ] at g0 g1 g2 d0 d1 d2
    clear xb xr
    go_wp2
    exact bodyPost_ret (v := formV (some ⟨B1, 0, none⟩) 3 3 (some ⟨B2, 0, none⟩) 2 2 K) (by simp [results, Tryz.results65, go_sem, d0, d1, d2]) rfl ⟨C, D, K, PART.out, rfl, HL.out.1, HL.out.2, ((Touch.setNew (Touch.setNew (Touch.setNew T0 (B := w.heap.size + 1) (by omega) _) (B := w.heap.size + 1) (by omega) _) (B := w.heap.size + 1) (by omega) _)), ((K1.setOther (by omega) _ _).setOther (by omega) _ _).setOther (by omega) _ _, ((K2.setOther (by omega) _ _).setOther (by omega) _ _).setOther (by omega) _ _⟩

set_option maxHeartbeats 3200000 in
theorem spart_a (l : List UInt8) (j : Nat) (x y : UInt8) (hl : l.length = j + 2) (hj : 0 < j) (hX : l[j]?.getD 0 = x) (hY : l[j + 1]?.getD 0 = y) (hx : x = 97) (B1 B2 : Nat) (C D : List Int) (K : Int) (w : World) (hs : l.length ≤ 120) (k1 : Blk w B1 C) (k2 : Blk w B2 D) (l1 : C.length = 3) (l2 : D.length = 2) (n12 : B1 ≠ B2) :
    Calls Tryz.prog 65 #[formV (some ⟨B1, 0, none⟩) 3 3 (some ⟨B2, 0, none⟩) 2 2 K, .string ⟨l.toArray⟩] w fun e w' => ∃ C' D' K', partL (C, D, K) l = (C', D', K') ∧ e = .returned (formV (some ⟨B1, 0, none⟩) 3 3 (some ⟨B2, 0, none⟩) 2 2 K') ∧ C'.length = 3 ∧ D'.length = 2 ∧ Touch (fun x => x = B1 ∨ x = B2) w w' ∧ Blk w' B1 C' ∧ Blk w' B2 D' := by
  have HL : Hid (C.length = 3 ∧ D.length = 2) := ⟨l1, l2⟩
  have zz1 := k1.lt
  have zz2 := k2.lt
  have HLN : Hid _ := hl
  have HX : Hid _ := hX
  have HY : Hid _ := hY
  have hlt2 : j < l.length := by omega
  have hlt1 : j + 1 < l.length := by omega
  have hB2' := str_at (l := l) (k := j) hlt2
  have hB1' := str_at (l := l) (k := j + 1) hlt1
  rw [hX] at hB2'
  rw [hY] at hB1'
  clear hX hY
  have hex : (⟨l.toArray⟩ : ByteArray).extract 0 j = ⟨(l.take j).toArray⟩ := by
    apply ByteArray.ext
    rw [← Array.toList_inj]
    rw [Lib.extract_data]
    simp
  have h2 : (2 : Int) < (l.length : Int) := by omega
  subst hx
  have hx' : ((⟨l.toArray⟩ : ByteArray)[j]'(str_lt hlt2)).toNat = 97 := by rw [hB2']; rfl
  clear hB2'
  by_cases hk : 48 ≤ y.toNat ∧ y.toNat ≤ 49
  · obtain ⟨kk, hkk⟩ : ∃ kk, y.toNat = kk + 48 := ⟨y.toNat - 48, by omega⟩
    have hkx : kk ≤ 1 := by omega
    have hy' : ((⟨l.toArray⟩ : ByteArray)[j + 1]'(str_lt hlt1)).toNat = kk + 48 := by rw [hB1']; exact hkk
    have hin : inB (kk : Int) 0 1 = true := inB_iff.2 ⟨by omega, by omega⟩
    have PART : Hid (partL (C, D, K) l = (C, D.set kk (numL (l.take j)).1, K)) := by
      show _ = _
      rw [part_form (C, D, K) HLN.out hj HX.out HY.out, if_pos (Or.inr rfl), if_neg (by decide), hkk, if_pos (by rw [inB_iff]; omega), Nat.add_sub_cancel]
    clear hkk hB1' hk
    go_enter Tryz.func65, Tryz.ntmps65
    go_upto_region 1 with fail
    obtain ⟨W0, hW0⟩ : ∃ W0, W0 = (w.alloc (.cells #[.slice (some ⟨B1, 0, none⟩) 3 3, .slice (some ⟨B2, 0, none⟩) 2 2, .int .i64 K] 34)).alloc (.cells #[.slice none 0 0, .slice none 0 0, .int .i64 0] 34) := ⟨_, rfl⟩
    have A1 : Below w.heap.size w (w.alloc (.cells #[.slice (some ⟨B1, 0, none⟩) 3 3, .slice (some ⟨B2, 0, none⟩) 2 2, .int .i64 K] 34)) := (Below.refl _ _).alloc (Nat.le_refl _) _
    have A2 : Below (w.alloc (.cells #[.slice (some ⟨B1, 0, none⟩) 3 3, .slice (some ⟨B2, 0, none⟩) 2 2, .int .i64 K] 34)).heap.size (w.alloc (.cells #[.slice (some ⟨B1, 0, none⟩) 3 3, .slice (some ⟨B2, 0, none⟩) 2 2, .int .i64 K] 34)) ((w.alloc (.cells #[.slice (some ⟨B1, 0, none⟩) 3 3, .slice (some ⟨B2, 0, none⟩) 2 2, .int .i64 K] 34)).alloc (.cells #[.slice none 0 0, .slice none 0 0, .int .i64 0] 34)) := (Below.refl _ _).alloc (Nat.le_refl _) _
    have xb : Cel W0 w.heap.size [.slice (some ⟨B1, 0, none⟩) 3 3, .slice (some ⟨B2, 0, none⟩) 2 2, .int .i64 K] 34 := by rw [hW0]; exact (Cel.new w _ _).below A2
    have xr : Cel W0 (w.heap.size + 1) [.slice none 0 0, .slice none 0 0, .int .i64 0] 34 := by
      have := Cel.new (w.alloc (.cells #[.slice (some ⟨B1, 0, none⟩) 3 3, .slice (some ⟨B2, 0, none⟩) 2 2, .int .i64 K] 34)) [.slice none 0 0, .slice none 0 0, .int .i64 0] 34
      rw [World.size_alloc] at this
      rw [hW0]; exact this
    have BW : Below w.heap.size w W0 := by rw [hW0]; exact A1.trans (A2.mono A1.size)
    have K1 := k1.below BW
    have K2 := k2.below BW
    have T0 : Touch (fun x => x = B1 ∨ x = B2) w W0 := Touch.of BW
    rw [← hW0]
    clear hW0 A1 A2 BW k1 k2 l1 l2
    have zb := xb.lt
    have zr := xr.lt
    go_wp2_with fail
    refine (num_any _ _ (by rw [List.length_take]; omega)).mono ?_
    rintro e w4 ⟨rfl, hw4⟩
    rw [hw4]
    clear hw4
    generalize (numL (l.take j)).1 = z at *
    generalize (numL (l.take j)).2 = z2 at *
    go_wp2_with fail
    refine (in_any _ _ _ _).mono ?_
    rintro e w5 ⟨rfl, hw5⟩
    rw [hw5, hin]
    clear hw5
    have hc := K2.cell kk (by rw [HL.out.2]; omega)
    have hf := K2.free kk
    have KS := K2.set kk z
    have KO := K1.setOther (show B1 ≠ B2 from n12) kk (.int .i64 z)
    have xb1 := xb.setOther (show w.heap.size ≠ B2 by omega) kk (.int .i64 z)
    have xr1 := xr.setOther (show w.heap.size + 1 ≠ B2 by omega) kk (.int .i64 z)
    have T1 : Touch (fun x => x = B1 ∨ x = B2) w (W0.setCell ⟨B2, kk, none⟩ (.int .i64 z)) := Touch.setCell (S := fun x => x = B1 ∨ x = B2) T0 (Or.inr rfl) _
    have b0 := xb.cell 1
    simp only [List.getElem?_cons_zero, List.getElem?_cons_succ] at b0
    have g0 := xb1.cell 0
    have g1 := xb1.cell 1
    have g2 := xb1.cell 2
    have d0 := xr1.cell 0
    have d1 := xr1.cell 1
    have d2 := xr1.cell 2
    have q0 := xr1.free 0
    have q1 := xr1.free 1
    have q2 := xr1.free 2
    simp only [List.getElem?_cons_zero, List.getElem?_cons_succ] at g0 g1 g2 d0 d1 d2
    clear K1 K2 xb xr xb1 xr1 T0
    go_wp2
    exact bodyPost_ret (v := formV (some ⟨B1, 0, none⟩) 3 3 (some ⟨B2, 0, none⟩) 2 2 K) (by simp [results, Tryz.results65, go_sem, d0, d1, d2]) rfl ⟨_, _, K, PART.out, rfl, HL.out.1, by rw [List.length_set]; exact HL.out.2, ((Touch.setNew (Touch.setNew (Touch.setNew T1 (B := w.heap.size + 1) (by omega) _) (B := w.heap.size + 1) (by omega) _) (B := w.heap.size + 1) (by omega) _)), ((KO.setOther (by omega) _ _).setOther (by omega) _ _).setOther (by omega) _ _, ((KS.setOther (by omega) _ _).setOther (by omega) _ _).setOther (by omega) _ _⟩
  · have hin : inB ((y.toNat : Int) - 48) 0 1 = false := inB_not.2 (by omega)
    have PART : Hid (partL (C, D, K) l = (C, D, K)) := by
      show _ = _
      rw [part_form (C, D, K) HLN.out hj HX.out HY.out, if_pos (Or.inr rfl), if_neg (by decide), hin, if_neg (by decide)]
    have hyb : y.toNat ≤ 255 := by have := y.toNat_lt; omega
    clear hk
    go_enter Tryz.func65, Tryz.ntmps65
    go_upto_region 1 with fail
    obtain ⟨W0, hW0⟩ : ∃ W0, W0 = (w.alloc (.cells #[.slice (some ⟨B1, 0, none⟩) 3 3, .slice (some ⟨B2, 0, none⟩) 2 2, .int .i64 K] 34)).alloc (.cells #[.slice none 0 0, .slice none 0 0, .int .i64 0] 34) := ⟨_, rfl⟩
    have A1 : Below w.heap.size w (w.alloc (.cells #[.slice (some ⟨B1, 0, none⟩) 3 3, .slice (some ⟨B2, 0, none⟩) 2 2, .int .i64 K] 34)) := (Below.refl _ _).alloc (Nat.le_refl _) _
    have A2 : Below (w.alloc (.cells #[.slice (some ⟨B1, 0, none⟩) 3 3, .slice (some ⟨B2, 0, none⟩) 2 2, .int .i64 K] 34)).heap.size (w.alloc (.cells #[.slice (some ⟨B1, 0, none⟩) 3 3, .slice (some ⟨B2, 0, none⟩) 2 2, .int .i64 K] 34)) ((w.alloc (.cells #[.slice (some ⟨B1, 0, none⟩) 3 3, .slice (some ⟨B2, 0, none⟩) 2 2, .int .i64 K] 34)).alloc (.cells #[.slice none 0 0, .slice none 0 0, .int .i64 0] 34)) := (Below.refl _ _).alloc (Nat.le_refl _) _
    have xb : Cel W0 w.heap.size [.slice (some ⟨B1, 0, none⟩) 3 3, .slice (some ⟨B2, 0, none⟩) 2 2, .int .i64 K] 34 := by rw [hW0]; exact (Cel.new w _ _).below A2
    have xr : Cel W0 (w.heap.size + 1) [.slice none 0 0, .slice none 0 0, .int .i64 0] 34 := by
      have := Cel.new (w.alloc (.cells #[.slice (some ⟨B1, 0, none⟩) 3 3, .slice (some ⟨B2, 0, none⟩) 2 2, .int .i64 K] 34)) [.slice none 0 0, .slice none 0 0, .int .i64 0] 34
      rw [World.size_alloc] at this
      rw [hW0]; exact this
    have BW : Below w.heap.size w W0 := by rw [hW0]; exact A1.trans (A2.mono A1.size)
    have K1 := k1.below BW
    have K2 := k2.below BW
    have T0 : Touch (fun x => x = B1 ∨ x = B2) w W0 := Touch.of BW
    rw [← hW0]
    clear hW0 A1 A2 BW k1 k2 l1 l2
    have zb := xb.lt
    have zr := xr.lt
    go_wp2_with fail
    refine (num_any _ _ (by rw [List.length_take]; omega)).mono ?_
    rintro e w4 ⟨rfl, hw4⟩
    rw [hw4]
    clear hw4
    generalize (numL (l.take j)).1 = z at *
    generalize (numL (l.take j)).2 = z2 at *
    go_wp2_with fail
    refine (in_any _ _ _ _).mono ?_
    rintro e w5 ⟨rfl, hw5⟩
    rw [hw5, hin]
    clear hw5
    have g0 := xb.cell 0
    have g1 := xb.cell 1
    have g2 := xb.cell 2
    have d0 := xr.cell 0
    have d1 := xr.cell 1
    have d2 := xr.cell 2
    have q0 := xr.free 0
    have q1 := xr.free 1
    have q2 := xr.free 2
    simp only [List.getElem?_cons_zero, List.getElem?_cons_succ] at g0 g1 g2 d0 d1 d2
    clear xb xr
    go_wp2
    exact bodyPost_ret (v := formV (some ⟨B1, 0, none⟩) 3 3 (some ⟨B2, 0, none⟩) 2 2 K) (by simp [results, Tryz.results65, go_sem, d0, d1, d2]) rfl ⟨C, D, K, PART.out, rfl, HL.out.1, HL.out.2, ((Touch.setNew (Touch.setNew (Touch.setNew T0 (B := w.heap.size + 1) (by omega) _) (B := w.heap.size + 1) (by omega) _) (B := w.heap.size + 1) (by omega) _)), ((K1.setOther (by omega) _ _).setOther (by omega) _ _).setOther (by omega) _ _, ((K2.setOther (by omega) _ _).setOther (by omega) _ _).setOther (by omega) _ _⟩

set_option maxHeartbeats 3200000 in
theorem spart_k (l : List UInt8) (j : Nat) (x y : UInt8) (hl : l.length = j + 2) (hj : 0 < j) (hX : l[j]?.getD 0 = x) (hY : l[j + 1]?.getD 0 = y) (hx : ¬ x = 120) (hx2 : ¬ x = 97) (B1 B2 : Nat) (C D : List Int) (K : Int) (w : World) (hs : l.length ≤ 120) (k1 : Blk w B1 C) (k2 : Blk w B2 D) (l1 : C.length = 3) (l2 : D.length = 2) (n12 : B1 ≠ B2) :
    Calls Tryz.prog 65 #[formV (some ⟨B1, 0, none⟩) 3 3 (some ⟨B2, 0, none⟩) 2 2 K, .string ⟨l.toArray⟩] w fun e w' => ∃ C' D' K', partL (C, D, K) l = (C', D', K') ∧ e = .returned (formV (some ⟨B1, 0, none⟩) 3 3 (some ⟨B2, 0, none⟩) 2 2 K') ∧ C'.length = 3 ∧ D'.length = 2 ∧ Touch (fun x => x = B1 ∨ x = B2) w w' ∧ Blk w' B1 C' ∧ Blk w' B2 D' := by
  have HL : Hid (C.length = 3 ∧ D.length = 2) := ⟨l1, l2⟩
  have zz1 := k1.lt
  have zz2 := k2.lt
  have HLN : Hid _ := hl
  have HX : Hid _ := hX
  have HY : Hid _ := hY
  have hlt2 : j < l.length := by omega
  have hlt1 : j + 1 < l.length := by omega
  have hB2' := str_at (l := l) (k := j) hlt2
  have hB1' := str_at (l := l) (k := j + 1) hlt1
  rw [hX] at hB2'
  rw [hY] at hB1'
  clear hX hY
  have hex : (⟨l.toArray⟩ : ByteArray).extract 0 j = ⟨(l.take j).toArray⟩ := by
    apply ByteArray.ext
    rw [← Array.toList_inj]
    rw [Lib.extract_data]
    simp
  have h2 : (2 : Int) < (l.length : Int) := by omega
  have hu : ((((⟨l.toArray⟩ : ByteArray)[j]'(str_lt hlt2)).toNat : Int) == 120) = false := by
    rw [hB2']
    have : ¬ x.toNat = 120 := fun e => hx (UInt8.toNat_inj.1 (by rw [e]; rfl))
    simp; omega
  have hv : ((((⟨l.toArray⟩ : ByteArray)[j]'(str_lt hlt2)).toNat : Int) == 97) = false := by
    rw [hB2']
    have : ¬ x.toNat = 97 := fun e => hx2 (UInt8.toNat_inj.1 (by rw [e]; rfl))
    simp; omega
  have PART : Hid (partL (C, D, K) l = (C, D, (numL l).1)) := by
    show _ = _
    rw [part_form (C, D, K) HLN.out hj HX.out HY.out, if_neg (by rintro (h | h); exact hx h; exact hx2 h)]
  clear hB2' hB1' hex hx hx2
  go_enter Tryz.func65, Tryz.ntmps65
  go_upto_region 1 with fail
  obtain ⟨W0, hW0⟩ : ∃ W0, W0 = (w.alloc (.cells #[.slice (some ⟨B1, 0, none⟩) 3 3, .slice (some ⟨B2, 0, none⟩) 2 2, .int .i64 K] 34)).alloc (.cells #[.slice none 0 0, .slice none 0 0, .int .i64 0] 34) := ⟨_, rfl⟩
  have A1 : Below w.heap.size w (w.alloc (.cells #[.slice (some ⟨B1, 0, none⟩) 3 3, .slice (some ⟨B2, 0, none⟩) 2 2, .int .i64 K] 34)) := (Below.refl _ _).alloc (Nat.le_refl _) _
  have A2 : Below (w.alloc (.cells #[.slice (some ⟨B1, 0, none⟩) 3 3, .slice (some ⟨B2, 0, none⟩) 2 2, .int .i64 K] 34)).heap.size (w.alloc (.cells #[.slice (some ⟨B1, 0, none⟩) 3 3, .slice (some ⟨B2, 0, none⟩) 2 2, .int .i64 K] 34)) ((w.alloc (.cells #[.slice (some ⟨B1, 0, none⟩) 3 3, .slice (some ⟨B2, 0, none⟩) 2 2, .int .i64 K] 34)).alloc (.cells #[.slice none 0 0, .slice none 0 0, .int .i64 0] 34)) := (Below.refl _ _).alloc (Nat.le_refl _) _
  have xb : Cel W0 w.heap.size [.slice (some ⟨B1, 0, none⟩) 3 3, .slice (some ⟨B2, 0, none⟩) 2 2, .int .i64 K] 34 := by rw [hW0]; exact (Cel.new w _ _).below A2
  have xr : Cel W0 (w.heap.size + 1) [.slice none 0 0, .slice none 0 0, .int .i64 0] 34 := by
    have := Cel.new (w.alloc (.cells #[.slice (some ⟨B1, 0, none⟩) 3 3, .slice (some ⟨B2, 0, none⟩) 2 2, .int .i64 K] 34)) [.slice none 0 0, .slice none 0 0, .int .i64 0] 34
    rw [World.size_alloc] at this
    rw [hW0]; exact this
  have BW : Below w.heap.size w W0 := by rw [hW0]; exact A1.trans (A2.mono A1.size)
  have K1 := k1.below BW
  have K2 := k2.below BW
  have T0 : Touch (fun x => x = B1 ∨ x = B2) w W0 := Touch.of BW
  rw [← hW0]
  clear hW0 A1 A2 BW k1 k2 l1 l2
  have zb := xb.lt
  have zr := xr.lt
  go_wp2_with fail
  refine (num_any _ _ hs).mono ?_
  rintro e w4 ⟨rfl, hw4⟩
  rw [hw4]
  clear hw4
  generalize (numL l).1 = z at *
  generalize (numL l).2 = z2 at *
  have xb1 := xb.set 2 (.int .i64 z)
  have xr1 := xr.setOther (show w.heap.size + 1 ≠ w.heap.size by omega) 2 (.int .i64 z)
  have KA := K1.setOther (show B1 ≠ w.heap.size by omega) 2 (.int .i64 z)
  have KB := K2.setOther (show B2 ≠ w.heap.size by omega) 2 (.int .i64 z)
  have T1 : Touch (fun x => x = B1 ∨ x = B2) w (W0.setCell ⟨w.heap.size, 2, none⟩ (.int .i64 z)) := Touch.setNew T0 (Nat.le_refl _) _
  have b2 := xb.cell 2
  have p2 := xb.free 2
  simp only [List.getElem?_cons_zero, List.getElem?_cons_succ] at b2
  have g0 := xb1.cell 0
  have g1 := xb1.cell 1
  have g2 := xb1.cell 2
  have d0 := xr1.cell 0
  have d1 := xr1.cell 1
  have d2 := xr1.cell 2
  have q0 := xr1.free 0
  have q1 := xr1.free 1
  have q2 := xr1.free 2
  simp only [List.set_cons_zero, List.set_cons_succ, List.getElem?_cons_zero, List.getElem?_cons_succ] at g0 g1 g2 d0 d1 d2
  clear K1 K2 xb xr xb1 xr1 T0
  go_wp2
  exact bodyPost_ret (v := formV (some ⟨B1, 0, none⟩) 3 3 (some ⟨B2, 0, none⟩) 2 2 z) (by simp [results, Tryz.results65, go_sem, d0, d1, d2]) rfl ⟨C, D, z, PART.out, rfl, HL.out.1, HL.out.2, ((Touch.setNew (Touch.setNew (Touch.setNew T1 (B := w.heap.size + 1) (by omega) _) (B := w.heap.size + 1) (by omega) _) (B := w.heap.size + 1) (by omega) _)), ((KA.setOther (by omega) _ _).setOther (by omega) _ _).setOther (by omega) _ _, ((KB.setOther (by omega) _ _).setOther (by omega) _ _).setOther (by omega) _ _⟩

set_option maxHeartbeats 3200000 in
theorem spart_s (l : List UInt8) (h2 : l.length ≤ 2) (B1 B2 : Nat) (C D : List Int) (K : Int) (w : World) (hs : l.length ≤ 120) (k1 : Blk w B1 C) (k2 : Blk w B2 D) (l1 : C.length = 3) (l2 : D.length = 2) (n12 : B1 ≠ B2) :
    Calls Tryz.prog 65 #[formV (some ⟨B1, 0, none⟩) 3 3 (some ⟨B2, 0, none⟩) 2 2 K, .string ⟨l.toArray⟩] w fun e w' => ∃ C' D' K', partL (C, D, K) l = (C', D', K') ∧ e = .returned (formV (some ⟨B1, 0, none⟩) 3 3 (some ⟨B2, 0, none⟩) 2 2 K') ∧ C'.length = 3 ∧ D'.length = 2 ∧ Touch (fun x => x = B1 ∨ x = B2) w w' ∧ Blk w' B1 C' ∧ Blk w' B2 D' := by
  have HL : Hid (C.length = 3 ∧ D.length = 2) := ⟨l1, l2⟩
  have zz1 := k1.lt
  have zz2 := k2.lt
  have h2' : ¬ (2 : Int) < (l.length : Int) := by omega
  have PART : Hid (partL (C, D, K) l = (C, D, (numL l).1)) := part_short (C, D, K) h2
  go_enter Tryz.func65, Tryz.ntmps65
  go_upto_region 1 with fail
  obtain ⟨W0, hW0⟩ : ∃ W0, W0 = (w.alloc (.cells #[.slice (some ⟨B1, 0, none⟩) 3 3, .slice (some ⟨B2, 0, none⟩) 2 2, .int .i64 K] 34)).alloc (.cells #[.slice none 0 0, .slice none 0 0, .int .i64 0] 34) := ⟨_, rfl⟩
  have A1 : Below w.heap.size w (w.alloc (.cells #[.slice (some ⟨B1, 0, none⟩) 3 3, .slice (some ⟨B2, 0, none⟩) 2 2, .int .i64 K] 34)) := (Below.refl _ _).alloc (Nat.le_refl _) _
  have A2 : Below (w.alloc (.cells #[.slice (some ⟨B1, 0, none⟩) 3 3, .slice (some ⟨B2, 0, none⟩) 2 2, .int .i64 K] 34)).heap.size (w.alloc (.cells #[.slice (some ⟨B1, 0, none⟩) 3 3, .slice (some ⟨B2, 0, none⟩) 2 2, .int .i64 K] 34)) ((w.alloc (.cells #[.slice (some ⟨B1, 0, none⟩) 3 3, .slice (some ⟨B2, 0, none⟩) 2 2, .int .i64 K] 34)).alloc (.cells #[.slice none 0 0, .slice none 0 0, .int .i64 0] 34)) := (Below.refl _ _).alloc (Nat.le_refl _) _
  have xb : Cel W0 w.heap.size [.slice (some ⟨B1, 0, none⟩) 3 3, .slice (some ⟨B2, 0, none⟩) 2 2, .int .i64 K] 34 := by rw [hW0]; exact (Cel.new w _ _).below A2
  have xr : Cel W0 (w.heap.size + 1) [.slice none 0 0, .slice none 0 0, .int .i64 0] 34 := by
    have := Cel.new (w.alloc (.cells #[.slice (some ⟨B1, 0, none⟩) 3 3, .slice (some ⟨B2, 0, none⟩) 2 2, .int .i64 K] 34)) [.slice none 0 0, .slice none 0 0, .int .i64 0] 34
    rw [World.size_alloc] at this
    rw [hW0]; exact this
  have BW : Below w.heap.size w W0 := by rw [hW0]; exact A1.trans (A2.mono A1.size)
  have K1 := k1.below BW
  have K2 := k2.below BW
  have T0 : Touch (fun x => x = B1 ∨ x = B2) w W0 := Touch.of BW
  rw [← hW0]
  clear hW0 A1 A2 BW k1 k2 l1 l2
  have zb := xb.lt
  have zr := xr.lt
  go_wp2_with fail
  refine (num_any _ _ hs).mono ?_
  rintro e w4 ⟨rfl, hw4⟩
  rw [hw4]
  clear hw4
  generalize (numL l).1 = z at *
  generalize (numL l).2 = z2 at *
  have xb1 := xb.set 2 (.int .i64 z)
  have xr1 := xr.setOther (show w.heap.size + 1 ≠ w.heap.size by omega) 2 (.int .i64 z)
  have KA := K1.setOther (show B1 ≠ w.heap.size by omega) 2 (.int .i64 z)
  have KB := K2.setOther (show B2 ≠ w.heap.size by omega) 2 (.int .i64 z)
  have T1 : Touch (fun x => x = B1 ∨ x = B2) w (W0.setCell ⟨w.heap.size, 2, none⟩ (.int .i64 z)) := Touch.setNew T0 (Nat.le_refl _) _
  have b2 := xb.cell 2
  have p2 := xb.free 2
  simp only [List.getElem?_cons_zero, List.getElem?_cons_succ] at b2
  have g0 := xb1.cell 0
  have g1 := xb1.cell 1
  have g2 := xb1.cell 2
  have d0 := xr1.cell 0
  have d1 := xr1.cell 1
  have d2 := xr1.cell 2
  have q0 := xr1.free 0
  have q1 := xr1.free 1
  have q2 := xr1.free 2
  simp only [List.set_cons_zero, List.set_cons_succ, List.getElem?_cons_zero, List.getElem?_cons_succ] at g0 g1 g2 d0 d1 d2
  clear K1 K2 xb xr xb1 xr1 T0
  go_wp2
  exact bodyPost_ret (v := formV (some ⟨B1, 0, none⟩) 3 3 (some ⟨B2, 0, none⟩) 2 2 z) (by simp [results, Tryz.results65, go_sem, d0, d1, d2]) rfl ⟨C, D, z, PART.out, rfl, HL.out.1, HL.out.2, ((Touch.setNew (Touch.setNew (Touch.setNew T1 (B := w.heap.size + 1) (by omega) _) (B := w.heap.size + 1) (by omega) _) (B := w.heap.size + 1) (by omega) _)), ((KA.setOther (by omega) _ _).setOther (by omega) _ _).setOther (by omega) _ _, ((KB.setOther (by omega) _ _).setOther (by omega) _ _).setOther (by omega) _ _⟩

theorem spart_any (l : List UInt8) (B1 B2 : Nat) (C D : List Int) (K : Int) (w : World) (hs : l.length ≤ 120) (k1 : Blk w B1 C) (k2 : Blk w B2 D) (l1 : C.length = 3) (l2 : D.length = 2) (n12 : B1 ≠ B2) :
    Calls Tryz.prog 65 #[formV (some ⟨B1, 0, none⟩) 3 3 (some ⟨B2, 0, none⟩) 2 2 K, .string ⟨l.toArray⟩] w fun e w' => ∃ C' D' K', partL (C, D, K) l = (C', D', K') ∧ e = .returned (formV (some ⟨B1, 0, none⟩) 3 3 (some ⟨B2, 0, none⟩) 2 2 K') ∧ C'.length = 3 ∧ D'.length = 2 ∧ Touch (fun x => x = B1 ∨ x = B2) w w' ∧ Blk w' B1 C' ∧ Blk w' B2 D' := by
  by_cases h2 : l.length ≤ 2
  · exact spart_s l h2 B1 B2 C D K w hs k1 k2 l1 l2 n12
  obtain ⟨j, hj⟩ : ∃ j, l.length = j + 2 := ⟨l.length - 2, by omega⟩
  by_cases hx : l[j]?.getD 0 = 120
  · exact spart_x l j _ _ hj (by omega) rfl rfl hx B1 B2 C D K w hs k1 k2 l1 l2 n12
  by_cases hx2 : l[j]?.getD 0 = 97
  · exact spart_a l j _ _ hj (by omega) rfl rfl hx2 B1 B2 C D K w hs k1 k2 l1 l2 n12
  exact spart_k l j _ _ hj (by omega) rfl rfl hx hx2 B1 B2 C D K w hs k1 k2 l1 l2 n12

end Go.Proofs.YtfkcfjkojfnfnaaGreatDoor
namespace Go.Proofs.YtfkcfjkojfnfnaaGreatDoor
open Go.RowKit Go.Deep
set_option linter.unusedVariables false
set_option maxRecDepth 100000

theorem code_at {x : List UInt8} {k : Nat} (h1 : 1 ≤ k) (h3 : k ≤ 3) (h : wordL k = x) : codeTo x 4 = k := by
  subst h
  have : k = 1 ∨ k = 2 ∨ k = 3 := by omega
  rcases this with rfl | rfl | rfl <;> decide
theorem code_none {x : List UInt8} (h : ∀ k : Nat, 1 ≤ k → k < 4 → wordL k ≠ x) : codeTo x 4 = 0 := by
  rw [codeTo, if_neg (h 3 (by omega) (by omega)), codeTo, if_neg (h 2 (by omega) (by omega)), codeTo, if_neg (h 1 (by omega) (by omega)), codeTo]

theorem JA.box {w w3 w4 : World} {v : Value} {xs : List Int} {r : Nat} (B3 : Below w.heap.size w w3) (j : JA w3 v xs w4) (hB : w.heap.size ≤ r) (hr : r < w3.heap.size) (i l : Nat) (x y : Value) : JA w v xs ((w4.setCell ⟨r, i, none⟩ x).setCell ⟨r, l, none⟩ y) := by
  refine ⟨((B3.trans (j.b.mono B3.size)).setCell hB _).setCell hB _, j.o.1, ?_⟩
  rcases j.o.2 with h2 | ⟨g, cap, cur, hv, hg, hh, q⟩
  · exact Or.inl h2
  · have := B3.size
    refine Or.inr ⟨g, cap, cur, hv, by omega, ?_, q⟩
    rw [Below.heap_setCell _ _ _ _ (show g ≠ r by omega), Below.heap_setCell _ _ _ _ (show g ≠ r by omega)]; exact hh

end Go.Proofs.YtfkcfjkojfnfnaaGreatDoor
namespace Go.Proofs.YtfkcfjkojfnfnaaGreatDoor
open Go.RowKit
set_option linter.unusedVariables false
set_option maxRecDepth 100000

/-- What a text is read as, of whatever length. -/
def rdF (l : List UInt8) : Int × List Int × Bool := if l.length ≤ 120 then rdI l else (0, [], false)
theorem rdF_no {l x0 : List UInt8} {ws : List (List UInt8)} (hw : wordsOf l = x0 :: ws) (h : codeTo x0 4 = 0 ∨ atoiS ws = none) : rdF l = (0, [], false) := by
  rw [rdF]
  split
  · rw [rdI, hw]
    show (match atoiS ws with | none => _ | some xs => _) = _
    rcases h with h | h
    · cases atoiS ws with
      | none => rfl
      | some xs =>
        show (if _ then _ else _) = _
        rw [if_neg]
        rintro ⟨h1, -⟩
        exact h1 h
    · rw [h]
  · rfl
theorem rdF_yes {l x0 : List UInt8} {ws : List (List UInt8)} {c : Int} {xs : List Int} {q : Nat} (hl : l.length ≤ 120) (hw : wordsOf l = x0 :: ws) (h0 : c ≠ 0) (hc : c = codeTo x0 4) (h : atoiS ws = some xs) (hq : xs.length = q) : rdF l = if resText c q xs = l then (c, xs, true) else (0, [], false) := by
  subst hq
  rw [rdF, if_pos hl, rdI, hw]
  show (match atoiS ws with | none => _ | some xs => _) = _
  rw [h]
  show (if codeTo x0 4 ≠ 0 ∧ resText (codeTo x0 4) xs.length xs = l then (codeTo x0 4, xs, true) else _) = _
  rw [← hc]
  by_cases e : resText c xs.length xs = l
  · rw [if_pos ⟨h0, e⟩, if_pos e]
  · rw [if_neg (fun h => e h.2), if_neg e]

theorem atoiS_len : ∀ {ws : List (List UInt8)} {xs : List Int}, atoiS ws = some xs → xs.length = ws.length
  | [], xs, h => by
    have : [] = xs := by simpa [atoiS] using h
    rw [← this]; rfl
  | x :: t, xs, h => by
    rw [atoiS] at h
    cases hx : Lib.atoiAll x with
    | ok z =>
      rw [hx] at h
      cases ht : atoiS t with
      | none => rw [ht] at h; cases h
      | some ys =>
        rw [ht] at h
        have : z :: ys = xs := by simpa using h
        rw [← this, List.length_cons, List.length_cons, atoiS_len ht]
    | «syntax» => rw [hx] at h; cases h
    | range => rw [hx] at h; cases h
theorem JA.ints' {w W : World} {a : Option Addr} {q qc : Nat} {xs : List Int} (j : JA w (.slice a q qc) xs W) (hq : xs.length = q) : Ints W a q xs := by
  subst hq
  obtain ⟨a', c', e, -, h, -⟩ := j.ints
  cases e
  exact h

end Go.Proofs.YtfkcfjkojfnfnaaGreatDoor
namespace Go.Proofs
open Go.Shelf
def Tryz.laysM146_ren : Go.Shelf.Ren := ⟨fun | 146 => 53 | 221 => 71 | 268 => 87 | 138 => 88 | 143 => 89 | 195 => 106 | 197 => 107 | 218 => 108 | 219 => 98 | 260 => 125 | 217 => 114 | 225 => 115 | 224 => 116 | 267 => 117 | 266 => 129 | 314 => 130 | n => n, fun | 9 => 9 | 31 => 53 | 3 => 3 | 4 => 4 | 0 => 0 | 105 => 166 | 21 => 21 | 5 => 5 | 46 => 175 | 119 => 195 | 139 => 198 | 138 => 197 | 146 => 190 | 51 => 180 | n => n, fun | 1 => 1 | 3 => 5 | 4 => 6 | n => n⟩
theorem Tryz.laysM146 : Go.Proofs.LaysM.n146 Tryz.prog Tryz.laysM146_ren := {
  mixed := by kernel_rfl
  f138 := Tryz.func88.trans (congrArg some (by kernel_rfl))
  f143 := Tryz.func89.trans (congrArg some (by kernel_rfl))
  f146 := Tryz.func53.trans (congrArg some (by kernel_rfl))
  f195 := Tryz.func106.trans (congrArg some (by kernel_rfl))
  f197 := Tryz.func107.trans (congrArg some (by kernel_rfl))
  f217 := Tryz.func114.trans (congrArg some (by kernel_rfl))
  f218 := Tryz.func108.trans (congrArg some (by kernel_rfl))
  f219 := Tryz.func98.trans (congrArg some (by kernel_rfl))
  f221 := Tryz.func71.trans (congrArg some (by kernel_rfl))
  f224 := Tryz.func116.trans (congrArg some (by kernel_rfl))
  f225 := Tryz.func115.trans (congrArg some (by kernel_rfl))
  f260 := Tryz.func125.trans (congrArg some (by kernel_rfl))
  f266 := Tryz.func129.trans (congrArg some (by kernel_rfl))
  f267 := Tryz.func117.trans (congrArg some (by kernel_rfl))
  f268 := Tryz.func87.trans (congrArg some (by kernel_rfl))
  f314 := Tryz.func130.trans (congrArg some (by kernel_rfl))
  t0 := Tryz.underlying0
  a0 := Tryz.isAgg0
  z0 := Tryz.sizeOf0
  v0 := Tryz.zeroValue0
  t3 := Tryz.underlying3
  a3 := Tryz.isAgg3
  z3 := Tryz.sizeOf3
  v3 := Tryz.zeroValue3
  t4 := Tryz.underlying4
  a4 := Tryz.isAgg4
  z4 := Tryz.sizeOf4
  v4 := Tryz.zeroValue4
  t5 := Tryz.underlying5
  a5 := Tryz.isAgg5
  z5 := Tryz.sizeOf5
  v5 := Tryz.zeroValue5
  t9 := Tryz.underlying9
  a9 := Tryz.isAgg9
  z9 := Tryz.sizeOf9
  v9 := Tryz.zeroValue9
  t21 := Tryz.underlying21
  a21 := Tryz.isAgg21
  z21 := Tryz.sizeOf21
  v21 := Tryz.zeroValue21
  t31 := Tryz.underlying53
  a31 := Tryz.isAgg53
  z31 := Tryz.sizeOf53
  v31 := Tryz.zeroValue53
  t46 := Tryz.underlying175
  a46 := Tryz.isAgg175
  z46 := Tryz.sizeOf175
  v46 := Tryz.zeroValue175
  t51 := Tryz.underlying180
  a51 := Tryz.isAgg180
  z51 := Tryz.sizeOf180
  v51 := Tryz.zeroValue180
  t105 := Tryz.underlying166
  a105 := Tryz.isAgg166
  z105 := Tryz.sizeOf166
  v105 := Tryz.zeroValue166
  t119 := Tryz.underlying195
  a119 := Tryz.isAgg195
  z119 := Tryz.sizeOf195
  t138 := Tryz.underlying197
  a138 := Tryz.isAgg197
  z138 := Tryz.sizeOf197
  v138 := Tryz.zeroValue197
  t139 := Tryz.underlying198
  a139 := Tryz.isAgg198
  z139 := Tryz.sizeOf198
  v139 := Tryz.zeroValue198
  t146 := Tryz.underlying190
  a146 := Tryz.isAgg190
  z146 := Tryz.sizeOf190
  v146 := Tryz.zeroValue190
  g1 := by kernel_rfl
  g3 := by kernel_rfl
  g4 := by kernel_rfl
  i0 := by kernel_rfl
  i3 := by kernel_rfl
  i4 := by kernel_rfl
  i5 := by kernel_rfl
  i9 := by kernel_rfl
  i21 := by kernel_rfl
  i31 := by kernel_rfl
  i46 := by kernel_rfl
  i51 := by kernel_rfl
  i105 := by kernel_rfl
  i138 := by kernel_rfl
  i139 := by kernel_rfl
  i146 := by kernel_rfl
  m1 := by kernel_rfl
  s1_3 := fun w h => Go.Proofs.cell_of_shapedOpen_int (zero := #[.int .i64 0]) (t := 3) h (of_decide_eq_true (by kernel_rfl)) (by kernel_rfl) rfl (by kernel_rfl) (by kernel_rfl) Tryz.underlying3
  m3 := by kernel_rfl
  m4 := by kernel_rfl }
def Tryz.laysC172_ren : Go.Shelf.Ren := ⟨fun | 172 => 72 | 244 => 90 | 245 => 91 | 247 => 109 | 279 => 110 | 280 => 111 | 281 => 112 | 282 => 113 | 287 => 126 | 316 => 127 | 171 => 48 | 205 => 128 | 321 => 134 | 322 => 135 | 243 => 68 | 246 => 84 | 283 => 102 | 284 => 103 | 285 => 104 | 286 => 105 | 129 => 121 | 317 => 120 | 318 => 122 | 319 => 123 | 320 => 124 | 337 => 132 | 338 => 133 | n => n, fun | 9 => 9 | 3 => 3 | 75 => 57 | 76 => 88 | 4 => 4 | 5 => 5 | 167 => 169 | 37 => 22 | 0 => 0 | 85 => 170 | 2 => 2 | 168 => 172 | 53 => 160 | 175 => 184 | 46 => 175 | 210 => 188 | 127 => 117 | 145 => 203 | 143 => 201 | 21 => 21 | 171 => 159 | 173 => 163 | 212 => 179 | 51 => 180 | 20 => 20 | 213 => 181 | 232 => 204 | 233 => 205 | 80 => 51 | n => n, fun | 15 => 3 | 16 => 4 | 17 => 2 | 18 => 7 | 19 => 8 | n => n⟩
theorem Tryz.laysC172 : Go.Proofs.LaysC.n172 Tryz.prog Tryz.laysC172_ren := {
  mixed := by kernel_rfl
  f129 := Tryz.func121.trans (congrArg some (by kernel_rfl))
  f171 := Tryz.func48.trans (congrArg some (by kernel_rfl))
  f172 := Tryz.func72.trans (congrArg some (by kernel_rfl))
  f205 := Tryz.func128.trans (congrArg some (by kernel_rfl))
  f243 := Tryz.func68.trans (congrArg some (by kernel_rfl))
  f244 := Tryz.func90.trans (congrArg some (by kernel_rfl))
  f245 := Tryz.func91.trans (congrArg some (by kernel_rfl))
  f246 := Tryz.func84.trans (congrArg some (by kernel_rfl))
  f247 := Tryz.func109.trans (congrArg some (by kernel_rfl))
  f279 := Tryz.func110.trans (congrArg some (by kernel_rfl))
  f280 := Tryz.func111.trans (congrArg some (by kernel_rfl))
  f281 := Tryz.func112.trans (congrArg some (by kernel_rfl))
  f282 := Tryz.func113.trans (congrArg some (by kernel_rfl))
  f283 := Tryz.func102.trans (congrArg some (by kernel_rfl))
  f284 := Tryz.func103.trans (congrArg some (by kernel_rfl))
  f285 := Tryz.func104.trans (congrArg some (by kernel_rfl))
  f286 := Tryz.func105.trans (congrArg some (by kernel_rfl))
  f287 := Tryz.func126.trans (congrArg some (by kernel_rfl))
  f316 := Tryz.func127.trans (congrArg some (by kernel_rfl))
  f317 := Tryz.func120.trans (congrArg some (by kernel_rfl))
  f318 := Tryz.func122.trans (congrArg some (by kernel_rfl))
  f319 := Tryz.func123.trans (congrArg some (by kernel_rfl))
  f320 := Tryz.func124.trans (congrArg some (by kernel_rfl))
  f321 := Tryz.func134.trans (congrArg some (by kernel_rfl))
  f322 := Tryz.func135.trans (congrArg some (by kernel_rfl))
  f337 := Tryz.func132.trans (congrArg some (by kernel_rfl))
  f338 := Tryz.func133.trans (congrArg some (by kernel_rfl))
  t0 := Tryz.underlying0
  a0 := Tryz.isAgg0
  z0 := Tryz.sizeOf0
  v0 := Tryz.zeroValue0
  t2 := Tryz.underlying2
  a2 := Tryz.isAgg2
  z2 := Tryz.sizeOf2
  v2 := Tryz.zeroValue2
  t3 := Tryz.underlying3
  a3 := Tryz.isAgg3
  z3 := Tryz.sizeOf3
  v3 := Tryz.zeroValue3
  t4 := Tryz.underlying4
  a4 := Tryz.isAgg4
  z4 := Tryz.sizeOf4
  v4 := Tryz.zeroValue4
  t5 := Tryz.underlying5
  a5 := Tryz.isAgg5
  z5 := Tryz.sizeOf5
  v5 := Tryz.zeroValue5
  t9 := Tryz.underlying9
  a9 := Tryz.isAgg9
  z9 := Tryz.sizeOf9
  v9 := Tryz.zeroValue9
  t20 := Tryz.underlying20
  a20 := Tryz.isAgg20
  z20 := Tryz.sizeOf20
  v20 := Tryz.zeroValue20
  t21 := Tryz.underlying21
  a21 := Tryz.isAgg21
  z21 := Tryz.sizeOf21
  v21 := Tryz.zeroValue21
  t37 := Tryz.underlying22
  a37 := Tryz.isAgg22
  z37 := Tryz.sizeOf22
  v37 := Tryz.zeroValue22
  t46 := Tryz.underlying175
  a46 := Tryz.isAgg175
  z46 := Tryz.sizeOf175
  v46 := Tryz.zeroValue175
  t51 := Tryz.underlying180
  a51 := Tryz.isAgg180
  z51 := Tryz.sizeOf180
  v51 := Tryz.zeroValue180
  t53 := Tryz.underlying160
  a53 := Tryz.isAgg160
  z53 := Tryz.sizeOf160
  v53 := Tryz.zeroValue160
  t75 := Tryz.underlying57
  a75 := Tryz.isAgg57
  z75 := Tryz.sizeOf57
  v75 := Tryz.zeroValue57
  t76 := Tryz.underlying88
  a76 := Tryz.isAgg88
  z76 := Tryz.sizeOf88
  v76 := Tryz.zeroValue88
  t85 := Tryz.underlying170
  a85 := Tryz.isAgg170
  z85 := Tryz.sizeOf170
  v85 := Tryz.zeroValue170
  t127 := Tryz.underlying117
  a127 := Tryz.isAgg117
  z127 := Tryz.sizeOf117
  v127 := Tryz.zeroValue117
  t143 := Tryz.underlying201
  a143 := Tryz.isAgg201
  z143 := Tryz.sizeOf201
  v143 := Tryz.zeroValue201
  t145 := Tryz.underlying203
  a145 := Tryz.isAgg203
  z145 := Tryz.sizeOf203
  v145 := Tryz.zeroValue203
  t167 := Tryz.underlying169
  a167 := Tryz.isAgg169
  z167 := Tryz.sizeOf169
  v167 := Tryz.zeroValue169
  t168 := Tryz.underlying172
  a168 := Tryz.isAgg172
  z168 := Tryz.sizeOf172
  v168 := Tryz.zeroValue172
  t171 := Tryz.underlying159
  a171 := Tryz.isAgg159
  z171 := Tryz.sizeOf159
  v171 := Tryz.zeroValue159
  t173 := Tryz.underlying163
  a173 := Tryz.isAgg163
  z173 := Tryz.sizeOf163
  v173 := Tryz.zeroValue163
  t175 := Tryz.underlying184
  a175 := Tryz.isAgg184
  z175 := Tryz.sizeOf184
  v175 := Tryz.zeroValue184
  t210 := Tryz.underlying188
  a210 := Tryz.isAgg188
  z210 := Tryz.sizeOf188
  v210 := Tryz.zeroValue188
  t212 := Tryz.underlying179
  a212 := Tryz.isAgg179
  z212 := Tryz.sizeOf179
  v212 := Tryz.zeroValue179
  t213 := Tryz.underlying181
  a213 := Tryz.isAgg181
  z213 := Tryz.sizeOf181
  t232 := Tryz.underlying204
  a232 := Tryz.isAgg204
  z232 := Tryz.sizeOf204
  v232 := Tryz.zeroValue204
  t233 := Tryz.underlying205
  a233 := Tryz.isAgg205
  z233 := Tryz.sizeOf205
  v233 := Tryz.zeroValue205
  g15 := by kernel_rfl
  g16 := by kernel_rfl
  g17 := by kernel_rfl
  g18 := by kernel_rfl
  g19 := by kernel_rfl
  t80 := Tryz.underlying51
  a80 := Tryz.isAgg51
  z80 := Tryz.sizeOf51
  v80 := Tryz.zeroValue51
  i0 := by kernel_rfl
  i2 := by kernel_rfl
  i3 := by kernel_rfl
  i4 := by kernel_rfl
  i5 := by kernel_rfl
  i9 := by kernel_rfl
  i20 := by kernel_rfl
  i21 := by kernel_rfl
  i37 := by kernel_rfl
  i46 := by kernel_rfl
  i51 := by kernel_rfl
  i53 := by kernel_rfl
  i75 := by kernel_rfl
  i76 := by kernel_rfl
  i80 := by kernel_rfl
  i85 := by kernel_rfl
  i127 := by kernel_rfl
  i143 := by kernel_rfl
  i145 := by kernel_rfl
  i167 := by kernel_rfl
  i168 := by kernel_rfl
  i171 := by kernel_rfl
  i173 := by kernel_rfl
  i175 := by kernel_rfl
  i210 := by kernel_rfl
  i212 := by kernel_rfl
  i232 := by kernel_rfl
  i233 := by kernel_rfl
  m15 := by kernel_rfl
  m16 := by kernel_rfl
  m17 := by kernel_rfl
  m18 := by kernel_rfl
  m19 := by kernel_rfl
  c0 := by kernel_rfl
  c2 := by kernel_rfl
  c3 := by kernel_rfl
  c4 := by kernel_rfl
  c5 := by kernel_rfl
  c9 := by kernel_rfl
  c20 := by kernel_rfl
  c21 := by kernel_rfl
  c37 := by kernel_rfl
  c46 := by kernel_rfl
  c51 := by kernel_rfl
  c53 := by kernel_rfl
  c75 := by kernel_rfl
  c76 := by kernel_rfl
  c80 := by kernel_rfl
  c85 := by kernel_rfl
  c127 := by kernel_rfl
  c143 := by kernel_rfl
  c145 := by kernel_rfl
  c167 := by kernel_rfl
  c168 := by kernel_rfl
  c171 := by kernel_rfl
  c173 := by kernel_rfl
  c175 := by kernel_rfl
  c210 := by kernel_rfl
  c212 := by kernel_rfl
  c213 := by kernel_rfl
  c232 := by kernel_rfl
  c233 := by kernel_rfl }
end Go.Proofs
namespace Go.Proofs.YtfkcfjkojfnfnaaGreatDoor
open Go.RowKit Go.Shelf
set_option linter.unusedVariables false
set_option maxRecDepth 100000

theorem splits_of (w : World) (m : Int) (hm : w.cell? ⟨Tryz.laysM146_ren.g 1, 0, none⟩ = some (.int .i64 m)) : Splits w := fun W b l hl => by
  have h1 : (1 : Nat) ≤ (⟨#[32]⟩ : ByteArray).size := by decide
  have hmW : W.cell? ⟨Tryz.laysM146_ren.g 1, 0, none⟩ = some (.int .i64 m) := by rw [b.cell (p := ⟨_, 0, none⟩) (block_lt hm)]; exact hm
  have hs : (⟨l.toArray⟩ : ByteArray).size < 4294967281 := by show l.toArray.size < _; rw [List.size_toArray]; omega
  refine (Any.strings_Split { Tryz.laysM146 with } Tryz.laysM146.i9 ⟨l.toArray⟩ ⟨#[32]⟩ m W hs hmW h1).mono ?_
  rintro e w' ⟨rfl, rfl⟩
  have hd := Lib.splitB_data ⟨#[32]⟩ 0 (Lib.countB ⟨l.toArray⟩ ⟨#[32]⟩) ⟨l.toArray⟩
  have hw : Lib.splitK [32] 0 (Lib.countB ⟨l.toArray⟩ ⟨#[32]⟩) l = wordsOf l := split_words _ _ (by
    have : Lib.countB ⟨l.toArray⟩ ⟨#[32]⟩ = l.count 32 := Lib.count_one 32 l
    rw [this]; exact Nat.le_refl _)
  have hd2 : (Lib.splitB ⟨#[32]⟩ 0 (Lib.countB ⟨l.toArray⟩ ⟨#[32]⟩) ⟨l.toArray⟩).map (·.data.toList) = wordsOf l := hd.trans hw
  have hlen : (wordsOf l).length = Lib.countB ⟨l.toArray⟩ ⟨#[32]⟩ + 1 := by rw [← hd2, List.length_map, Lib.splitB_all _ h1 0 _ _ rfl]
  refine ⟨by rw [hlen], by rw [World.size_alloc]; omega, fun i x hx => ?_, (Below.refl _ _).alloc (Nat.le_refl _) _⟩
  rw [← hd2, List.getElem?_map] at hx
  obtain ⟨y, hy, rfl⟩ := Option.map_eq_some_iff.1 hx
  have hc := (Cel.new W ((Lib.splitB ⟨#[32]⟩ 0 (Lib.countB ⟨l.toArray⟩ ⟨#[32]⟩) ⟨l.toArray⟩).map Value.string) (Tryz.laysM146_ren.t 9)).cell i
  rw [List.getElem?_map, hy] at hc
  exact hc
theorem reads_of (w : World) (tp tq : TypeId) (p q : Value) (hS : w.var? Tryz.prog "strconv.ErrSyntax" = some #[.iface tp p]) (hR : w.var? Tryz.prog "strconv.ErrRange" = some #[.iface tq q]) : ReadsN w := fun W b x hx => by
  have hS' := Joins.var_stays Tryz.laysC172.m15 hS b (Nat.le_refl _)
  have hR' := Joins.var_stays Tryz.laysC172.m16 hR b (Nat.le_refl _)
  have hs : (⟨x.toArray⟩ : ByteArray).size = x.length := by show x.toArray.size = _; rw [List.size_toArray]
  have hd : (⟨x.toArray⟩ : ByteArray).data.toList = x := by simp
  cases h : Lib.atoiAll x with
  | ok v =>
    refine (Any.strconv_Atoi_ok Tryz.laysC172 ⟨x.toArray⟩ (by omega) v (by rw [hd]; exact h) W).mono ?_
    rintro e w' ⟨rfl, hw⟩
    refine ⟨?_, Or.inl ⟨v, h, rfl⟩⟩
    rcases hw with rfl | ⟨t, rfl⟩
    · exact Below.refl _ _
    · exact Lib.bytesWorld_below _ _ _
  | «syntax» =>
    refine (Any.strconv_Atoi_syntax_var Tryz.laysC172 ⟨x.toArray⟩ (by omega) (by rw [hd]; exact h) tp p W hS').mono ?_
    rintro e w' ⟨N, rfl, -, -, hb⟩
    exact ⟨hb, Or.inr ⟨(fun v e => by rw [h] at e; cases e), 0, _, N, rfl⟩⟩
  | range =>
    refine (Any.strconv_Atoi_range_var Tryz.laysC172 ⟨x.toArray⟩ (by omega) (by rw [hd]; exact h) tq q W hR').mono ?_
    rintro e w' ⟨N, rfl, -, -, hb⟩
    exact ⟨hb, Or.inr ⟨(fun v e => by rw [h] at e; cases e), _, _, N, rfl⟩⟩

theorem swords_long (l : List UInt8) (w : World) (hl : 120 < l.length) :
    Calls Tryz.prog 30 #[.string ⟨l.toArray⟩] w fun e w' => e = .returned (.slice (some ⟨w.heap.size, 0, none⟩) 0 0) ∧ Below w.heap.size w w' := by
  have hi : (120 : Int) < (l.length : Int) := by omega
  have B0 := (Below.refl w.heap.size w).alloc (Nat.le_refl _) (.cells #[] 9)
  go_enter Tryz.func30, Tryz.ntmps30
  go_wp2
  go_ret
  exact ⟨rfl, B0⟩

end Go.Proofs.YtfkcfjkojfnfnaaGreatDoor
namespace Go.Proofs.YtfkcfjkojfnfnaaGreatDoor
open Go.RowKit
set_option linter.unusedVariables false
set_option maxRecDepth 100000

/-- The words that are read: none of a text that is too long. -/
def wsF (l : List UInt8) : List (List UInt8) := if l.length ≤ 120 then wordsOf l else []
def preW (l : List UInt8) : FR := (wsF l).foldl partL zeroR
theorem rfF_spec (l : List UInt8) : rfF l = if textF (preW l) ≠ [] ∧ textF (preW l) = l then (preW l, true) else noF := by
  by_cases h : l.length ≤ 120
  · rw [rfF, if_pos h, rf_same, rfS, show preF l = preW l by rw [preW, wsF, if_pos h]; rfl]
  · rw [rfF, if_neg h, if_neg]
    rintro ⟨-, h2⟩
    have e : textF (preW l) = [48] := by
      rw [preW, wsF, if_neg h]
      show formText 3 2 [0, 0, 0] [0, 0] 0 = _
      rw [formText_yes (by rfl), times3, times2, show Lib.itoa 0 = [48] from itoa_small (k := 0) (by omega)]
      rfl
    rw [e] at h2
    rw [← h2] at h
    exact h (by decide)
theorem wsF_len (l : List UInt8) : (wsF l).length ≤ 121 := by
  rw [wsF]
  split
  · have := wordsF_len l []
    rw [show wordsF [] l = wordsOf l from rfl] at this
    omega
  · simp
theorem wsF_short (l : List UInt8) : ∀ x ∈ wsF l, x.length ≤ 120 := by
  intro x hx
  rw [wsF] at hx
  split at hx
  · have := wordsF_short l [] x hx
    simp at this
    omega
  · cases hx
theorem swords_all (l : List UInt8) (w : World) :
    Calls Tryz.prog 30 #[.string ⟨l.toArray⟩] w fun e w' => ∃ g cw, e = .returned (.slice (some ⟨g, 0, none⟩) (wsF l).length cw) ∧ Below w.heap.size w w' ∧ ∀ (i : Nat) (x : List UInt8), (wsF l)[i]? = some x → g < w'.heap.size ∧ w'.cell? ⟨g, i, none⟩ = some (.string ⟨x.toArray⟩) := by
  by_cases h : l.length ≤ 120
  · refine (words_any l w h).mono ?_
    rintro e w' ⟨v, rfl, j⟩
    have hp : 0 < (wordsOf l).length := List.length_pos_iff.2 (words_ne l)
    have hw : wsF l = wordsOf l := by rw [wsF, if_pos h]
    obtain ⟨g, cw, rfl, -, hg, hcs⟩ := j.cells (k := (wordsOf l).length) (by rw [List.length_map]) hp
    refine ⟨g, cw, by rw [hw], j.b, fun i x hx => ⟨hg, ?_⟩⟩
    rw [hw] at hx
    have := hcs i ⟨x.toArray⟩ (by rw [List.getElem?_map, hx]; rfl)
    rwa [Nat.zero_add] at this
  · refine (swords_long l w (by omega)).mono ?_
    rintro e w' ⟨rfl, b⟩
    have hw : wsF l = [] := by rw [wsF, if_neg h]
    exact ⟨_, _, by rw [hw]; rfl, b, fun i x hx => by rw [hw] at hx; cases hx⟩

/-- What the reader holds. -/
structure GB (w : World) (R F B1 B2 : Nat) (p : FR) (W : World) : Prop where
  b : Below w.heap.size w W
  r : Cel W R [.slice none 0 0, .slice none 0 0, .int .i64 0] 34
  f : Cel W F [.slice (some ⟨B1, 0, none⟩) 3 3, .slice (some ⟨B2, 0, none⟩) 2 2, .int .i64 p.2.2] 34
  k1 : Blk W B1 p.1
  k2 : Blk W B2 p.2.1
  l1 : p.1.length = 3
  l2 : p.2.1.length = 2
  h1 : w.heap.size ≤ B1
  h2 : w.heap.size ≤ B2
  h3 : w.heap.size ≤ F
  n12 : B1 ≠ B2
  n1 : R ≠ B1 ∧ R ≠ B2
  n2 : F ≠ B1 ∧ F ≠ B2
  n3 : R ≠ F
theorem GB.below {w W W' : World} {R F B1 B2 : Nat} {f : FR} (s : GB w R F B1 B2 f W) (h : Below W.heap.size W W') : GB w R F B1 B2 f W' :=
  ⟨s.b.trans (h.mono s.b.size), s.r.below h, s.f.below h, s.k1.below h, s.k2.below h, s.l1, s.l2, s.h1, s.h2, s.h3, s.n12, s.n1, s.n2, s.n3⟩
theorem GB.part {w W W' : World} {R F B1 B2 : Nat} {f : FR} {C' D' : List Int} (K' : Int) (s : GB w R F B1 B2 f W) (t : Touch (fun x => x = B1 ∨ x = B2) W W') (k1 : Blk W' B1 C') (k2 : Blk W' B2 D') (l1 : C'.length = 3) (l2 : D'.length = 2) :
    GB w R F B1 B2 (C', D', K') (((W'.setCell ⟨F, 0, none⟩ (.slice (some ⟨B1, 0, none⟩) 3 3)).setCell ⟨F, 1, none⟩ (.slice (some ⟨B2, 0, none⟩) 2 2)).setCell ⟨F, 2, none⟩ (.int .i64 K')) := by
  have b' := s.b.trans (t.below s.b.size (fun k hk => by rcases hk with rfl | rfl; exact s.h1; exact s.h2))
  have r' := s.r.touch t (fun hk => by rcases hk with h | h; exact s.n1.1 h; exact s.n1.2 h)
  have f' := s.f.touch t (fun hk => by rcases hk with h | h; exact s.n2.1 h; exact s.n2.2 h)
  exact ⟨((b'.setCell s.h3 _).setCell s.h3 _).setCell s.h3 _, ((r'.setOther s.n3 _ _).setOther s.n3 _ _).setOther s.n3 _ _, ((f'.set 0 _).set 1 _).set 2 _, ((k1.setOther s.n2.1.symm _ _).setOther s.n2.1.symm _ _).setOther s.n2.1.symm _ _, ((k2.setOther s.n2.2.symm _ _).setOther s.n2.2.symm _ _).setOther s.n2.2.symm _ _, l1, l2, s.h1, s.h2, s.h3, s.n12, s.n1, s.n2, s.n3⟩
theorem touch_drew {S : Nat → Prop} {w w' : World} (h : Touch S w.drew w') : Touch S w w' := ⟨h.os, h.tape, h.output, h.size, h.block⟩

set_option maxHeartbeats 6400000 in
theorem sfread_any (l : List UInt8) (w : World) :
    Calls Tryz.prog 40 #[.string ⟨l.toArray⟩] w fun e w' =>
      (∃ C D K B1 B2, rfF l = ((C, D, K), true) ∧ e = .returned (.tuple #[formV (some ⟨B1, 0, none⟩) 3 3 (some ⟨B2, 0, none⟩) 2 2 K, .bool true]) ∧ C.length = 3 ∧ D.length = 2 ∧ Below w.heap.size w w' ∧ Blk w' B1 C ∧ Blk w' B2 D) ∨
      (rfF l = noF ∧ e = .returned (.tuple #[formV none 0 0 none 0 0 0, .bool false]) ∧ Below w.heap.size w w') := by
  have HF : Hid _ := rfF_spec l
  obtain ⟨ws, hws⟩ : ∃ ws, wsF l = ws := ⟨_, rfl⟩
  have HWS : Hid _ := hws
  obtain ⟨n, hn⟩ : ∃ n, ws.length = n := ⟨_, rfl⟩
  have HN : Hid _ := hn
  have hn121 : n ≤ 121 := by rw [← hn, ← hws]; exact wsF_len l
  have HS : Hid (∀ x ∈ ws, x.length ≤ 120) := by rw [← hws]; exact wsF_short l
  clear hws hn
  have bx := Cel.new w [.slice none 0 0, .slice none 0 0, .int .i64 0] 34
  have B0 := (Below.refl w.heap.size w).alloc (Nat.le_refl _) (.cells #[.slice none 0 0, .slice none 0 0, .int .i64 0] 34)
  go_enter Tryz.func40, Tryz.ntmps40
  go_wp2_with fail
  refine (swords_all l _).mono ?_
  rintro e w1 ⟨g, cw, rfl, b1, hcs⟩
  rw [HWS.out] at hcs ⊢
  rw [HN.out]
  have bx1 := bx.below b1
  have B1 := B0.trans (b1.mono B0.size)
  have lt1 := bx1.lt
  have HCS : Hid _ := hcs
  clear hcs bx b1 B0
  go_wp2_with fail
  refine (szero_any _).mono ?_
  rintro e w2 ⟨A1, A2, rfl, b2, h1, h12, h2, k1, k2⟩
  have bx2 := bx1.below b2
  have s0 : GB w1 w.heap.size w2.heap.size A1 A2 zeroR (w2.alloc (.cells #[.slice (some ⟨A1, 0, none⟩) 3 3, .slice (some ⟨A2, 0, none⟩) 2 2, .int .i64 0] 34)) := by
    have z1 := k1.lt
    have z2 := k2.lt
    have z4 := b2.size
    exact ⟨b2.alloc b2.size _, bx2.below ((Below.refl _ _).alloc (Nat.le_refl _) _), Cel.new w2 _ _, k1.below ((Below.refl _ _).alloc (Nat.le_refl _) _), k2.below ((Below.refl _ _).alloc (Nat.le_refl _) _), rfl, rfl, h1, h2, z4, h12, ⟨by omega, by omega⟩, ⟨by omega, by omega⟩, by omega⟩
  have HC2 : Hid (∀ W, Below w1.heap.size w1 W → ∀ (i : Nat) (x : List UInt8), ws[i]? = some x → W.cell? ⟨g, i, none⟩ = some (.string ⟨x.toArray⟩)) := fun W hW i x hx => by
    obtain ⟨q1, q2⟩ := HCS.out i x hx
    rw [hW.cell (p := ⟨g, i, none⟩) q1]; exact q2
  clear bx1 bx2 b2 h1 h2 h12 k1 k2 HCS
  go_wp2_with fail
  go_loopw [6] (fun i wr => ∃ (k : Nat) (f : FR), k ≤ n ∧ i = .int .i64 k ∧ f = (ws.take k).foldl partL zeroR ∧ GB w1 w.heap.size w2.heap.size A1 A2 f wr) (fun i _ => n - (intOf i).toNat)
  case atStart => exact ⟨0, _, Nat.zero_le _, rfl, rfl, s0⟩
  case round =>
    clear s0
    obtain ⟨k, ⟨C, D, K⟩, hk, rfl, hf, sb⟩ := hrel
    have HFD : Hid _ := hf
    clear hf
    have hsz := sb.b.size
    have f0 := sb.f.cell 0
    have f1 := sb.f.cell 1
    have f2 := sb.f.cell 2
    simp only [List.getElem?_cons_zero, List.getElem?_cons_succ] at f0 f1 f2
    by_cases hlt : k < n
    · obtain ⟨x, hx⟩ : ∃ x, ws[k]? = some x := ⟨_, List.getElem?_eq_getElem (by rw [HN.out]; exact hlt)⟩
      have hck := HC2.out wr sb.b k x hx
      have hxl : x.length ≤ 120 := HS.out x (List.mem_of_getElem? hx)
      have HST : Hid ((ws.take (k + 1)).foldl partL zeroR = partL (C, D, K) x) := by
        show _ = _
        have hl' := (List.getElem?_eq_some_iff.1 hx).1
        have e : ws.take (k + 1) = ws.take k ++ [x] := by
          rw [List.take_succ_eq_append_getElem hl', (List.getElem?_eq_some_iff.1 hx).2]
        rw [e, List.foldl_append, ← HFD.out]
        rfl
      clear hx
      go_wp2_with fail
      go_region_with (first | (go_at_call 65; refine (spart_any x A1 A2 C D K _ hxl (by exact sb.k1.below (Below.refl _ _).drew) (by exact sb.k2.below (Below.refl _ _).drew) sb.l1 sb.l2 sb.n12).mono ?_; rintro ee w3 ⟨C', D', K', hp, rfl, l1', l2', t3, k13, k23⟩; have t3' := touch_drew t3; have s3 := sb.part K' t3' k13 k23 l1' l2'; have fx := sb.f.touch t3' (fun hk => by rcases hk with h | h; exact sb.n2.1 h; exact sb.n2.2 h); have y0 := fx.cell 0; have y1 := fx.cell 1; have y2 := fx.cell 2; have u0 := fx.free 0; have u1 := fx.free 1; have u2 := fx.free 2; simp only [List.getElem?_cons_zero, List.getElem?_cons_succ] at y0 y1 y2; have HPP : Hid _ := hp; clear hp t3 t3' k13 k23 fx))
      all_goals
        go_wp2
        go_roundw
        case rel => exact ⟨k + 1, (C', D', K'), by omega, by go_num, by rw [HST.out, HPP.out], s3⟩
        case measure => simp [intOf]; omega
    · obtain rfl : k = n := by omega
      have HPW : Hid (preW l = (C, D, K)) := by
        show _ = _
        rw [HFD.out, List.take_of_length_le (by rw [HN.out]; exact Nat.le_refl _), preW, HWS.out]
      have HTF : Hid (textF (C, D, K) = formText 3 2 C D K) := by
        show formText C.length D.length C D K = _
        rw [sb.l1, sb.l2]
      obtain ⟨T, hT⟩ : ∃ T, formText 3 2 C D K = T := ⟨_, rfl⟩
      have HT : Hid _ := hT
      have HR : Hid (rfF l = if T ≠ [] ∧ T = l then ((C, D, K), true) else noF) := by
        show _ = _
        rw [HF.out, HPW.out, HTF.out, hT]
      have HL : Hid (C.length = 3 ∧ D.length = 2) := ⟨sb.l1, sb.l2⟩
      clear hT HF HPW HTF HFD
      have i1 : Ints wr (some ⟨A1, 0, none⟩) 3 C := sb.k1.ints' HL.out.1
      have i2 : Ints wr (some ⟨A2, 0, none⟩) 2 D := sb.k2.ints' HL.out.2
      go_wp2_with fail
      refine (sftext_any _ _ _ _ _ _ K C D _ i1 i2 (by omega) (by omega)).mono ?_
      rintro e w6 ⟨rfl, b6⟩
      rw [HT.out]
      have s6 := sb.below b6
      clear sb b6 i1 i2 f0 f1 f2
      cases T with
      | nil =>
        have HR2 : Hid (rfF l = noF) := by show _ = _; rw [HR.out, if_neg (fun h => h.1 rfl)]
        have r0 := s6.r.cell 0
        have r1 := s6.r.cell 1
        have r2 := s6.r.cell 2
        have q0 := s6.r.free 0
        have q1 := s6.r.free 1
        have q2 := s6.r.free 2
        have ltR := s6.r.lt
        simp only [List.getElem?_cons_zero, List.getElem?_cons_succ] at r0 r1 r2
        have BE := B1.trans (s6.b.mono B1.size)
        clear s6 HR
        go_wp2
        exact bodyPost_ret (v := .tuple #[formV none 0 0 none 0 0 0, .bool false]) (by simp [results, Tryz.results40, go_sem, r0, r1, r2]) rfl (Or.inr ⟨HR2.out, rfl, ((BE.setCell (Nat.le_refl _) _).setCell (Nat.le_refl _) _).setCell (Nat.le_refl _) _⟩)
      | cons tb tt =>
        have i1 : Ints w6 (some ⟨A1, 0, none⟩) 3 C := s6.k1.ints' HL.out.1
        have i2 : Ints w6 (some ⟨A2, 0, none⟩) 2 D := s6.k2.ints' HL.out.2
        have f0 := s6.f.cell 0
        have f1 := s6.f.cell 1
        have f2 := s6.f.cell 2
        simp only [List.getElem?_cons_zero, List.getElem?_cons_succ] at f0 f1 f2
        go_wp2_with fail
        refine (sftext_any _ _ _ _ _ _ K C D _ i1 i2 (by omega) (by omega)).mono ?_
        rintro e w7 ⟨rfl, b7⟩
        rw [HT.out]
        have s7 := s6.below b7
        clear s6 b7 i1 i2 f0 f1 f2
        obtain ⟨TT, hTT⟩ : ∃ TT, TT = tb :: tt := ⟨_, rfl⟩
        rw [← hTT]
        have HTT : Hid _ := hTT
        clear hTT
        have f0 := s7.f.cell 0
        have f1 := s7.f.cell 1
        have f2 := s7.f.cell 2
        have r0 := s7.r.cell 0
        have r1 := s7.r.cell 1
        have r2 := s7.r.cell 2
        have q0 := s7.r.free 0
        have q1 := s7.r.free 1
        have q2 := s7.r.free 2
        have ltR := s7.r.lt
        have ltF := s7.f.lt
        have nRF := s7.n3
        simp only [List.getElem?_cons_zero, List.getElem?_cons_succ] at r0 r1 r2 f0 f1 f2
        have BE := B1.trans (s7.b.mono B1.size)
        have K1 := s7.k1
        have K2 := s7.k2
        have m1 := s7.n1.1
        have m2 := s7.n1.2
        clear s7
        by_cases he : TT = l
        · have hE : (TT == l) = true := by rw [he]; simp
          have hE2 : (TT != l) = false := by rw [he]; simp
          have HR2 : Hid (rfF l = ((C, D, K), true)) := by show _ = _; rw [HR.out, if_pos ⟨by simp, by rw [← HTT.out]; exact he⟩]
          clear he HR
          go_wp2
          exact bodyPost_ret (v := .tuple #[formV (some ⟨A1, 0, none⟩) 3 3 (some ⟨A2, 0, none⟩) 2 2 K, .bool true]) (by simp [results, Tryz.results40, go_sem, r0, r1, r2]) rfl (Or.inl ⟨C, D, K, A1, A2, HR2.out, rfl, HL.out.1, HL.out.2, ((BE.setCell (Nat.le_refl _) _).setCell (Nat.le_refl _) _).setCell (Nat.le_refl _) _, ((K1.setOther m1.symm _ _).setOther m1.symm _ _).setOther m1.symm _ _, ((K2.setOther m2.symm _ _).setOther m2.symm _ _).setOther m2.symm _ _⟩)
        · have hE : (TT == l) = false := by simpa using he
          have hE2 : (TT != l) = true := by simpa using he
          have HR2 : Hid (rfF l = noF) := by show _ = _; rw [HR.out, if_neg (fun h => he (HTT.out.trans h.2))]
          clear he HR
          go_wp2
          exact bodyPost_ret (v := .tuple #[formV none 0 0 none 0 0 0, .bool false]) (by simp [results, Tryz.results40, go_sem, r0, r1, r2]) rfl (Or.inr ⟨HR2.out, rfl, ((BE.setCell (Nat.le_refl _) _).setCell (Nat.le_refl _) _).setCell (Nat.le_refl _) _⟩)

end Go.Proofs.YtfkcfjkojfnfnaaGreatDoor
namespace Go.Proofs.YtfkcfjkojfnfnaaGreatDoor
open Go.RowKit
set_option linter.unusedVariables false

/-- A line that is read: kind, pot, skip, form. -/
abbrev LR := Int × Int × Int × FR
def testW : List UInt8 := [116, 101, 115, 116]
def addW : List UInt8 := [97, 100, 100]
def printW : List UInt8 := [112, 114, 105, 110, 116]
def stopT : List UInt8 := [115, 116, 111, 112]
def actText (L : LR) : List UInt8 :=
  if lineB L.1 L.2.1 L.2.2.1 L.2.2.2.1.length L.2.2.2.2.1.length L.2.2.2.1 L.2.2.2.2.1 L.2.2.2.2.2 = true then
    (if L.1 = 1 then testW ++ 32 :: (Lib.itoa L.2.2.1 ++ 32 :: textF L.2.2.2)
    else if L.1 = 2 then addW ++ 32 :: (Lib.itoa L.2.1 ++ 32 :: textF L.2.2.2)
    else if L.1 = 3 then printW ++ 32 :: textF L.2.2.2
    else stopT)
  else []
def stopR : LR := (4, 0, 0, ([], [], 0))
def noA : LR × Bool := ((0, 0, 0, ([], [], 0)), false)
/-- What stands behind n blanks. -/
def restL : Nat → List UInt8 → List UInt8
  | _, [] => []
  | n, b :: t => if b = 32 then (if n = 1 then t else restL (n - 1) t) else restL n t
def atW (ws : List (List UInt8)) (k : Nat) : Int :=
  match ws[k]? with
  | none => -1
  | some x => if (numL x).2 = true then (numL x).1 else -1
def lineS (l : List UInt8) : LR :=
  match wsF l with
  | [] => stopR
  | x :: t => if x = testW then (1, 0, atW (x :: t) 1, (rfF (restL 2 l)).1)
    else if x = addW then (2, atW (x :: t) 1, 0, (rfF (restL 2 l)).1)
    else if x = printW then (3, 0, 0, (rfF (restL 1 l)).1)
    else stopR
def numForm (s : List UInt8) : Option (Int × FR) :=
  match Lib.atoiAll (Lib.cut s [32]).1, rfF (Lib.cut s [32]).2.1 with
  | .ok z, (f, true) => some (z, f)
  | _, _ => none
def lineI (l : List UInt8) : Option LR :=
  if (Lib.cut l [32]).1 = testW then (numForm (Lib.cut l [32]).2.1).map fun r => (1, 0, r.1, r.2)
  else if (Lib.cut l [32]).1 = addW then (numForm (Lib.cut l [32]).2.1).map fun r => (2, r.1, 0, r.2)
  else if (Lib.cut l [32]).1 = printW then (if (rfF (Lib.cut l [32]).2.1).2 = true then some (3, 0, 0, (rfF (Lib.cut l [32]).2.1).1) else none)
  else if (Lib.cut l [32]).1 = stopT then some stopR
  else none
def raS (l : List UInt8) : LR × Bool := if actText (lineS l) ≠ [] ∧ actText (lineS l) = l then (lineS l, true) else noA
def raI (l : List UInt8) : LR × Bool :=
  if l.length ≤ 120 then
    (match lineI l with
    | none => noA
    | some L => if actText L = l then (L, true) else noA)
  else noA

theorem rest_skip : ∀ (p r : List UInt8) (n : Nat), 32 ∉ p → restL n (p ++ 32 :: r) = if n = 1 then r else restL (n - 1) r
  | [], r, n, _ => by rw [List.nil_append, restL, if_pos rfl]
  | b :: t, r, n, h => by
    have hb : ¬ b = 32 := fun e => h (by rw [e]; simp)
    rw [List.cons_append, restL, if_neg hb, rest_skip t r n (fun m => h (List.mem_cons_of_mem _ m))]
theorem cut_blank {p r : List UInt8} (h : 32 ∉ p) : Lib.cut (p ++ 32 :: r) [32] = (p, r, true) := by
  rw [Lib.cut, Lib.index_one, index_first _ _ _ h, if_pos (by omega), Int.toNat_natCast]
  simp
theorem form_reads {f : FR} (h : textF f ≠ []) (hl : (textF f).length ≤ 120) : rfF (textF f) = (f, true) := by
  rw [rfF, if_pos hl, rfI, (form_back h rfl).2]
  show (if _ then _ else _) = _
  rw [if_pos rfl]
theorem form_text {C D : List Int} {K : Int} (h : smallB C.length D.length C D K = true) : textF (C, D, K) ≠ [] := by
  have hf : formB C.length D.length C D K = true := small_ok h
  show formText C.length D.length C D K ≠ []
  rw [formText_yes hf]
  intro e
  have := congrArg List.length e
  rw [List.length_append, List.length_nil] at this
  have h1 := itoa_pos K
  omega

theorem word_no {p : List UInt8} (hp : p = testW ∨ p = addW ∨ p = printW ∨ p = stopT) : 32 ∉ p := by
  rcases hp with rfl | rfl | rfl | rfl <;> decide
theorem line_cases {k p z : Int} {C D : List Int} {K : Int} (h : lineB k p z C.length D.length C D K = true) :
    (k = 1 ∧ p = 0 ∧ (1 ≤ z ∧ z ≤ 6) ∧ smallB C.length D.length C D K = true) ∨ (k = 2 ∧ (0 ≤ p ∧ p ≤ 2) ∧ z = 0 ∧ smallB C.length D.length C D K = true) ∨ (k = 3 ∧ p = 0 ∧ z = 0 ∧ smallB C.length D.length C D K = true) ∨ (k = 4 ∧ p = 0 ∧ z = 0 ∧ C = [] ∧ D = [] ∧ K = 0) := by
  unfold lineB at h
  split at h
  · rename_i e
    simp only [Bool.and_eq_true, beq_iff_eq, inB_iff] at h
    exact Or.inl ⟨e, h.1.1, h.1.2, h.2⟩
  · split at h
    · rename_i e
      simp only [Bool.and_eq_true, beq_iff_eq, inB_iff] at h
      exact Or.inr (Or.inl ⟨e, h.1.1, h.1.2, h.2⟩)
    · split at h
      · rename_i e
        simp only [Bool.and_eq_true, beq_iff_eq] at h
        exact Or.inr (Or.inr (Or.inl ⟨e, h.1.1, h.1.2, h.2⟩))
      · simp only [Bool.and_eq_true, beq_iff_eq] at h
        have h0 := h.1.2
        exact Or.inr (Or.inr (Or.inr ⟨h.1.1.1.1, h.1.1.1.2, h.1.1.2, List.eq_nil_of_length_eq_zero (by omega), List.eq_nil_of_length_eq_zero (by omega), h.2⟩))
theorem numForm_back {z : Int} {f : FR} (hz : -999999999999 ≤ z ∧ z ≤ 999999999999) (h : textF f ≠ []) (hl : (textF f).length ≤ 120) : numForm (Lib.itoa z ++ 32 :: textF f) = some (z, f) := by
  rw [numForm, cut_blank (itoa_plain z)]
  show (match Lib.atoiAll (Lib.itoa z), rfF (textF f) with | .ok z, (f, true) => _ | _, _ => _) = _
  rw [all_back z hz, form_reads h hl]
theorem atW_back {z : Int} {x : List UInt8} {t : List (List UInt8)} (hz : -999999999999 ≤ z ∧ z ≤ 999999999999) : atW (x :: Lib.itoa z :: t) 1 = z := by
  rw [atW]
  show (if (numL (Lib.itoa z)).2 = true then (numL (Lib.itoa z)).1 else -1) = z
  rw [num_back z hz]
  rfl
theorem act_back {L : LR} {l : List UInt8} (h0 : l ≠ []) (hl : l.length ≤ 120) (h : actText L = l) : lineS l = L ∧ lineI l = some L := by
  obtain ⟨k, p, z, C, D, K⟩ := L
  have hok : lineB k p z C.length D.length C D K = true := by
    cases e : lineB k p z C.length D.length C D K with
    | true => rfl
    | false =>
      rw [actText] at h
      simp only [e] at h
      exact absurd h.symm h0
  have hw : wsF l = wordsOf l := by rw [wsF, if_pos hl]
  have h' : (if k = 1 then testW ++ 32 :: (Lib.itoa z ++ 32 :: textF (C, D, K)) else if k = 2 then addW ++ 32 :: (Lib.itoa p ++ 32 :: textF (C, D, K)) else if k = 3 then printW ++ 32 :: textF (C, D, K) else stopT) = l := by
    rw [actText] at h
    simp only [hok, if_true] at h
    exact h
  rcases line_cases hok with ⟨rfl, rfl, hz, hs⟩ | ⟨rfl, hp, rfl, hs⟩ | ⟨rfl, rfl, rfl, hs⟩ | ⟨rfl, rfl, rfl, rfl, rfl, rfl⟩
  · rw [if_pos rfl] at h'
    have ht := form_text hs
    have hlt : (textF (C, D, K)).length ≤ 120 := by
      have := congrArg List.length h'
      simp only [List.length_append, List.length_cons] at this
      omega
    constructor
    · rw [lineS, hw, ← h', words_cut (word_no (Or.inl rfl)), words_cut (itoa_plain z)]
      show (if testW = testW then _ else _) = _
      rw [if_pos rfl, atW_back (by omega), rest_skip _ _ _ (word_no (Or.inl rfl)), if_neg (by decide), rest_skip _ _ _ (itoa_plain z), if_pos (by decide), form_reads ht hlt]
    · rw [lineI, ← h', cut_blank (word_no (Or.inl rfl))]
      show (if testW = testW then _ else _) = _
      rw [if_pos rfl, numForm_back (by omega) ht hlt]
      rfl
  · rw [if_neg (by decide), if_pos rfl] at h'
    have ht := form_text hs
    have hlt : (textF (C, D, K)).length ≤ 120 := by
      have := congrArg List.length h'
      simp only [List.length_append, List.length_cons] at this
      omega
    constructor
    · rw [lineS, hw, ← h', words_cut (word_no (Or.inr (Or.inl rfl))), words_cut (itoa_plain p)]
      show (if addW = testW then _ else if addW = addW then _ else _) = _
      rw [if_neg (by decide), if_pos rfl, atW_back (by omega), rest_skip _ _ _ (word_no (Or.inr (Or.inl rfl))), if_neg (by decide), rest_skip _ _ _ (itoa_plain p), if_pos (by decide), form_reads ht hlt]
    · rw [lineI, ← h', cut_blank (word_no (Or.inr (Or.inl rfl)))]
      show (if addW = testW then _ else if addW = addW then _ else _) = _
      rw [if_neg (by decide), if_pos rfl, numForm_back (by omega) ht hlt]
      rfl
  · rw [if_neg (by decide), if_neg (by decide), if_pos rfl] at h'
    have ht := form_text hs
    have hlt : (textF (C, D, K)).length ≤ 120 := by
      have := congrArg List.length h'
      simp only [List.length_append, List.length_cons] at this
      omega
    constructor
    · rw [lineS, hw, ← h', words_cut (word_no (Or.inr (Or.inr (Or.inl rfl))))]
      show (if printW = testW then _ else if printW = addW then _ else if printW = printW then _ else _) = _
      rw [if_neg (by decide), if_neg (by decide), if_pos rfl, rest_skip _ _ _ (word_no (Or.inr (Or.inr (Or.inl rfl)))), if_pos rfl, form_reads ht hlt]
    · rw [lineI, ← h', cut_blank (word_no (Or.inr (Or.inr (Or.inl rfl))))]
      show (if printW = testW then _ else if printW = addW then _ else if printW = printW then _ else _) = _
      rw [if_neg (by decide), if_neg (by decide), if_pos rfl, form_reads ht hlt]
      rfl
  · rw [if_neg (by decide), if_neg (by decide), if_neg (by decide)] at h'
    constructor
    · rw [lineS, hw, ← h', words_plain (word_no (Or.inr (Or.inr (Or.inr rfl))))]
      rfl
    · rw [lineI, ← h', cut_none (word_no (Or.inr (Or.inr (Or.inr rfl))))]
      rfl
theorem ra_same (l : List UInt8) : raI l = raS l := by
  rw [raS]
  by_cases hl : l.length ≤ 120
  · rw [raI, if_pos hl]
    by_cases h0 : l = []
    · subst h0
      rw [if_neg (fun h => h.1 h.2)]
      rfl
    by_cases h : actText (lineS l) ≠ [] ∧ actText (lineS l) = l
    · rw [if_pos h, (act_back h0 hl h.2).2]
      show (if _ then _ else _) = _
      rw [if_pos h.2]
    · rw [if_neg h]
      cases e : lineI l with
      | none => rfl
      | some L =>
        show (if _ then _ else _) = _
        rw [if_neg]
        intro hf
        obtain ⟨h1, -⟩ := act_back h0 hl hf
        exact h (by rw [h1, hf]; exact ⟨h0, rfl⟩)
  · rw [raI, if_neg hl, if_neg]
    rintro ⟨-, h2⟩
    have e : actText (lineS l) = stopT := by rw [lineS, wsF, if_neg hl]; rfl
    rw [e] at h2
    rw [← h2] at hl
    exact hl (by decide)

end Go.Proofs.YtfkcfjkojfnfnaaGreatDoor
namespace Go.Proofs.YtfkcfjkojfnfnaaGreatDoor
open Go.RowKit
set_option linter.unusedVariables false
set_option maxRecDepth 100000

theorem small_bnd {n m : Nat} {C D : List Int} {K : Int} (h : smallB n m C D K = true) : n = 3 ∧ m = 2 ∧ (∀ i : Nat, -10000000 ≤ C[i]?.getD 0 ∧ C[i]?.getD 0 ≤ 10000000) ∧ (∀ i : Nat, -10000000 ≤ D[i]?.getD 0 ∧ D[i]?.getD 0 ≤ 10000000) ∧ (-20 ≤ K ∧ K ≤ 20) := by
  unfold smallB okN at h
  simp only [Bool.and_eq_true, decide_eq_true_eq, inB_iff] at h
  obtain ⟨⟨⟨h1, h2⟩, h3, h4⟩, h5⟩ := h
  exact ⟨by omega, by omega, fun i => by have := allB_bnd' (by omega) h2 i; omega, fun i => by have := allB_bnd' (by omega) h4 i; omega, h5⟩
theorem form_len {n m : Nat} {C D : List Int} {K : Int} (h : smallB n m C D K = true) : (formText n m C D K).length ≤ 400 := by
  obtain ⟨h1, h2, h3, h4, h5⟩ := small_bnd h
  rw [formText_yes (small_ok h)]
  have a1 := times_bytes (x := 120) h3 3 (by omega)
  have a2 := times_bytes (x := 97) h4 2 (by omega)
  have a3 := Lib.itoa_length_le K (by omega) (by omega)
  have e : spaced (timesL 120 C 3 ++ timesL 97 D 2) = spaced (timesL 120 C 3) ++ spaced (timesL 97 D 2) := by
    unfold spaced
    rw [List.map_append, List.flatten_append]
  rw [e, List.length_append, List.length_append]
  omega
theorem actText_no {k p z : Int} {C D : List Int} {K : Int} (h : lineB k p z C.length D.length C D K = false) : actText (k, p, z, C, D, K) = [] := by
  rw [actText]
  simp only [h]
  rfl
theorem actText_yes {k p z : Int} {C D : List Int} {K : Int} (h : lineB k p z C.length D.length C D K = true) : actText (k, p, z, C, D, K) = if k = 1 then testW ++ 32 :: (Lib.itoa z ++ 32 :: textF (C, D, K)) else if k = 2 then addW ++ 32 :: (Lib.itoa p ++ 32 :: textF (C, D, K)) else if k = 3 then printW ++ 32 :: textF (C, D, K) else stopT := by
  rw [actText]
  simp only [h, if_true]
/-- Where a form's cells lie in a line. -/
theorem Cel.tri {w : World} {B : Nat} {x0 x1 x2 x3 x4 x5 : Value} {t : TypeId} (h : Cel w B [x0, x1, x2, x3, x4, x5] t) : w.cell? ⟨B, 3, none⟩ = some x3 ∧ w.cell? ⟨B, 4, none⟩ = some x4 ∧ w.cell? ⟨B, 5, none⟩ = some x5 := ⟨h.cell 3, h.cell 4, h.cell 5⟩

set_option maxHeartbeats 6400000 in
theorem satext_any (kind pot skip : Int) (a : Option Addr) (n cap : Nat) (c : Option Addr) (m cap' : Nat) (K : Int) (C D : List Int) (w : World) (hC : Ints w a n C) (hD : Ints w c m D) (hn : n ≤ 1048576) (hm : m ≤ 1048576) :
    Calls Tryz.prog 17 #[lineV kind pot skip a n cap c m cap' K] w fun e w' => e = .returned (.string ⟨(actText (kind, pot, skip, C, D, K)).toArray⟩) ∧ Below w.heap.size w w' := by
  have q_0 := Cel.new w [.int .i64 kind, .int .i64 pot, .int .i64 skip, .slice a n cap, .slice c m cap', .int .i64 K] 36
  have B_0 := (Below.refl w.heap.size w).alloc (Nat.le_refl _) (.cells #[.int .i64 kind, .int .i64 pot, .int .i64 skip, .slice a n cap, .slice c m cap', .int .i64 K] 36)
  have HC1 : Hid (C.length = n) := hC.1
  have HD1 : Hid (D.length = m) := hD.1
  cases hb : lineB kind pot skip n m C D K
  · have HT : Hid (actText (kind, pot, skip, C, D, K) = []) := actText_no (by rw [HC1.out, HD1.out]; exact hb)
    go_enter Tryz.func17, Tryz.ntmps17
    go_wp2_with fail
    refine (sline_any _ _ _ _ _ _ _ _ _ _ C D _ (hC.alloc _) (hD.alloc _) hn hm).mono ?_
    rintro e w1 ⟨rfl, b1⟩
    rw [hb]
    go_wp2
    go_ret
    exact ⟨by rw [HT.out]; rfl, B_0.trans (b1.mono B_0.size)⟩
  have HB : Hid _ := hb
  have HAY : Hid _ := actText_yes (k := kind) (p := pot) (z := skip) (C := C) (D := D) (K := K) (by rw [HC1.out, HD1.out]; exact hb)
  have hcs := line_cases (k := kind) (p := pot) (z := skip) (C := C) (D := D) (K := K) (by rw [HC1.out, HD1.out]; exact hb)
  clear hb
  rcases hcs with ⟨rfl, rfl, ⟨y1, y2⟩, hs⟩ | ⟨rfl, ⟨y1, y2⟩, rfl, hs⟩ | ⟨rfl, rfl, rfl, hs⟩ | ⟨rfl, rfl, rfl, rfl, rfl, rfl⟩
  · rw [HC1.out, HD1.out] at hs
    obtain ⟨F, hF⟩ : ∃ F, F = formText n m C D K := ⟨_, rfl⟩
    have hFl : F.length ≤ 400 := by rw [hF]; exact form_len hs
    have HAT : Hid (actText (1, 0, skip, C, D, K) = testW ++ 32 :: (Lib.itoa skip ++ 32 :: F)) := by show _ = _; rw [HAY.out, if_pos rfl, textF, HC1.out, HD1.out, hF]
    have HF : Hid _ := hF
    clear hF hs HAY
    have l1 := Lib.itoa_length_le skip (by omega) (by omega)
    obtain ⟨T1, e1⟩ : ∃ T : ByteArray, T = ⟨(Lib.itoa skip).toArray⟩ := ⟨_, rfl⟩
    have s1 : T1.size ≤ 21 := by rw [e1]; simpa [ByteArray.size] using l1
    have E1 : Hid _ := e1
    clear l1 e1
    obtain ⟨T2, e2⟩ : ∃ T : ByteArray, T = ⟨F.toArray⟩ := ⟨_, rfl⟩
    have s2 : T2.size ≤ 400 := by rw [e2]; simpa [ByteArray.size] using hFl
    have E2 : Hid _ := e2
    clear e2
    obtain ⟨R1, hR1⟩ : ∃ R : ByteArray, R = (⟨#[116, 101, 115, 116, 32]⟩ : ByteArray) ++ (T1 : ByteArray) := ⟨_, rfl⟩
    have z1 : R1.size ≤ 50 := by rw [hR1, ByteArray.size_append]; first | omega | (have := (show (⟨#[116, 101, 115, 116, 32]⟩ : ByteArray).size ≤ 5 by decide); omega)
    have A1 : ∀ X : World, (Op.stringOp .add (⟨#[116, 101, 115, 116, 32]⟩ : ByteArray) (T1 : ByteArray)).run Tryz.prog X = .ok (.string R1) X := fun X => by rw [hR1]; exact run_string_add_sum X _ _ (by rw [← ByteArray.size_append, ← hR1]; omega)
    have HR1 : Hid _ := hR1
    clear hR1
    obtain ⟨R2, hR2⟩ : ∃ R : ByteArray, R = (R1 : ByteArray) ++ (⟨#[32]⟩ : ByteArray) := ⟨_, rfl⟩
    have z2 : R2.size ≤ 60 := by rw [hR2, ByteArray.size_append]; first | omega | (have := (show (⟨#[32]⟩ : ByteArray).size ≤ 5 by decide); omega)
    have A2 : ∀ X : World, (Op.stringOp .add (R1 : ByteArray) (⟨#[32]⟩ : ByteArray)).run Tryz.prog X = .ok (.string R2) X := fun X => by rw [hR2]; exact run_string_add_sum X _ _ (by rw [← ByteArray.size_append, ← hR2]; omega)
    have HR2 : Hid _ := hR2
    clear hR2
    obtain ⟨R3, hR3⟩ : ∃ R : ByteArray, R = (R2 : ByteArray) ++ (T2 : ByteArray) := ⟨_, rfl⟩
    have z3 : R3.size ≤ 470 := by rw [hR3, ByteArray.size_append]; first | omega | (have := (show (T2 : ByteArray).size ≤ 5 by decide); omega)
    have A3 : ∀ X : World, (Op.stringOp .add (R2 : ByteArray) (T2 : ByteArray)).run Tryz.prog X = .ok (.string R3) X := fun X => by rw [hR3]; exact run_string_add_sum X _ _ (by rw [← ByteArray.size_append, ← hR3]; omega)
    have HR3 : Hid _ := hR3
    clear hR3
    go_enter Tryz.func17, Tryz.ntmps17
    go_wp2_with fail
    refine (sline_any _ _ _ _ _ _ _ _ _ _ C D _ (hC.alloc _) (hD.alloc _) hn hm).mono ?_
    rintro e W ⟨rfl, b1⟩
    rw [HB.out]
    have B_1 := B_0.trans (b1.mono B_0.size)
    have q_1 := q_0.below b1
    have CC : Hid (∀ X : World, Cel X w.heap.size [.int .i64 1, .int .i64 0, .int .i64 skip, .slice a n cap, .slice c m cap', .int .i64 K] 36 → X.cell? ⟨w.heap.size, 2, none⟩ = some (.int .i64 skip) ∧ X.cell? ⟨w.heap.size, 3, none⟩ = some (.slice a n cap) ∧ X.cell? ⟨w.heap.size, 4, none⟩ = some (.slice c m cap') ∧ X.cell? ⟨w.heap.size, 5, none⟩ = some (.int .i64 K)) := fun X h => ⟨h.cell 2, h.cell 3, h.cell 4, h.cell 5⟩
    obtain ⟨k0, k1, k2, k3, k4, k5⟩ := q_1.six
    clear q_0 B_0 b1
    go_upto_region 5 with fail
    clear k0 k1 k2 k3 k4 k5
    have hS0 : (W.drew.cell? ⟨w.heap.size, 2, none⟩ = some (.int .i64 skip) ∧ W.drew.cell? ⟨w.heap.size, 3, none⟩ = some (.slice a n cap) ∧ W.drew.cell? ⟨w.heap.size, 4, none⟩ = some (.slice c m cap') ∧ W.drew.cell? ⟨w.heap.size, 5, none⟩ = some (.int .i64 K)) ∧ True := ⟨CC.out _ q_1, trivial⟩
    refine wp_region_ends (fun X => X.cell? ⟨w.heap.size, 2, none⟩ = some (.int .i64 skip) ∧ X.cell? ⟨w.heap.size, 3, none⟩ = some (.slice a n cap) ∧ X.cell? ⟨w.heap.size, 4, none⟩ = some (.slice c m cap') ∧ X.cell? ⟨w.heap.size, 5, none⟩ = some (.int .i64 K)) (fun _ => True) 9 (by kernel_rfl) ?_
    refine wpAnyE_take0 (i := 0) (v := ?u0v0) rfl (by kernel_rfl) (by kernel_rfl) (by kernel_rfl) (by decide) (fun _ _ _ h => h) (Or.inl ⟨by rfl, ?u0hy0⟩) hS0 ?_
    case u0hy0 => (intro wz hSw; (try dsimp only at hSw); go_simp; try (with_reducible rfl))
    refine wpAnyE_take0 (i := 1) (v := ?u0v1) rfl (by kernel_rfl) (by kernel_rfl) (by kernel_rfl) (by decide) (fun _ _ _ h => h) (Or.inl ⟨by rfl, ?u0hy1⟩) hS0 ?_
    case u0hy1 => (intro wz hSw; (try dsimp only at hSw); go_simp; try (with_reducible rfl))
    refine wpAnyE_take0 (i := 5) (v := ?u0v5) rfl (by kernel_rfl) (by kernel_rfl) (by kernel_rfl) (by decide) (fun _ _ _ h => h) (Or.inl ⟨by rfl, ?u0hy5⟩) hS0 ?_
    case u0hy5 => (intro wz hSw; (try dsimp only at hSw); go_simp; try (with_reducible rfl))
    refine wpAnyE_take0 (i := 6) (v := ?u0v6) rfl (by kernel_rfl) (by kernel_rfl) (by kernel_rfl) (by decide) (fun _ _ _ h => h) (Or.inl ⟨by rfl, ?u0hy6⟩) hS0 ?_
    case u0hy6 => (intro wz hSw; (try dsimp only at hSw); go_simp; try (with_reducible rfl))
    refine wpAnyE_one (i := 2) (by kernel_rfl) rfl (fun Kn hK => ?_)
    go_simp
    refine (digits_any skip _ (by omega) (by omega)).mono ?_
    rintro ee w2 ⟨rfl, bd_2⟩
    rw [← E1.out]
    have b_2 := below_of_drew bd_2
    have B_2 := B_1.trans (b_2.mono B_1.size)
    have q_2 := q_1.below b_2
    have hS2 : (w2.cell? ⟨w.heap.size, 2, none⟩ = some (.int .i64 skip) ∧ w2.cell? ⟨w.heap.size, 3, none⟩ = some (.slice a n cap) ∧ w2.cell? ⟨w.heap.size, 4, none⟩ = some (.slice c m cap') ∧ w2.cell? ⟨w.heap.size, 5, none⟩ = some (.int .i64 K)) ∧ True := ⟨CC.out _ q_2, trivial⟩
    dsimp only
    refine hK.out _ _ ⟨hS2.1, fun _ => trivial⟩ ?_
    clear hK hS0
    refine wpAnyE_take0 (i := 3) (v := .string R1) rfl (by kernel_rfl) (by kernel_rfl) (by kernel_rfl) (by decide) (fun _ _ _ h => h) (Or.inl ⟨by rfl, ?u0hy3⟩) hS2 ?_
    case u0hy3 => (intro wz hSw; (try dsimp only at hSw); first | (go_simp; try (with_reducible rfl); done) | (simp only [go_sem, A1]; done) | (go_simp; exact A1 _) | (simp [go_sem, A1]; done) | skip)
    refine wpAnyE_take0 (i := 4) (v := .string R2) rfl (by kernel_rfl) (by kernel_rfl) (by kernel_rfl) (by decide) (fun _ _ _ h => h) (Or.inl ⟨by rfl, ?u0hy4⟩) hS2 ?_
    case u0hy4 => (intro wz hSw; (try dsimp only at hSw); first | (go_simp; try (with_reducible rfl); done) | (simp only [go_sem, A2]; done) | (go_simp; exact A2 _) | (simp [go_sem, A2]; done) | skip)
    refine wpAnyE_one (i := 7) (by kernel_rfl) rfl (fun Kn hK => ?_)
    go_simp
    refine (sftext_any _ _ _ _ _ _ _ C D _ (hC.below B_2) (hD.below B_2) hn hm).mono ?_
    rintro ee w3 ⟨rfl, b_3⟩
    rw [← HF.out, ← E2.out]
    have B_3 := B_2.trans (b_3.mono B_2.size)
    have q_3 := q_2.below b_3
    have hS3 : (w3.cell? ⟨w.heap.size, 2, none⟩ = some (.int .i64 skip) ∧ w3.cell? ⟨w.heap.size, 3, none⟩ = some (.slice a n cap) ∧ w3.cell? ⟨w.heap.size, 4, none⟩ = some (.slice c m cap') ∧ w3.cell? ⟨w.heap.size, 5, none⟩ = some (.int .i64 K)) ∧ True := ⟨CC.out _ q_3, trivial⟩
    dsimp only
    refine hK.out _ _ ⟨hS3.1, fun _ => trivial⟩ ?_
    clear hK hS2
    refine wpAnyE_take0 (i := 8) (v := .string R3) rfl (by kernel_rfl) (by kernel_rfl) (by kernel_rfl) (by decide) (fun _ _ _ h => h) (Or.inl ⟨by rfl, ?u0hy8⟩) hS3 ?_
    case u0hy8 => (intro wz hSw; (try dsimp only at hSw); first | (go_simp; try (with_reducible rfl); done) | (simp only [go_sem, A3]; done) | (go_simp; exact A3 _) | (simp [go_sem, A3]; done) | skip)
    refine wpAnyE_one (i := 9) (by kernel_rfl) rfl (fun Kn hK => ?_)
    go_simp
    refine hK.out _ _ ⟨hS3.1, fun _ => trivial⟩ ?_
    clear hK
    refine wpAnyE_done (by kernel_rfl) ?_ _
    clear hS3
    go_wp2
    go_ret
    refine ⟨?_, B_3⟩
    rw [HAT.out]
    have : R3 = ⟨(testW ++ 32 :: (Lib.itoa skip ++ 32 :: F)).toArray⟩ := by
      rw [HR3.out, HR2.out, HR1.out, E1.out, E2.out, show (⟨#[116, 101, 115, 116, 32]⟩ : ByteArray) = ⟨(testW ++ [32]).toArray⟩ from rfl, show (⟨#[32]⟩ : ByteArray) = ⟨[32].toArray⟩ from rfl]
      simp [cat_str, List.append_assoc]
    rw [← this]
    rfl
  · rw [HC1.out, HD1.out] at hs
    obtain ⟨F, hF⟩ : ∃ F, F = formText n m C D K := ⟨_, rfl⟩
    have hFl : F.length ≤ 400 := by rw [hF]; exact form_len hs
    have HAT : Hid (actText (2, pot, 0, C, D, K) = addW ++ 32 :: (Lib.itoa pot ++ 32 :: F)) := by show _ = _; rw [HAY.out, if_neg (by decide), if_pos rfl, textF, HC1.out, HD1.out, hF]
    have HF : Hid _ := hF
    clear hF hs HAY
    have l1 := Lib.itoa_length_le pot (by omega) (by omega)
    obtain ⟨T1, e1⟩ : ∃ T : ByteArray, T = ⟨(Lib.itoa pot).toArray⟩ := ⟨_, rfl⟩
    have s1 : T1.size ≤ 21 := by rw [e1]; simpa [ByteArray.size] using l1
    have E1 : Hid _ := e1
    clear l1 e1
    obtain ⟨T2, e2⟩ : ∃ T : ByteArray, T = ⟨F.toArray⟩ := ⟨_, rfl⟩
    have s2 : T2.size ≤ 400 := by rw [e2]; simpa [ByteArray.size] using hFl
    have E2 : Hid _ := e2
    clear e2
    obtain ⟨R1, hR1⟩ : ∃ R : ByteArray, R = (⟨#[97, 100, 100, 32]⟩ : ByteArray) ++ (T1 : ByteArray) := ⟨_, rfl⟩
    have z1 : R1.size ≤ 50 := by rw [hR1, ByteArray.size_append]; first | omega | (have := (show (⟨#[97, 100, 100, 32]⟩ : ByteArray).size ≤ 5 by decide); omega)
    have A1 : ∀ X : World, (Op.stringOp .add (⟨#[97, 100, 100, 32]⟩ : ByteArray) (T1 : ByteArray)).run Tryz.prog X = .ok (.string R1) X := fun X => by rw [hR1]; exact run_string_add_sum X _ _ (by rw [← ByteArray.size_append, ← hR1]; omega)
    have HR1 : Hid _ := hR1
    clear hR1
    obtain ⟨R2, hR2⟩ : ∃ R : ByteArray, R = (R1 : ByteArray) ++ (⟨#[32]⟩ : ByteArray) := ⟨_, rfl⟩
    have z2 : R2.size ≤ 60 := by rw [hR2, ByteArray.size_append]; first | omega | (have := (show (⟨#[32]⟩ : ByteArray).size ≤ 5 by decide); omega)
    have A2 : ∀ X : World, (Op.stringOp .add (R1 : ByteArray) (⟨#[32]⟩ : ByteArray)).run Tryz.prog X = .ok (.string R2) X := fun X => by rw [hR2]; exact run_string_add_sum X _ _ (by rw [← ByteArray.size_append, ← hR2]; omega)
    have HR2 : Hid _ := hR2
    clear hR2
    obtain ⟨R3, hR3⟩ : ∃ R : ByteArray, R = (R2 : ByteArray) ++ (T2 : ByteArray) := ⟨_, rfl⟩
    have z3 : R3.size ≤ 470 := by rw [hR3, ByteArray.size_append]; first | omega | (have := (show (T2 : ByteArray).size ≤ 5 by decide); omega)
    have A3 : ∀ X : World, (Op.stringOp .add (R2 : ByteArray) (T2 : ByteArray)).run Tryz.prog X = .ok (.string R3) X := fun X => by rw [hR3]; exact run_string_add_sum X _ _ (by rw [← ByteArray.size_append, ← hR3]; omega)
    have HR3 : Hid _ := hR3
    clear hR3
    go_enter Tryz.func17, Tryz.ntmps17
    go_wp2_with fail
    refine (sline_any _ _ _ _ _ _ _ _ _ _ C D _ (hC.alloc _) (hD.alloc _) hn hm).mono ?_
    rintro e W ⟨rfl, b1⟩
    rw [HB.out]
    have B_1 := B_0.trans (b1.mono B_0.size)
    have q_1 := q_0.below b1
    have CC : Hid (∀ X : World, Cel X w.heap.size [.int .i64 2, .int .i64 pot, .int .i64 0, .slice a n cap, .slice c m cap', .int .i64 K] 36 → X.cell? ⟨w.heap.size, 1, none⟩ = some (.int .i64 pot) ∧ X.cell? ⟨w.heap.size, 3, none⟩ = some (.slice a n cap) ∧ X.cell? ⟨w.heap.size, 4, none⟩ = some (.slice c m cap') ∧ X.cell? ⟨w.heap.size, 5, none⟩ = some (.int .i64 K)) := fun X h => ⟨h.cell 1, h.cell 3, h.cell 4, h.cell 5⟩
    obtain ⟨k0, k1, k2, k3, k4, k5⟩ := q_1.six
    clear q_0 B_0 b1
    go_upto_region 7 with fail
    clear k0 k1 k2 k3 k4 k5
    have hS0 : (W.drew.cell? ⟨w.heap.size, 1, none⟩ = some (.int .i64 pot) ∧ W.drew.cell? ⟨w.heap.size, 3, none⟩ = some (.slice a n cap) ∧ W.drew.cell? ⟨w.heap.size, 4, none⟩ = some (.slice c m cap') ∧ W.drew.cell? ⟨w.heap.size, 5, none⟩ = some (.int .i64 K)) ∧ True := ⟨CC.out _ q_1, trivial⟩
    refine wp_region_ends (fun X => X.cell? ⟨w.heap.size, 1, none⟩ = some (.int .i64 pot) ∧ X.cell? ⟨w.heap.size, 3, none⟩ = some (.slice a n cap) ∧ X.cell? ⟨w.heap.size, 4, none⟩ = some (.slice c m cap') ∧ X.cell? ⟨w.heap.size, 5, none⟩ = some (.int .i64 K)) (fun _ => True) 9 (by kernel_rfl) ?_
    refine wpAnyE_take0 (i := 0) (v := ?u1v0) rfl (by kernel_rfl) (by kernel_rfl) (by kernel_rfl) (by decide) (fun _ _ _ h => h) (Or.inl ⟨by rfl, ?u1hy0⟩) hS0 ?_
    case u1hy0 => (intro wz hSw; (try dsimp only at hSw); go_simp; try (with_reducible rfl))
    refine wpAnyE_take0 (i := 1) (v := ?u1v1) rfl (by kernel_rfl) (by kernel_rfl) (by kernel_rfl) (by decide) (fun _ _ _ h => h) (Or.inl ⟨by rfl, ?u1hy1⟩) hS0 ?_
    case u1hy1 => (intro wz hSw; (try dsimp only at hSw); go_simp; try (with_reducible rfl))
    refine wpAnyE_take0 (i := 5) (v := ?u1v5) rfl (by kernel_rfl) (by kernel_rfl) (by kernel_rfl) (by decide) (fun _ _ _ h => h) (Or.inl ⟨by rfl, ?u1hy5⟩) hS0 ?_
    case u1hy5 => (intro wz hSw; (try dsimp only at hSw); go_simp; try (with_reducible rfl))
    refine wpAnyE_take0 (i := 6) (v := ?u1v6) rfl (by kernel_rfl) (by kernel_rfl) (by kernel_rfl) (by decide) (fun _ _ _ h => h) (Or.inl ⟨by rfl, ?u1hy6⟩) hS0 ?_
    case u1hy6 => (intro wz hSw; (try dsimp only at hSw); go_simp; try (with_reducible rfl))
    refine wpAnyE_one (i := 2) (by kernel_rfl) rfl (fun Kn hK => ?_)
    go_simp
    refine (digits_any pot _ (by omega) (by omega)).mono ?_
    rintro ee w2 ⟨rfl, bd_2⟩
    rw [← E1.out]
    have b_2 := below_of_drew bd_2
    have B_2 := B_1.trans (b_2.mono B_1.size)
    have q_2 := q_1.below b_2
    have hS2 : (w2.cell? ⟨w.heap.size, 1, none⟩ = some (.int .i64 pot) ∧ w2.cell? ⟨w.heap.size, 3, none⟩ = some (.slice a n cap) ∧ w2.cell? ⟨w.heap.size, 4, none⟩ = some (.slice c m cap') ∧ w2.cell? ⟨w.heap.size, 5, none⟩ = some (.int .i64 K)) ∧ True := ⟨CC.out _ q_2, trivial⟩
    dsimp only
    refine hK.out _ _ ⟨hS2.1, fun _ => trivial⟩ ?_
    clear hK hS0
    refine wpAnyE_take0 (i := 3) (v := .string R1) rfl (by kernel_rfl) (by kernel_rfl) (by kernel_rfl) (by decide) (fun _ _ _ h => h) (Or.inl ⟨by rfl, ?u1hy3⟩) hS2 ?_
    case u1hy3 => (intro wz hSw; (try dsimp only at hSw); first | (go_simp; try (with_reducible rfl); done) | (simp only [go_sem, A1]; done) | (go_simp; exact A1 _) | (simp [go_sem, A1]; done) | skip)
    refine wpAnyE_take0 (i := 4) (v := .string R2) rfl (by kernel_rfl) (by kernel_rfl) (by kernel_rfl) (by decide) (fun _ _ _ h => h) (Or.inl ⟨by rfl, ?u1hy4⟩) hS2 ?_
    case u1hy4 => (intro wz hSw; (try dsimp only at hSw); first | (go_simp; try (with_reducible rfl); done) | (simp only [go_sem, A2]; done) | (go_simp; exact A2 _) | (simp [go_sem, A2]; done) | skip)
    refine wpAnyE_one (i := 7) (by kernel_rfl) rfl (fun Kn hK => ?_)
    go_simp
    refine (sftext_any _ _ _ _ _ _ _ C D _ (hC.below B_2) (hD.below B_2) hn hm).mono ?_
    rintro ee w3 ⟨rfl, b_3⟩
    rw [← HF.out, ← E2.out]
    have B_3 := B_2.trans (b_3.mono B_2.size)
    have q_3 := q_2.below b_3
    have hS3 : (w3.cell? ⟨w.heap.size, 1, none⟩ = some (.int .i64 pot) ∧ w3.cell? ⟨w.heap.size, 3, none⟩ = some (.slice a n cap) ∧ w3.cell? ⟨w.heap.size, 4, none⟩ = some (.slice c m cap') ∧ w3.cell? ⟨w.heap.size, 5, none⟩ = some (.int .i64 K)) ∧ True := ⟨CC.out _ q_3, trivial⟩
    dsimp only
    refine hK.out _ _ ⟨hS3.1, fun _ => trivial⟩ ?_
    clear hK hS2
    refine wpAnyE_take0 (i := 8) (v := .string R3) rfl (by kernel_rfl) (by kernel_rfl) (by kernel_rfl) (by decide) (fun _ _ _ h => h) (Or.inl ⟨by rfl, ?u1hy8⟩) hS3 ?_
    case u1hy8 => (intro wz hSw; (try dsimp only at hSw); first | (go_simp; try (with_reducible rfl); done) | (simp only [go_sem, A3]; done) | (go_simp; exact A3 _) | (simp [go_sem, A3]; done) | skip)
    refine wpAnyE_one (i := 9) (by kernel_rfl) rfl (fun Kn hK => ?_)
    go_simp
    refine hK.out _ _ ⟨hS3.1, fun _ => trivial⟩ ?_
    clear hK
    refine wpAnyE_done (by kernel_rfl) ?_ _
    clear hS3
    go_wp2
    go_ret
    refine ⟨?_, B_3⟩
    rw [HAT.out]
    have : R3 = ⟨(addW ++ 32 :: (Lib.itoa pot ++ 32 :: F)).toArray⟩ := by
      rw [HR3.out, HR2.out, HR1.out, E1.out, E2.out, show (⟨#[97, 100, 100, 32]⟩ : ByteArray) = ⟨(addW ++ [32]).toArray⟩ from rfl, show (⟨#[32]⟩ : ByteArray) = ⟨[32].toArray⟩ from rfl]
      simp [cat_str, List.append_assoc]
    rw [← this]
    rfl
  · rw [HC1.out, HD1.out] at hs
    obtain ⟨F, hF⟩ : ∃ F, formText n m C D K = F := ⟨_, rfl⟩
    have hFl : F.length ≤ 400 := by rw [← hF]; exact form_len hs
    have HAT : Hid (actText (3, 0, 0, C, D, K) = printW ++ 32 :: F) := by show _ = _; rw [HAY.out, if_neg (by decide), if_neg (by decide), if_pos rfl, textF, HC1.out, HD1.out, hF]
    have HF : Hid _ := hF
    clear hF hs HAY
    go_enter Tryz.func17, Tryz.ntmps17
    go_wp2_with fail
    refine (sline_any _ _ _ _ _ _ _ _ _ _ C D _ (hC.alloc _) (hD.alloc _) hn hm).mono ?_
    rintro e W ⟨rfl, b1⟩
    rw [HB.out]
    have B_1 := B_0.trans (b1.mono B_0.size)
    have q_1 := q_0.below b1
    obtain ⟨k0, k1, k2, k3, k4, k5⟩ := q_1.six
    clear q_0 B_0 b1
    go_wp2_with fail
    refine (sftext_any _ _ _ _ _ _ _ C D _ (hC.below B_1) (hD.below B_1) hn hm).mono ?_
    rintro e w3 ⟨rfl, b_3⟩
    rw [HF.out]
    have B_3 := B_1.trans (b_3.mono B_1.size)
    clear k0 k1 k2 k3 k4 k5 q_1 B_1 b_3
    go_wp2
    go_ret
    refine ⟨?_, B_3⟩
    rw [HAT.out, show printW ++ 32 :: F = (printW ++ [32]) ++ F by simp, ← cat_str]
    rfl
  · have HAT : Hid (actText (4, 0, 0, [], [], 0) = stopT) := by show _ = _; rw [HAY.out]; rfl
    go_enter Tryz.func17, Tryz.ntmps17
    go_wp2_with fail
    refine (sline_any _ _ _ _ _ _ _ _ _ _ [] [] _ (hC.alloc _) (hD.alloc _) hn hm).mono ?_
    rintro e W ⟨rfl, b1⟩
    rw [HB.out]
    have B_1 := B_0.trans (b1.mono B_0.size)
    have q_1 := q_0.below b1
    obtain ⟨k0, k1, k2, k3, k4, k5⟩ := q_1.six
    go_wp2
    go_ret
    exact ⟨by rw [HAT.out]; rfl, B_1⟩

end Go.Proofs.YtfkcfjkojfnfnaaGreatDoor
