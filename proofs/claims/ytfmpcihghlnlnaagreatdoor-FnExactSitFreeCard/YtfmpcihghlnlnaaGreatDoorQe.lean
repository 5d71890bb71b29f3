/-
  Lemmas that the claim's last text rests on.
-/
import Derived.Lib.Join
import Derived.Shelf.Strings.OnBuilder
import Derived.Shelf.LaysM
import Derived.Shelf.Strconv.Itoa3
import Derived.Ground.Names2Prog
import Derived.Ground.SlgnProg
import Derived.Test.YtfmpcihghlnlnaaGreatDoorProg
import Derived.Lib.AppendIntMem
import Derived.Test.YtfmpcihghlnlnaaGreatDoorQd
namespace Go.Proofs.YtfmpcihghlnlnaaGreatDoor
open Go.RowKit Go.Shelf
open World renaming size_alloc → qA
open List renaming getElem?_eq_getElem → qB, getElem?_cons_zero → qC, getElem?_cons_succ → qD, length_append → qE, take_of_length_le → qF
open Nat renaming le_refl → qG, zero_le → qH
set_option linter.unusedVariables false
set_option maxRecDepth 100000
set_option maxHeartbeats 25600000
variable {W w : World} {c : Int} {cap k n : Nat} {v : Value} {xs : List ByteArray} {zs : List Int}
def wordL (c : Int) : List UInt8 := if c = 1 then [100, 111, 110, 101] else if c = 2 then [115, 116, 111, 112, 112, 101, 100] else if c = 3 then [111, 118, 101, 114] else []
def tailL (zs : List Int) : List UInt8 := Lib.joinTail [32] (zs.map Lib.itoa)
def resOkB (c : Int) (n : Nat) (zs : List Int) : Bool := inB c 1 3 && (decide (c = 1 \/ n = 0) && (decide (n <= 6) && allB 999999999999 zs))
def resText (c : Int) (n : Nat) (zs : List Int) : List UInt8 := if resOkB c n zs = true then wordL c ++ tailL zs else []
theorem tail_step (h : k < zs.length) : tailL (zs.take (k + 1)) = tailL (zs.take k) ++ ([32] ++ Lib.itoa (zs[k]?.getD 0)) := by
 unfold tailL Lib.joinTail;rw [List.take_succ_eq_append_getElem h, qB h, List.map_append, List.map_append, List.flatten_append];simp only [List.map_cons, List.map_nil, List.flatten_cons, List.flatten_nil, List.append_nil, Option.getD_some]
theorem tail_nil : tailL [] = [] := rfl
theorem tail_end (h : zs.length <= k) : tailL (zs.take k) = tailL zs := by rw [qF h]
theorem resText_no (h : resOkB c n zs = false) : resText c n zs = [] := by rw [resText, h]; rfl
theorem resText_yes (h : resOkB c n zs = true) : resText c n zs = wordL c ++ tailL zs := by rw [resText, if_pos h]
theorem word_len (c : Int) : (wordL c).length <= 7 := by
 unfold wordL
 split
 ·decide
 split
 ·decide
 split <;> decide
theorem allB_bnd' {m : Int} (hm : 0 <= m) (h : allB m zs = true) : ∀ i : Nat, -m <= zs[i]?.getD 0 /\ zs[i]?.getD 0 <= m := by
 intro i
 by_cases hi : i < zs.length
 ·unfold allB at h;rw [List.all_eq_true] at h;have := inB_iff.1 (h zs[i] (List.getElem_mem hi));rw [qB hi];simpa using this
 rw [List.getElem?_eq_none (by omega)];simp; omega
theorem ret_str {a b : List UInt8} (h : a = b) : Ending.returned (.string ⟨a.toArray⟩) = .returned (.string ⟨b.toArray⟩) := by rw [h]
theorem stext_any {a : Option Addr} (zs : List Int) {w : World} (hC : Ints w a n zs) (hn : n <= 1048576) :
  Calls Tryz.prog 134 #[resP c a n cap] w fun e w' => e = .returned (.string ⟨(resText c n zs).toArray⟩) /\ Below w.heap.size w w' := by
 have HL : Hid (zs.length = n) := hC.1;have B0 := ((Below.refl w.heap.size w).alloc (qG _) (.cells #[.int .i64 c, .slice a n cap] 55)).alloc (by simp) (.cells #[.string ⟨#[]⟩, .string ⟨#[100, 111, 110, 101]⟩, .string ⟨#[115, 116, 111, 112, 112, 101, 100]⟩, .string ⟨#[111, 118, 101, 114]⟩] 9)
 cases h1 : inB c 1 3
 ·have HR : Hid _ := resText_no (c := c) (n := n) (zs := zs) (by simp [resOkB, h1])
  go_enter Tryz.func134, Tryz.ntmps134
  go_wp2_with fail
  refine (in_any).mono ?_;rintro e w1 ⟨rfl, rfl⟩;rw [h1]
  go_wp2
  go_ret
  exact ⟨by rw [HR.out]; rfl, B0⟩
 have c13 := inB_iff.1 h1;have H1 : Hid _ := h1
 by_cases h2 : c = 1 \/ n = 0
 ·by_cases h3 : n <= 6
  ·cases h4 : allB 999999999999 zs
   ·have h4' : okN (n : Int) 999999999999 n zs = false := by rw [okN_is rfl, h4]
    have HR : Hid _ := resText_no (c := c) (n := n) (zs := zs) (by simp [resOkB, h4])
    rcases h2 with rfl | rfl
    ·go_enter Tryz.func134, Tryz.ntmps134
     go_wp2_with fail
     refine (in_any).mono ?_;rintro e w1 ⟨rfl, rfl⟩;rw [h1]
     go_wp2_with fail
     refine (all_any zs _ _ (hC.below B0) hn).mono ?_;rintro e w1 ⟨rfl, rfl⟩;rw [h4']
     go_wp2
     go_ret
     exact ⟨by rw [HR.out]; rfl, B0⟩
    exfalso
    have : zs = [] := List.eq_nil_of_length_eq_zero HL.out;subst this
    cases h4
   have H4 : Hid (okN (n : Int) 999999999999 n zs = true) := by show _ = _; rw [okN_is rfl, h4]
   have HR : Hid _ := resText_yes (c := c) (n := n) (zs := zs) (by simp [resOkB, h1, h2, h3, h4]);have BZ : Hid (∀ i : Nat, -999999999999 <= zs[i]?.getD 0 /\ zs[i]?.getD 0 <= 999999999999) := allB_bnd' (by omega) h4;clear h1 h4
   by_cases e1 : c = 1
   ·subst e1;clear h2
    go_enter Tryz.func134, Tryz.ntmps134
    go_wp2_with fail
    refine (in_any).mono ?_;rintro e w1 ⟨rfl, rfl⟩;rw [H1.out]
    go_wp2_with fail
    refine (all_any zs _ _ (hC.below B0) hn).mono ?_;rintro e w1 ⟨rfl, rfl⟩;rw [H4.out];obtain ⟨W, hW⟩ : ∃ W, W = (w.alloc (.cells #[.int .i64 1, .slice a n cap] 55)).alloc (.cells #[.string ⟨#[]⟩, .string ⟨#[100, 111, 110, 101]⟩, .string ⟨#[115, 116, 111, 112, 112, 101, 100]⟩, .string ⟨#[111, 118, 101, 114]⟩] 9) := ⟨_, rfl⟩
    have bx : Cel W w.heap.size [.int .i64 1, .slice a n cap] 55 := by rw [hW]; exact (Cel.new w _ _).alloc _
    have wd : Cel W (w.heap.size + 1) [.string ⟨#[]⟩, .string ⟨#[100, 111, 110, 101]⟩, .string ⟨#[115, 116, 111, 112, 112, 101, 100]⟩, .string ⟨#[111, 118, 101, 114]⟩] 9 := by rw [hW]; have := Cel.new (w.alloc (.cells #[.int .i64 1, .slice a n cap] 55)) [.string ⟨#[]⟩, .string ⟨#[100, 111, 110, 101]⟩, .string ⟨#[115, 116, 111, 112, 112, 101, 100]⟩, .string ⟨#[111, 118, 101, 114]⟩] 9; rwa [qA] at this
    rw [<- hW] at B0 ⊢;clear hW;have k0 := bx.cell 0;have k1 := bx.cell 1;have k2 := wd.cell 1;simp only [qC, qD] at k0 k1 k2;have hW := hC.below B0;clear hC wd
    go_wp2_with fail
    go_loopw [4, 5] (fun s i wr => ∃ (k : Nat) (L : List UInt8), k <= n /\ i = .int .i64 k /\ s = .string ⟨L.toArray⟩ /\ L = wordL 1 ++ tailL (zs.take k) /\ L.length <= 7 + 22 * k /\ Below W.heap.size W wr) (fun _ i _ => n - (intOf i).toNat)
    case atStart => exact ⟨0, wordL 1, qH _, rfl, rfl, by simp [tail_nil], by decide, Below.refl _ _⟩
    case round =>
     obtain ⟨k, L, hk, rfl, rfl, hL, hlen, hb⟩ := hrel;have HLL : Hid _ := hL;clear hL;have hlen' : L.length <= 1000 := by omega
     have kk1 := (bx.below hb).cell 1;simp only [qC, qD] at kk1
     by_cases hlt : k < n
     ·obtain ⟨b, off, rfl, hcell⟩ := (hW.below hb).pos (by omega);have hck : wr.cell? ⟨b, off + k, none⟩ = some (.int .i64 (zs[k]?.getD 0)) := by rw [hcell k hlt]; simp
      have HT : Hid _ := tail_step (zs := zs) (k := k) (by rw [HL.out]; exact hlt);have hz := BZ.out k;generalize HG : zs[k]?.getD 0 = z at *;clear HG hcell;obtain ⟨z1, z2⟩ := hz;have hI := Lib.itoa_length_le z (by omega) (by omega);generalize HGI : Lib.itoa z = I at *;have HGI' : Hid _ := HGI;clear HGI
      go_wp2_with fail
      refine (digits_any z (by omega) (by omega)).mono ?_;rintro e w2 ⟨rfl, b2⟩;rw [HGI'.out]
      go_wp2
      go_roundw
      case rel => exact ⟨k + 1, L ++ [32] ++ I, by omega, by go_num, by rw [show (⟨#[32]⟩ : ByteArray) = ⟨[32].toArray⟩ from rfl, cat_str, cat_str], by rw [HT.out, HLL.out, List.append_assoc, List.append_assoc], by rw [qE, qE, List.length_cons, List.length_nil]; omega, btr hb b2⟩
      case measure => simp [intOf]; omega
     go_wp2
     go_ret
     exact ⟨by rw [HR.out, HLL.out, tail_end (by rw [HL.out]; omega)]; rfl, btr B0 hb⟩
   have hn0 : n <= 0 := by omega
   clear h2
   by_cases e2 : c = 2
   ·subst e2
    go_enter Tryz.func134, Tryz.ntmps134
    go_wp2_with fail
    refine (in_any).mono ?_;rintro e w1 ⟨rfl, rfl⟩;rw [H1.out]
    go_wp2_with fail
    refine (all_any zs _ _ (hC.below B0) hn).mono ?_;rintro e w1 ⟨rfl, rfl⟩;rw [H4.out];obtain ⟨W, hW⟩ : ∃ W, W = (w.alloc (.cells #[.int .i64 2, .slice a n cap] 55)).alloc (.cells #[.string ⟨#[]⟩, .string ⟨#[100, 111, 110, 101]⟩, .string ⟨#[115, 116, 111, 112, 112, 101, 100]⟩, .string ⟨#[111, 118, 101, 114]⟩] 9) := ⟨_, rfl⟩
    have bx : Cel W w.heap.size [.int .i64 2, .slice a n cap] 55 := by rw [hW]; exact (Cel.new w _ _).alloc _
    have wd : Cel W (w.heap.size + 1) [.string ⟨#[]⟩, .string ⟨#[100, 111, 110, 101]⟩, .string ⟨#[115, 116, 111, 112, 112, 101, 100]⟩, .string ⟨#[111, 118, 101, 114]⟩] 9 := by rw [hW]; have := Cel.new (w.alloc (.cells #[.int .i64 2, .slice a n cap] 55)) [.string ⟨#[]⟩, .string ⟨#[100, 111, 110, 101]⟩, .string ⟨#[115, 116, 111, 112, 112, 101, 100]⟩, .string ⟨#[111, 118, 101, 114]⟩] 9; rwa [qA] at this
    rw [<- hW] at B0 ⊢;clear hW;have k0 := bx.cell 0;have k1 := bx.cell 1;have k2 := wd.cell 2;simp only [qC, qD] at k0 k1 k2;have hW := hC.below B0;clear hC wd
    go_wp2_with fail
    go_loopw [4, 5] (fun s i wr => ∃ (k : Nat) (L : List UInt8), k <= n /\ i = .int .i64 k /\ s = .string ⟨L.toArray⟩ /\ L = wordL 2 ++ tailL (zs.take k) /\ L.length <= 7 + 22 * k /\ Below W.heap.size W wr) (fun _ i _ => n - (intOf i).toNat)
    case atStart => exact ⟨0, wordL 2, qH _, rfl, rfl, by simp [tail_nil], by decide, Below.refl _ _⟩
    case round =>
     obtain ⟨k, L, hk, rfl, rfl, hL, hlen, hb⟩ := hrel;have HLL : Hid _ := hL;clear hL;have hlen' : L.length <= 1000 := by omega
     have kk1 := (bx.below hb).cell 1;simp only [qC, qD] at kk1
     by_cases hlt : k < n
     ·exfalso; omega
     go_wp2
     go_ret
     exact ⟨by rw [HR.out, HLL.out, tail_end (by rw [HL.out]; omega)]; rfl, btr B0 hb⟩
   obtain rfl : c = 3 := by omega
   go_enter Tryz.func134, Tryz.ntmps134
   go_wp2_with fail
   refine (in_any).mono ?_;rintro e w1 ⟨rfl, rfl⟩;rw [H1.out]
   go_wp2_with fail
   refine (all_any zs _ _ (hC.below B0) hn).mono ?_;rintro e w1 ⟨rfl, rfl⟩;rw [H4.out];obtain ⟨W, hW⟩ : ∃ W, W = (w.alloc (.cells #[.int .i64 3, .slice a n cap] 55)).alloc (.cells #[.string ⟨#[]⟩, .string ⟨#[100, 111, 110, 101]⟩, .string ⟨#[115, 116, 111, 112, 112, 101, 100]⟩, .string ⟨#[111, 118, 101, 114]⟩] 9) := ⟨_, rfl⟩
   have bx : Cel W w.heap.size [.int .i64 3, .slice a n cap] 55 := by rw [hW]; exact (Cel.new w _ _).alloc _
   have wd : Cel W (w.heap.size + 1) [.string ⟨#[]⟩, .string ⟨#[100, 111, 110, 101]⟩, .string ⟨#[115, 116, 111, 112, 112, 101, 100]⟩, .string ⟨#[111, 118, 101, 114]⟩] 9 := by rw [hW]; have := Cel.new (w.alloc (.cells #[.int .i64 3, .slice a n cap] 55)) [.string ⟨#[]⟩, .string ⟨#[100, 111, 110, 101]⟩, .string ⟨#[115, 116, 111, 112, 112, 101, 100]⟩, .string ⟨#[111, 118, 101, 114]⟩] 9; rwa [qA] at this
   rw [<- hW] at B0 ⊢;clear hW;have k0 := bx.cell 0;have k1 := bx.cell 1;have k2 := wd.cell 3;simp only [qC, qD] at k0 k1 k2;have hW := hC.below B0;clear hC wd
   go_wp2_with fail
   go_loopw [4, 5] (fun s i wr => ∃ (k : Nat) (L : List UInt8), k <= n /\ i = .int .i64 k /\ s = .string ⟨L.toArray⟩ /\ L = wordL 3 ++ tailL (zs.take k) /\ L.length <= 7 + 22 * k /\ Below W.heap.size W wr) (fun _ i _ => n - (intOf i).toNat)
   case atStart => exact ⟨0, wordL 3, qH _, rfl, rfl, by simp [tail_nil], by decide, Below.refl _ _⟩
   case round =>
    obtain ⟨k, L, hk, rfl, rfl, hL, hlen, hb⟩ := hrel;have HLL : Hid _ := hL;clear hL;have hlen' : L.length <= 1000 := by omega
    have kk1 := (bx.below hb).cell 1;simp only [qC, qD] at kk1
    by_cases hlt : k < n
    ·exfalso; omega
    go_wp2
    go_ret
    exact ⟨by rw [HR.out, HLL.out, tail_end (by rw [HL.out]; omega)]; rfl, btr B0 hb⟩
  have HR : Hid _ := resText_no (c := c) (n := n) (zs := zs) (by simp [resOkB, h3]);obtain rfl : c = 1 := by omega
  go_enter Tryz.func134, Tryz.ntmps134
  go_wp2_with fail
  refine (in_any).mono ?_;rintro e w1 ⟨rfl, rfl⟩;rw [h1]
  go_wp2
  go_ret
  exact ⟨by rw [HR.out]; rfl, B0⟩
 have HR : Hid _ := resText_no (c := c) (n := n) (zs := zs) (by simp [resOkB, h2]);have hc1 : (c != 1) = true := by simp; omega
 have hn0 : (0 : Int) < n := by omega
 go_enter Tryz.func134, Tryz.ntmps134
 go_wp2_with fail
 refine (in_any).mono ?_;rintro e w1 ⟨rfl, rfl⟩;rw [h1]
 go_wp2
 go_ret
 exact ⟨by rw [HR.out]; rfl, B0⟩
def Tryz.lays156_ren : Go.Shelf.Ren := ⟨fun | 156 => 86 | 165 => 114 | 166 => 115 | 169 => 116 | 240 => 146 | 241 => 147 | 276 => 160 | 277 => 161 | n => n, fun | 31 => 133 | 9 => 9 | 3 => 3 | 4 => 4 | 0 => 0 | 20 => 20 | 72 => 169 | 76 => 173 | 70 => 166 | 37 => 167 | 75 => 172 | 127 => 202 | 164 => 212 | 5 => 5 | 80 => 131 | n => n, fun | n => n⟩
theorem Tryz.lays156 : Go.Proofs.Lays.n156 Tryz.prog Tryz.lays156_ren := {
 mixed := by kernel_rfl
 f156 := Tryz.func86.trans (congrArg some (by kernel_rfl))
 f165 := Tryz.func114.trans (congrArg some (by kernel_rfl))
 f166 := Tryz.func115.trans (congrArg some (by kernel_rfl))
 f169 := Tryz.func116.trans (congrArg some (by kernel_rfl))
 f240 := Tryz.func146.trans (congrArg some (by kernel_rfl))
 f241 := Tryz.func147.trans (congrArg some (by kernel_rfl))
 f276 := Tryz.func160.trans (congrArg some (by kernel_rfl))
 f277 := Tryz.func161.trans (congrArg some (by kernel_rfl))
 t0 := Tryz.underlying0
 a0 := Tryz.isAgg0
 z0 := Tryz.sizeOf0
 v0 := Tryz.zeroValue0
 t3 := Tryz.underlying3
 a3 := Tryz.isAgg3
 z3 := Tryz.sizeOf3
 v3 := Tryz.zeroValue3
 t4 := Tryz.underlying4
 a4 := Tryz.isAgg4
 z4 := Tryz.sizeOf4
 v4 := Tryz.zeroValue4
 t9 := Tryz.underlying9
 a9 := Tryz.isAgg9
 z9 := Tryz.sizeOf9
 v9 := Tryz.zeroValue9
 t20 := Tryz.underlying20
 a20 := Tryz.isAgg20
 z20 := Tryz.sizeOf20
 v20 := Tryz.zeroValue20
 t31 := Tryz.underlying133
 a31 := Tryz.isAgg133
 z31 := Tryz.sizeOf133
 v31 := Tryz.zeroValue133
 t37 := Tryz.underlying167
 a37 := Tryz.isAgg167
 z37 := Tryz.sizeOf167
 v37 := Tryz.zeroValue167
 t70 := Tryz.underlying166
 a70 := Tryz.isAgg166
 z70 := Tryz.sizeOf166
 v70 := Tryz.zeroValue166
 t72 := Tryz.underlying169
 a72 := Tryz.isAgg169
 z72 := Tryz.sizeOf169
 v72 := Tryz.zeroValue169
 t75 := Tryz.underlying172
 a75 := Tryz.isAgg172
 z75 := Tryz.sizeOf172
 v75 := Tryz.zeroValue172
 t76 := Tryz.underlying173
 a76 := Tryz.isAgg173
 z76 := Tryz.sizeOf173
 v76 := Tryz.zeroValue173
 t127 := Tryz.underlying202
 a127 := Tryz.isAgg202
 z127 := Tryz.sizeOf202
 v127 := Tryz.zeroValue202
 t164 := Tryz.underlying212
 a164 := Tryz.isAgg212
 z164 := Tryz.sizeOf212
 v164 := Tryz.zeroValue212 }
theorem Tryz.Builder_Extra_156 : Builder.Extra Tryz.prog Tryz.lays156_ren := {
 sizeBuilder := by kernel_rfl
 liesBuilder := by kernel_rfl
 t5 := Tryz.underlying5
 a5 := Tryz.isAgg5
 z5 := Tryz.sizeOf5
 v5 := Tryz.zeroValue5
 infoByte := by kernel_rfl
 cellsByte := by kernel_rfl
 sizeByte := by kernel_rfl
 neB5 := by decide }
open Go.RowKit in
theorem Tryz.strings_Join_none (a : Option Addr) (c : Nat) (sep : ByteArray) (w : World) :
  Calls Tryz.prog 86 #[.slice a 0 c, .string sep] w fun e w' => e = .returned (.string ⟨#[]⟩) /\ w' = w := Any.strings_Join_none Tryz.lays156 Tryz.Builder_Extra_156 a c sep w
open Go.RowKit in
theorem Tryz.strings_Join (bk o c : Nat) (xs : List ByteArray) (sep : ByteArray) (w : World) (hcells : ∀ (j : Nat) x, xs[j]? = some x -> w.cell? ⟨bk, o + j, none⟩ = some (.string x)) (hbk : bk < w.heap.size) (hN : xs.length <= 140737488355328) (hcap : xs.length <= c) (hlen : (Lib.join (xs.map (·.data.toList)) sep.data.toList).length <= 140737488355328) :
  Calls Tryz.prog 86 #[.slice (some ⟨bk, o, none⟩) xs.length c, .string sep] w fun e w' => e = .returned (.string ⟨(Lib.join (xs.map (·.data.toList)) sep.data.toList).toArray⟩) /\ Below w.heap.size w w' := Any.strings_Join Tryz.lays156 Tryz.Builder_Extra_156 bk o c xs sep w hcells hbk hN hcap hlen
def Tryz.laysM171_ren : Go.Shelf.Ren := ⟨fun | 171 => 113 | 243 => 145 | 246 => 159 | 283 => 173 | 284 => 174 | 285 => 175 | 286 => 176 | 129 => 188 | 317 => 187 | 318 => 189 | 319 => 190 | 320 => 191 | 337 => 193 | 338 => 194 | n => n, fun | 3 => 3 | 9 => 9 | 2 => 2 | 4 => 4 | 171 => 226 | 0 => 0 | 53 => 227 | 37 => 167 | 5 => 5 | 173 => 230 | 212 => 239 | 51 => 240 | 20 => 20 | 213 => 241 | 46 => 242 | 232 => 247 | 233 => 248 | n => n, fun | 17 => 1 | 18 => 2 | 19 => 3 | n => n⟩
theorem Tryz.laysM171 : Go.Proofs.LaysM.n171 Tryz.prog Tryz.laysM171_ren := {
 mixed := by kernel_rfl
 f129 := Tryz.func188.trans (congrArg some (by kernel_rfl))
 f171 := Tryz.func113.trans (congrArg some (by kernel_rfl))
 f243 := Tryz.func145.trans (congrArg some (by kernel_rfl))
 f246 := Tryz.func159.trans (congrArg some (by kernel_rfl))
 f283 := Tryz.func173.trans (congrArg some (by kernel_rfl))
 f284 := Tryz.func174.trans (congrArg some (by kernel_rfl))
 f285 := Tryz.func175.trans (congrArg some (by kernel_rfl))
 f286 := Tryz.func176.trans (congrArg some (by kernel_rfl))
 f317 := Tryz.func187.trans (congrArg some (by kernel_rfl))
 f318 := Tryz.func189.trans (congrArg some (by kernel_rfl))
 f319 := Tryz.func190.trans (congrArg some (by kernel_rfl))
 f320 := Tryz.func191.trans (congrArg some (by kernel_rfl))
 f337 := Tryz.func193.trans (congrArg some (by kernel_rfl))
 f338 := Tryz.func194.trans (congrArg some (by kernel_rfl))
 t0 := Tryz.underlying0
 a0 := Tryz.isAgg0
 z0 := Tryz.sizeOf0
 v0 := Tryz.zeroValue0
 t2 := Tryz.underlying2
 a2 := Tryz.isAgg2
 z2 := Tryz.sizeOf2
 v2 := Tryz.zeroValue2
 t3 := Tryz.underlying3
 a3 := Tryz.isAgg3
 z3 := Tryz.sizeOf3
 v3 := Tryz.zeroValue3
 t4 := Tryz.underlying4
 a4 := Tryz.isAgg4
 z4 := Tryz.sizeOf4
 v4 := Tryz.zeroValue4
 t5 := Tryz.underlying5
 a5 := Tryz.isAgg5
 z5 := Tryz.sizeOf5
 v5 := Tryz.zeroValue5
 t9 := Tryz.underlying9
 a9 := Tryz.isAgg9
 z9 := Tryz.sizeOf9
 v9 := Tryz.zeroValue9
 t20 := Tryz.underlying20
 a20 := Tryz.isAgg20
 z20 := Tryz.sizeOf20
 v20 := Tryz.zeroValue20
 t37 := Tryz.underlying167
 a37 := Tryz.isAgg167
 z37 := Tryz.sizeOf167
 v37 := Tryz.zeroValue167
 t46 := Tryz.underlying242
 a46 := Tryz.isAgg242
 z46 := Tryz.sizeOf242
 v46 := Tryz.zeroValue242
 t51 := Tryz.underlying240
 a51 := Tryz.isAgg240
 z51 := Tryz.sizeOf240
 v51 := Tryz.zeroValue240
 t53 := Tryz.underlying227
 a53 := Tryz.isAgg227
 z53 := Tryz.sizeOf227
 v53 := Tryz.zeroValue227
 t171 := Tryz.underlying226
 a171 := Tryz.isAgg226
 z171 := Tryz.sizeOf226
 v171 := Tryz.zeroValue226
 t173 := Tryz.underlying230
 a173 := Tryz.isAgg230
 z173 := Tryz.sizeOf230
 v173 := Tryz.zeroValue230
 t212 := Tryz.underlying239
 a212 := Tryz.isAgg239
 z212 := Tryz.sizeOf239
 v212 := Tryz.zeroValue239
 t213 := Tryz.underlying241
 a213 := Tryz.isAgg241
 z213 := Tryz.sizeOf241
 t232 := Tryz.underlying247
 a232 := Tryz.isAgg247
 z232 := Tryz.sizeOf247
 v232 := Tryz.zeroValue247
 t233 := Tryz.underlying248
 a233 := Tryz.isAgg248
 z233 := Tryz.sizeOf248
 v233 := Tryz.zeroValue248
 g17 := by kernel_rfl
 g18 := by kernel_rfl
 g19 := by kernel_rfl
 i0 := by kernel_rfl
 i2 := by kernel_rfl
 i3 := by kernel_rfl
 i4 := by kernel_rfl
 i5 := by kernel_rfl
 i9 := by kernel_rfl
 i20 := by kernel_rfl
 i37 := by kernel_rfl
 i46 := by kernel_rfl
 i51 := by kernel_rfl
 i53 := by kernel_rfl
 i171 := by kernel_rfl
 i173 := by kernel_rfl
 i212 := by kernel_rfl
 i232 := by kernel_rfl
 i233 := by kernel_rfl
 m17 := by kernel_rfl
 m18 := by kernel_rfl
 m19 := by kernel_rfl }
open Go.RowKit Go.Sort Go.Lib in
theorem Tryz.strconv_Itoa (n : Int) (h0 : -9223372036854775808 <= n) (h1 : n <= 9223372036854775807) (w : World) (htab : Lib.TabIs Tryz.prog w "internal/strconv.uint64pow10" .u64 Lib.pow10Tab) :
  Calls Tryz.prog 113 #[.int .i64 n] w fun e w' => e = .returned (.string ⟨(Lib.itoa n).toArray⟩) /\ ∃ k os, w' = grow (w.drewN k) os := Any.strconv_Itoa Tryz.laysM171 n h0 h1 w htab
structure JT (w : World) (v : Value) (xs : List ByteArray) (W : World) : Prop where
 b : Below w.heap.size w W
 o : W.ownsRow w.heap.size 9 1 v xs.length (xs.map Value.string)
theorem JT.one (w : World) (x : ByteArray) : JT w (.slice (some ⟨w.heap.size, 0, none⟩) 1 1) [x] (w.alloc (.cells #[.string x] 9)) :=
 ⟨bal, World.ownsRow_lit w #[.string x] 1 (qG _) (by unfold maxLen; omega) rfl⟩
theorem JT.alloc (j : JT w v xs W) (o : Obj) : JT w v xs (W.alloc o) := ⟨j.b.alloc j.b.size _, j.o.alloc o⟩
theorem JT.below {W' : World} (j : JT w v xs W) (h : Below W.heap.size W W') : JT w v xs W' := by
 refine ⟨j.b.trans (h.mono j.b.size), j.o.1, ?_⟩
 rcases j.o.2 with h2 | ⟨g, cap, cur, hv, hg, hh, r⟩
 ·exact Or.inl h2
 exact Or.inr ⟨g, cap, cur, hv, hg, by rw [h.block g (lt_of_block hh)]; exact hh, r⟩
theorem JT.app {W' : World} {y : ByteArray} {g : Nat} {o : Obj} (j : JT w v xs W) (hk : xs.length = k) (hown : W'.ownsRow w.heap.size 9 1 (.slice (some ⟨g, 0, none⟩) (k + 1) cap) (k + 1) (xs.map Value.string ++ [.string y])) (hg : (W.alloc o).grownBy W' v.ownBlock) :
  JT w (.slice (some ⟨g, 0, none⟩) (k + 1) cap) (xs ++ [y]) W' := by
 refine ⟨(j.alloc o).b.grown hg (j.alloc o).b.size (fun k hk => ((j.alloc o).o.lt k hk).1), ?_⟩;rw [qE, hk, List.map_append]
 exact hown
theorem JT.cells (j : JT w v xs W) (hk : xs.length = k) (h0 : 0 < k) : ∃ g cap, v = .slice (some ⟨g, 0, none⟩) k cap /\ k <= cap /\ g < W.heap.size /\ ∀ (i : Nat) x, xs[i]? = some x -> W.cell? ⟨g, 0 + i, none⟩ = some (.string x) := by
 subst hk
 rcases j.o.2 with ⟨hv, h⟩ | ⟨g, cap', cur, rfl, hg, hh, hl, _, _⟩
 ·omega
 refine ⟨g, cap', rfl, hl, lt_of_block hh, fun i x hx => ?_⟩;have hi := (List.getElem?_eq_some_iff.1 hx).1;have := j.o.cellAt i (by omega);rw [Nat.zero_add, this];simp [hx]
theorem newsS {x : Value} {t : TypeId} : ∀ j u, [x][j]? = some u -> (w.alloc (.cells #[x] t)).cell? ((⟨w.heap.size, 0, none⟩ : Addr).add j) = some u := fun j u hu => by
 match j, hu with
 | 0, hu =>
  simp only [qC, Option.some.injEq] at hu;subst hu;simp [Addr.add]
theorem oneS {x : ByteArray} : ∀ u ∈ [Value.string x], u.oneCell' = true := fun u hu => by
 simp at hu; subst hu; rfl
theorem Tryz.infoStr : (Tryz.prog.info? 9).map (fun i => (i.zero, i.size, i.bytes)) = some (some (.string ⟨#[]⟩), 1, 16) := by kernel_rfl
theorem word_any : Calls Tryz.prog 158 #[.int .i64 c] w fun e w' => e = .returned (.string ⟨(wordL c).toArray⟩) /\ w' = w := by
 by_cases h1 : c = 1
 ·subst h1
  go_enter Tryz.func158, Tryz.ntmps158
  go_wp2
  go_ret
  exact ⟨rfl, rfl⟩
 have h1' : (c == 1) = false := by simp [h1]
 by_cases h2 : c = 2
 ·subst h2
  go_enter Tryz.func158, Tryz.ntmps158
  go_wp2
  go_ret
  exact ⟨rfl, rfl⟩
 have h2' : (c == 2) = false := by simp [h2]
 by_cases h3 : c = 3
 ·subst h3
  go_enter Tryz.func158, Tryz.ntmps158
  go_wp2
  go_ret
  exact ⟨rfl, rfl⟩
 have h3' : (c == 3) = false := by simp [h3]
 have e : wordL c = [] := by rw [wordL, if_neg h1, if_neg h2, if_neg h3]
 rw [e]
 go_enter Tryz.func158, Tryz.ntmps158
 go_wp2
 go_ret
 exact ⟨rfl, rfl⟩
theorem tail_len (hb : ∀ i : Nat, -999999999999 <= zs[i]?.getD 0 /\ zs[i]?.getD 0 <= 999999999999) : ∀ k, k <= zs.length -> (tailL (zs.take k)).length <= 22 * k
 | 0, _ => by simp [tailL, Lib.joinTail]
 | k + 1, h => by
  have ih := tail_len hb k (by omega);have hz := hb k;have := Lib.itoa_length_le (zs[k]?.getD 0) (by omega) (by omega);rw [tail_step (by omega), qE, qE];simp only [List.length_cons, List.length_nil]
  omega
def wordsT (l : List UInt8) (zs : List Int) : List ByteArray := ⟨l.toArray⟩ :: zs.map fun z => ⟨(Lib.itoa z).toArray⟩
theorem wordsT_join (l : List UInt8) (zs : List Int) : Lib.join ((wordsT l zs).map (·.data.toList)) [32] = l ++ tailL zs := by
 rw [wordsT, List.map_cons, Lib.join_cons, tailL, List.map_map]
 rfl
theorem wordsT_step {l : List UInt8} (h : k < zs.length) : wordsT l (zs.take (k + 1)) = wordsT l (zs.take k) ++ [⟨(Lib.itoa (zs[k]?.getD 0)).toArray⟩] := by
 rw [wordsT, wordsT, List.take_succ_eq_append_getElem h, qB h, List.map_append]
 rfl
theorem itwn_any (l : List UInt8) (a : Option Addr) (n cap : Nat) (zs : List Int) (w : World) (hC : Ints w a n zs) (hn : n <= 1000) (hl : l.length <= 1000) (hz : ∀ i : Nat, -999999999999 <= zs[i]?.getD 0 /\ zs[i]?.getD 0 <= 999999999999) (hT : Lib.TabBelow Tryz.prog w.heap.size w "internal/strconv.uint64pow10" .u64 Lib.pow10Tab) :
  Calls Tryz.prog 85 #[.string ⟨l.toArray⟩, .slice a n cap] w fun e w' => e = .returned (.string ⟨(l ++ tailL zs).toArray⟩) /\ Below w.heap.size w w' := by
 have HL : Hid (zs.length = n) := hC.1;have HTB : Hid _ := hT;have BZ : Hid (∀ i : Nat, -999999999999 <= zs[i]?.getD 0 /\ zs[i]?.getD 0 <= 999999999999) := hz;have HLL : Hid (l.length <= 1000) := hl;clear hT hz hl;obtain ⟨i0, hi, hz0, hz1, hz2⟩ := info_parts Tryz.infoStr;obtain ⟨S, hS⟩ : ∃ S : ByteArray, S = ⟨l.toArray⟩ := ⟨_, rfl⟩
 have HS0 : Hid (S = ⟨l.toArray⟩) := hS;rw [<- hS];clear hS
 go_enter Tryz.func85, Tryz.ntmps85
 go_wp2_with fail
 go_loopw [5, 7, 12] (fun v _ i wr => ∃ (k : Nat) (xs : List ByteArray), k <= n /\ i = .int .i64 k /\ xs.length = k + 1 /\ xs = wordsT l (zs.take k) /\ JT w v xs wr) (fun _ _ i _ => n - (intOf i).toNat)
 case atStart => exact ⟨0, _, qH _, rfl, rfl, by rw [HS0.out]; rfl, JT.one w S⟩
 case round =>
  obtain ⟨k, xs, hk, rfl, hxl, hxs, j⟩ := hrel;have HXL : Hid _ := hxl;have HXS : Hid _ := hxs;clear hxl hxs;have hjb := j.b.size
  by_cases hlt : k < n
  ·obtain ⟨b, off, rfl, hcell⟩ := (hC.below j.b).pos (by omega);have hck : wr.cell? ⟨b, off + k, none⟩ = some (.int .i64 (zs[k]?.getD 0)) := by rw [hcell k hlt]; simp
   have HS : Hid _ := wordsT_step (l := l) (zs := zs) (k := k) (by rw [HL.out]; exact hlt);have hz := BZ.out k;generalize HG : zs[k]?.getD 0 = z at hck HS hz;clear HG hcell;obtain ⟨z1, z2⟩ := hz;have tab : Lib.TabIs Tryz.prog wr "internal/strconv.uint64pow10" .u64 Lib.pow10Tab := HTB.out wr j.b
   go_wp2_with fail
   refine (Tryz.strconv_Itoa z (by omega) (by omega) _ tab).mono ?_;rintro e w2 ⟨rfl, q, os, hw2⟩;have b2 : Below wr.heap.size wr w2 := by rw [hw2]; exact Lib.below_grow _ _ (qG _) _ _
   clear hw2 tab;have j2 := j.below b2;have jo := j2.o;rw [HXL.out] at jo;have hjb2 := j2.b.size;clear b2 j;obtain ⟨I, hI⟩ : ∃ I : ByteArray, I = ⟨(Lib.itoa z).toArray⟩ := ⟨_, rfl⟩
   rw [<- hI];have HI : Hid _ := hI;clear hI
   go_wp2_with (at_builtin; go_must (refine wpList_append_lies _ rfl (.tmp 16) (.tmp 19) 133 rfl w.heap.size 9 i0 (.string ⟨#[]⟩) 1 16 Tryz.underlying133 hi hz0 hz1 hz2 rfl (by decide) _ _ _ rfl (jo.alloc _) ⟨w2.heap.size, 0, none⟩ 1 1 [.string I] rfl rfl (newsS) (oneS) (by omega) (by unfold maxLen; omega) (by omega) (by rw [qA]; omega) _ rfl ?_); intro g cp w3 hown hgrow hat hlt1)
   have j3 := j2.app HXL.out hown hgrow;clear hown hgrow jo j2 hat
   go_wp2
   go_roundw
   case rel => exact ⟨k + 1, _, by omega, by go_num, by rw [qE, HXL.out]; rfl, by rw [HS.out, HXS.out, HI.out], j3⟩
   case measure => simp [intOf]; omega
  obtain rfl : k = n := by omega
  obtain ⟨g, gc, rfl, hcap, hg, hcs⟩ := j.cells HXL.out (by omega)
  have HJ := Tryz.strings_Join g 0 gc xs ⟨#[32]⟩ wr hcs hg (by rw [HXL.out]; omega) (by rw [HXL.out]; exact hcap) (by
   rw [HXS.out, qF (by rw [HL.out]; exact qG _)];have := wordsT_join l zs;rw [show (⟨#[32]⟩ : ByteArray).data.toList = [32] from rfl, this, qE];have := tail_len BZ.out zs.length (qG _);rw [List.take_length] at this;have := HLL.out;have := HL.out
   omega)
  rw [HXL.out] at HJ;have jb := j.b;clear hcs hcap hg j
  go_wp2_with fail
  refine HJ.mono ?_;rintro e w2 ⟨rfl, b2⟩;have B2 := jb.trans (b2.mono (by omega))
  go_wp2
  go_ret
  refine ⟨?_, B2⟩;rw [<- wordsT_join l zs, HXS.out, qF (by rw [HL.out]; exact qG _)]
  rfl
theorem itext_any {a : Option Addr} (zs : List Int) {w : World} (hC : Ints w a n zs) (hn : n <= 1048576) (hT : Lib.TabBelow Tryz.prog w.heap.size w "internal/strconv.uint64pow10" .u64 Lib.pow10Tab) :
  Calls Tryz.prog 144 #[resP c a n cap] w fun e w' => e = .returned (.string ⟨(resText c n zs).toArray⟩) /\ Below w.heap.size w w' := by
 have HL : Hid (zs.length = n) := hC.1;have HTB : Hid _ := hT;clear hT;have B0 := (Below.refl w.heap.size w).alloc (qG _) (.cells #[.int .i64 c, .slice a n cap] 55);obtain ⟨i0, hi, hz0, hz1, hz2⟩ := info_parts Tryz.infoStr
 cases h1 : inB c 1 3
 ·have HR : Hid _ := resText_no (c := c) (n := n) (zs := zs) (by simp [resOkB, h1]);have c13 := inB_not.1 h1;have hw : (⟨(wordL c).toArray⟩ : ByteArray) = ⟨#[]⟩ := by rw [wordL, if_neg (by omega), if_neg (by omega), if_neg (by omega)]
  have HW : Hid _ := hw;clear hw h1
  go_enter Tryz.func144, Tryz.ntmps144
  go_wp2_with fail
  refine (word_any).mono ?_;rintro e w1 ⟨rfl, rfl⟩;rw [HW.out]
  go_wp2
  go_ret
  exact ⟨by rw [HR.out]; rfl, B0⟩
 have c13 := inB_iff.1 h1
 by_cases h2 : c = 1 \/ n = 0
 ·by_cases h3 : n <= 6
  ·cases h4 : allB 999999999999 zs
   ·have HR : Hid _ := resText_no (c := c) (n := n) (zs := zs) (by simp [resOkB, h4])
    rcases h2 with rfl | rfl
    ·go_enter Tryz.func144, Tryz.ntmps144
     go_wp2_with fail
     refine (word_any).mono ?_;rintro e w1 ⟨rfl, rfl⟩;rw [show (⟨(wordL 1).toArray⟩ : ByteArray) = ⟨#[100, 111, 110, 101]⟩ from rfl]
     go_wp2_with fail
     refine (within_any _ _ _ zs (hC.below B0) hn).mono ?_;rintro e w1 ⟨rfl, rfl⟩;rw [h4]
     go_wp2
     go_ret
     exact ⟨by rw [HR.out]; rfl, B0⟩
    exfalso
    have : zs = [] := List.eq_nil_of_length_eq_zero HL.out;subst this
    cases h4
   have H4 : Hid (allB 999999999999 zs = true) := h4;have HR : Hid _ := resText_yes (c := c) (n := n) (zs := zs) (by simp [resOkB, h1, h2, h3, h4]);have BZ : Hid (∀ i : Nat, -999999999999 <= zs[i]?.getD 0 /\ zs[i]?.getD 0 <= 999999999999) := allB_bnd' (by omega) h4;clear h1 h4
   by_cases e1 : c = 1
   ·subst e1;clear h2
    go_enter Tryz.func144, Tryz.ntmps144
    go_wp2_with fail
    refine (word_any).mono ?_;rintro e w1 ⟨rfl, rfl⟩;rw [show (⟨(wordL 1).toArray⟩ : ByteArray) = ⟨#[100, 111, 110, 101]⟩ from rfl]
    go_wp2_with fail
    refine (within_any _ _ _ zs (hC.below B0) hn).mono ?_;rintro e w1 ⟨rfl, rfl⟩;rw [H4.out];obtain ⟨W, hW⟩ : ∃ W, W = w.alloc (.cells #[.int .i64 1, .slice a n cap] 55) := ⟨_, rfl⟩
    have bx : Cel W w.heap.size [.int .i64 1, .slice a n cap] 55 := by rw [hW]; exact Cel.new w _ _
    rw [<- hW] at B0 ⊢;clear hW;have k1 := bx.cell 1;simp only [qC, qD] at k1;have hCW := hC.below B0;clear hC
    go_wp2_with fail
    refine (itwn_any (wordL 1) a n cap zs W hCW (by omega) (by have := word_len 1; omega) BZ.out (fun X hX => HTB.out X (btr B0 hX))).mono ?_;rintro e w2 ⟨rfl, b2⟩;have B2 := btr B0 b2;obtain ⟨Z, hZ⟩ : ∃ Z : ByteArray, Z = ⟨(wordL 1 ++ tailL zs).toArray⟩ := ⟨_, rfl⟩
    have HZ : Hid (Z = ⟨(wordL 1 ++ tailL zs).toArray⟩) := hZ;rw [<- hZ];clear hZ k1 bx hCW
    go_wp2
    go_ret
    exact ⟨by rw [HR.out, HZ.out]; rfl, B2⟩
   have hn0 : n <= 0 := by omega
   have hn0' : ((n : Int) == 0) = true := by simp; omega
   clear h2
   by_cases e2 : c = 2
   ·subst e2
    go_enter Tryz.func144, Tryz.ntmps144
    go_wp2_with fail
    refine (word_any).mono ?_;rintro e w1 ⟨rfl, rfl⟩;rw [show (⟨(wordL 2).toArray⟩ : ByteArray) = ⟨#[115, 116, 111, 112, 112, 101, 100]⟩ from rfl]
    go_wp2_with fail
    refine (within_any _ _ _ zs (hC.below B0) hn).mono ?_;rintro e w1 ⟨rfl, rfl⟩;rw [H4.out];obtain ⟨W, hW⟩ : ∃ W, W = w.alloc (.cells #[.int .i64 2, .slice a n cap] 55) := ⟨_, rfl⟩
    have bx : Cel W w.heap.size [.int .i64 2, .slice a n cap] 55 := by rw [hW]; exact Cel.new w _ _
    rw [<- hW] at B0 ⊢;clear hW;have k1 := bx.cell 1;simp only [qC, qD] at k1;have hCW := hC.below B0;clear hC
    go_wp2_with fail
    refine (itwn_any (wordL 2) a n cap zs W hCW (by omega) (by have := word_len 2; omega) BZ.out (fun X hX => HTB.out X (btr B0 hX))).mono ?_;rintro e w2 ⟨rfl, b2⟩;have B2 := btr B0 b2;obtain ⟨Z, hZ⟩ : ∃ Z : ByteArray, Z = ⟨(wordL 2 ++ tailL zs).toArray⟩ := ⟨_, rfl⟩
    have HZ : Hid (Z = ⟨(wordL 2 ++ tailL zs).toArray⟩) := hZ;rw [<- hZ];clear hZ k1 bx hCW
    go_wp2
    go_ret
    exact ⟨by rw [HR.out, HZ.out]; rfl, B2⟩
   obtain rfl : c = 3 := by omega
   go_enter Tryz.func144, Tryz.ntmps144
   go_wp2_with fail
   refine (word_any).mono ?_;rintro e w1 ⟨rfl, rfl⟩;rw [show (⟨(wordL 3).toArray⟩ : ByteArray) = ⟨#[111, 118, 101, 114]⟩ from rfl]
   go_wp2_with fail
   refine (within_any _ _ _ zs (hC.below B0) hn).mono ?_;rintro e w1 ⟨rfl, rfl⟩;rw [H4.out];obtain ⟨W, hW⟩ : ∃ W, W = w.alloc (.cells #[.int .i64 3, .slice a n cap] 55) := ⟨_, rfl⟩
   have bx : Cel W w.heap.size [.int .i64 3, .slice a n cap] 55 := by rw [hW]; exact Cel.new w _ _
   rw [<- hW] at B0 ⊢;clear hW;have k1 := bx.cell 1;simp only [qC, qD] at k1;have hCW := hC.below B0;clear hC
   go_wp2_with fail
   refine (itwn_any (wordL 3) a n cap zs W hCW (by omega) (by have := word_len 3; omega) BZ.out (fun X hX => HTB.out X (btr B0 hX))).mono ?_;rintro e w2 ⟨rfl, b2⟩;have B2 := btr B0 b2;obtain ⟨Z, hZ⟩ : ∃ Z : ByteArray, Z = ⟨(wordL 3 ++ tailL zs).toArray⟩ := ⟨_, rfl⟩
   have HZ : Hid (Z = ⟨(wordL 3 ++ tailL zs).toArray⟩) := hZ;rw [<- hZ];clear hZ k1 bx hCW
   go_wp2
   go_ret
   exact ⟨by rw [HR.out, HZ.out]; rfl, B2⟩
  have HR : Hid _ := resText_no (c := c) (n := n) (zs := zs) (by simp [resOkB, h3]);obtain rfl : c = 1 := by omega
  go_enter Tryz.func144, Tryz.ntmps144
  go_wp2_with fail
  refine (word_any).mono ?_;rintro e w1 ⟨rfl, rfl⟩;rw [show (⟨(wordL 1).toArray⟩ : ByteArray) = ⟨#[100, 111, 110, 101]⟩ from rfl]
  go_wp2
  go_ret
  exact ⟨by rw [HR.out]; rfl, B0⟩
 have HR : Hid _ := resText_no (c := c) (n := n) (zs := zs) (by simp [resOkB, h2]);have hn0 : ((n : Int) == 0) = false := by simp; omega
 clear h1
 by_cases e2 : c = 2
 ·subst e2
  go_enter Tryz.func144, Tryz.ntmps144
  go_wp2_with fail
  refine (word_any).mono ?_;rintro e w1 ⟨rfl, rfl⟩;rw [show (⟨(wordL 2).toArray⟩ : ByteArray) = ⟨#[115, 116, 111, 112, 112, 101, 100]⟩ from rfl]
  go_wp2
  go_ret
  exact ⟨by rw [HR.out]; rfl, B0⟩
 obtain rfl : c = 3 := by omega
 go_enter Tryz.func144, Tryz.ntmps144
 go_wp2_with fail
 refine (word_any).mono ?_;rintro e w1 ⟨rfl, rfl⟩;rw [show (⟨(wordL 3).toArray⟩ : ByteArray) = ⟨#[111, 118, 101, 114]⟩ from rfl]
 go_wp2
 go_ret
 exact ⟨by rw [HR.out]; rfl, B0⟩
end Go.Proofs.YtfmpcihghlnlnaaGreatDoor
