/-
  Lemmas that the claim's last text rests on.
-/
import Derived.Shelf.Strings.OnBuilder
import Derived.Shelf.LaysM
import Derived.Shelf.Strconv.Itoa3
import Derived.Test.YtpmihhbgjimpmaaGreatDoorProg
import Derived.Lib.AppendIntMem
import Derived.Test.YtpmihhbgjimpmaaGreatDoorNxS
namespace Go.Proofs.YtpmihhbgjimpmaaGreatDoor
open Go.Shelf Go.RowKit Go.Deep Go.ChangeShapes Go.WideShapes Go.ChangeAt Go.Joins
open World renaming size_alloc → qA
open List renaming setIfInBounds_toArray → qB, set_cons_zero → qC, set_cons_succ → qD, getElem?_eq_getElem → qE, getElem_cons_zero → qF, getElem_cons_succ → qG, getElem?_cons_zero → qH, getElem?_cons_succ → qI, getElem_toArray → qJ, length_append → qK, take_of_length_le → qL
open Nat renaming le_refl → qM
set_option linter.unusedVariables false
set_option maxRecDepth 100000
set_option maxHeartbeats 25600000
variable {N cap dn gn k n sn : Nat} {W w w' : World} {a ad da ga : Option Addr} {c cl : Int} {fs : List DV} {t : TypeId} {v x : Value} {xs : List ByteArray} {zs : List Int}
def Tryz.lays156_ren : Go.Shelf.Ren := ⟨fun | 156 => 163 | 165 => 177 | 166 => 178 | 169 => 179 | 240 => 188 | 241 => 189 | 276 => 200 | 277 => 201 | n => n, fun | 31 => 227 | 9 => 9 | 3 => 3 | 4 => 4 | 0 => 0 | 20 => 20 | 72 => 241 | 76 => 245 | 70 => 239 | 37 => 22 | 75 => 244 | 127 => 251 | 164 => 259 | 5 => 5 | 80 => 225 | n => n, fun | n => n⟩
theorem Tryz.lays156 : Go.Proofs.Lays.n156 Tryz.prog Tryz.lays156_ren := {
 mixed := by kernel_rfl
 f156 := Tryz.func163.trans (congrArg some (by kernel_rfl))
 f165 := Tryz.func177.trans (congrArg some (by kernel_rfl))
 f166 := Tryz.func178.trans (congrArg some (by kernel_rfl))
 f169 := Tryz.func179.trans (congrArg some (by kernel_rfl))
 f240 := Tryz.func188.trans (congrArg some (by kernel_rfl))
 f241 := Tryz.func189.trans (congrArg some (by kernel_rfl))
 f276 := Tryz.func200.trans (congrArg some (by kernel_rfl))
 f277 := Tryz.func201.trans (congrArg some (by kernel_rfl))
 t0 := Tryz.underlying0
 a0 := Tryz.isAgg0
 z0 := Tryz.sizeOf0
 v0 := Tryz.zeroValue0
 t3 := Tryz.underlying3
 a3 := Tryz.isAgg3
 z3 := Tryz.sizeOf3
 v3 := Tryz.zeroValue3
 t4 := Tryz.underlying4
 a4 := Tryz.isAgg4
 z4 := Tryz.sizeOf4
 v4 := Tryz.zeroValue4
 t9 := Tryz.underlying9
 a9 := Tryz.isAgg9
 z9 := Tryz.sizeOf9
 v9 := Tryz.zeroValue9
 t20 := Tryz.underlying20
 a20 := Tryz.isAgg20
 z20 := Tryz.sizeOf20
 v20 := Tryz.zeroValue20
 t31 := Tryz.underlying227
 a31 := Tryz.isAgg227
 z31 := Tryz.sizeOf227
 v31 := Tryz.zeroValue227
 t37 := Tryz.underlying22
 a37 := Tryz.isAgg22
 z37 := Tryz.sizeOf22
 v37 := Tryz.zeroValue22
 t70 := Tryz.underlying239
 a70 := Tryz.isAgg239
 z70 := Tryz.sizeOf239
 v70 := Tryz.zeroValue239
 t72 := Tryz.underlying241
 a72 := Tryz.isAgg241
 z72 := Tryz.sizeOf241
 v72 := Tryz.zeroValue241
 t75 := Tryz.underlying244
 a75 := Tryz.isAgg244
 z75 := Tryz.sizeOf244
 v75 := Tryz.zeroValue244
 t76 := Tryz.underlying245
 a76 := Tryz.isAgg245
 z76 := Tryz.sizeOf245
 v76 := Tryz.zeroValue245
 t127 := Tryz.underlying251
 a127 := Tryz.isAgg251
 z127 := Tryz.sizeOf251
 v127 := Tryz.zeroValue251
 t164 := Tryz.underlying259
 a164 := Tryz.isAgg259
 z164 := Tryz.sizeOf259
 v164 := Tryz.zeroValue259 }
theorem Tryz.Builder_Extra_156 : Builder.Extra Tryz.prog Tryz.lays156_ren := {
 sizeBuilder := by kernel_rfl
 liesBuilder := by kernel_rfl
 t5 := Tryz.underlying5
 a5 := Tryz.isAgg5
 z5 := Tryz.sizeOf5
 v5 := Tryz.zeroValue5
 infoByte := by kernel_rfl
 cellsByte := by kernel_rfl
 sizeByte := by kernel_rfl
 neB5 := by decide }
open Go.RowKit in
theorem Tryz.strings_Join_none (a : Option Addr) (c : Nat) (sep : ByteArray) (w : World) :
  Calls Tryz.prog 163 #[.slice a 0 c, .string sep] w fun e w' => e = .returned (.string ⟨#[]⟩) /\ w' = w := Any.strings_Join_none Tryz.lays156 Tryz.Builder_Extra_156 a c sep w
open Go.RowKit in
theorem Tryz.strings_Join (bk o c : Nat) (xs : List ByteArray) (sep : ByteArray) (w : World) (hcells : ∀ (j : Nat) x, xs[j]? = some x -> w.cell? ⟨bk, o + j, none⟩ = some (.string x)) (hbk : bk < w.heap.size) (hN : xs.length <= 140737488355328) (hcap : xs.length <= c) (hlen : (Lib.join (xs.map (·.data.toList)) sep.data.toList).length <= 140737488355328) :
  Calls Tryz.prog 163 #[.slice (some ⟨bk, o, none⟩) xs.length c, .string sep] w fun e w' => e = .returned (.string ⟨(Lib.join (xs.map (·.data.toList)) sep.data.toList).toArray⟩) /\ Below w.heap.size w w' := Any.strings_Join Tryz.lays156 Tryz.Builder_Extra_156 bk o c xs sep w hcells hbk hN hcap hlen
def Tryz.laysM171_ren : Go.Shelf.Ren := ⟨fun | 171 => 176 | 243 => 187 | 246 => 199 | 283 => 203 | 284 => 204 | 285 => 205 | 286 => 206 | 129 => 208 | 317 => 207 | 318 => 209 | 319 => 210 | 320 => 211 | 337 => 212 | 338 => 213 | n => n, fun | 3 => 3 | 9 => 9 | 2 => 2 | 4 => 4 | 171 => 264 | 0 => 0 | 53 => 265 | 37 => 22 | 5 => 5 | 173 => 268 | 212 => 271 | 51 => 272 | 20 => 20 | 213 => 273 | 46 => 274 | 232 => 277 | 233 => 278 | n => n, fun | 17 => 1 | 18 => 2 | 19 => 3 | n => n⟩
theorem Tryz.laysM171 : Go.Proofs.LaysM.n171 Tryz.prog Tryz.laysM171_ren := {
 mixed := by kernel_rfl
 f129 := Tryz.func208.trans (congrArg some (by kernel_rfl))
 f171 := Tryz.func176.trans (congrArg some (by kernel_rfl))
 f243 := Tryz.func187.trans (congrArg some (by kernel_rfl))
 f246 := Tryz.func199.trans (congrArg some (by kernel_rfl))
 f283 := Tryz.func203.trans (congrArg some (by kernel_rfl))
 f284 := Tryz.func204.trans (congrArg some (by kernel_rfl))
 f285 := Tryz.func205.trans (congrArg some (by kernel_rfl))
 f286 := Tryz.func206.trans (congrArg some (by kernel_rfl))
 f317 := Tryz.func207.trans (congrArg some (by kernel_rfl))
 f318 := Tryz.func209.trans (congrArg some (by kernel_rfl))
 f319 := Tryz.func210.trans (congrArg some (by kernel_rfl))
 f320 := Tryz.func211.trans (congrArg some (by kernel_rfl))
 f337 := Tryz.func212.trans (congrArg some (by kernel_rfl))
 f338 := Tryz.func213.trans (congrArg some (by kernel_rfl))
 t0 := Tryz.underlying0
 a0 := Tryz.isAgg0
 z0 := Tryz.sizeOf0
 v0 := Tryz.zeroValue0
 t2 := Tryz.underlying2
 a2 := Tryz.isAgg2
 z2 := Tryz.sizeOf2
 v2 := Tryz.zeroValue2
 t3 := Tryz.underlying3
 a3 := Tryz.isAgg3
 z3 := Tryz.sizeOf3
 v3 := Tryz.zeroValue3
 t4 := Tryz.underlying4
 a4 := Tryz.isAgg4
 z4 := Tryz.sizeOf4
 v4 := Tryz.zeroValue4
 t5 := Tryz.underlying5
 a5 := Tryz.isAgg5
 z5 := Tryz.sizeOf5
 v5 := Tryz.zeroValue5
 t9 := Tryz.underlying9
 a9 := Tryz.isAgg9
 z9 := Tryz.sizeOf9
 v9 := Tryz.zeroValue9
 t20 := Tryz.underlying20
 a20 := Tryz.isAgg20
 z20 := Tryz.sizeOf20
 v20 := Tryz.zeroValue20
 t37 := Tryz.underlying22
 a37 := Tryz.isAgg22
 z37 := Tryz.sizeOf22
 v37 := Tryz.zeroValue22
 t46 := Tryz.underlying274
 a46 := Tryz.isAgg274
 z46 := Tryz.sizeOf274
 v46 := Tryz.zeroValue274
 t51 := Tryz.underlying272
 a51 := Tryz.isAgg272
 z51 := Tryz.sizeOf272
 v51 := Tryz.zeroValue272
 t53 := Tryz.underlying265
 a53 := Tryz.isAgg265
 z53 := Tryz.sizeOf265
 v53 := Tryz.zeroValue265
 t171 := Tryz.underlying264
 a171 := Tryz.isAgg264
 z171 := Tryz.sizeOf264
 v171 := Tryz.zeroValue264
 t173 := Tryz.underlying268
 a173 := Tryz.isAgg268
 z173 := Tryz.sizeOf268
 v173 := Tryz.zeroValue268
 t212 := Tryz.underlying271
 a212 := Tryz.isAgg271
 z212 := Tryz.sizeOf271
 v212 := Tryz.zeroValue271
 t213 := Tryz.underlying273
 a213 := Tryz.isAgg273
 z213 := Tryz.sizeOf273
 t232 := Tryz.underlying277
 a232 := Tryz.isAgg277
 z232 := Tryz.sizeOf277
 v232 := Tryz.zeroValue277
 t233 := Tryz.underlying278
 a233 := Tryz.isAgg278
 z233 := Tryz.sizeOf278
 v233 := Tryz.zeroValue278
 g17 := by kernel_rfl
 g18 := by kernel_rfl
 g19 := by kernel_rfl
 i0 := by kernel_rfl
 i2 := by kernel_rfl
 i3 := by kernel_rfl
 i4 := by kernel_rfl
 i5 := by kernel_rfl
 i9 := by kernel_rfl
 i20 := by kernel_rfl
 i37 := by kernel_rfl
 i46 := by kernel_rfl
 i51 := by kernel_rfl
 i53 := by kernel_rfl
 i171 := by kernel_rfl
 i173 := by kernel_rfl
 i212 := by kernel_rfl
 i232 := by kernel_rfl
 i233 := by kernel_rfl
 m17 := by kernel_rfl
 m18 := by kernel_rfl
 m19 := by kernel_rfl }
open Go.RowKit Go.Sort Go.Lib in
theorem Tryz.strconv_Itoa (n : Int) (h0 : -9223372036854775808 <= n) (h1 : n <= 9223372036854775807) (w : World) (htab : Lib.TabIs Tryz.prog w "internal/strconv.uint64pow10" .u64 Lib.pow10Tab) :
  Calls Tryz.prog 176 #[.int .i64 n] w fun e w' => e = .returned (.string ⟨(Lib.itoa n).toArray⟩) /\ ∃ k os, w' = grow (w.drewN k) os := Any.strconv_Itoa Tryz.laysM171 n h0 h1 w htab
structure JT (w : World) (v : Value) (xs : List ByteArray) (W : World) : Prop where
 b : Below w.heap.size w W
 o : W.ownsRow w.heap.size 9 1 v xs.length (xs.map Value.string)
theorem JT.one (w : World) (x : ByteArray) : JT w (.slice (some ⟨w.heap.size, 0, none⟩) 1 1) [x] (w.alloc (.cells #[.string x] 9)) :=
 ⟨bal, World.ownsRow_lit w #[.string x] 1 (qM _) (by unfold maxLen; omega) rfl⟩
theorem JT.alloc (j : JT w v xs W) (o : Obj) : JT w v xs (W.alloc o) := ⟨j.b.alloc j.b.size _, j.o.alloc o⟩
theorem JT.below {W' : World} (j : JT w v xs W) (h : Below W.heap.size W W') : JT w v xs W' := by
 refine ⟨j.b.trans (h.mono j.b.size), j.o.1, ?_⟩
 rcases j.o.2 with h2 | ⟨g, cap, cur, hv, hg, hh, r⟩
 ·exact Or.inl h2
 exact Or.inr ⟨g, cap, cur, hv, hg, by rw [h.block g (lt_of_block hh)]; exact hh, r⟩
theorem JT.app {W' : World} {y : ByteArray} {g : Nat} {o : Obj} (j : JT w v xs W) (hk : xs.length = k) (hown : W'.ownsRow w.heap.size 9 1 (.slice (some ⟨g, 0, none⟩) (k + 1) cap) (k + 1) (xs.map Value.string ++ [.string y])) (hg : (W.alloc o).grownBy W' v.ownBlock) :
  JT w (.slice (some ⟨g, 0, none⟩) (k + 1) cap) (xs ++ [y]) W' := by
 refine ⟨(j.alloc o).b.grown hg (j.alloc o).b.size (fun k hk => ((j.alloc o).o.lt k hk).1), ?_⟩;rw [qK, hk, List.map_append]
 exact hown
theorem JT.cells (j : JT w v xs W) (hk : xs.length = k) (h0 : 0 < k) : ∃ g cap, v = .slice (some ⟨g, 0, none⟩) k cap /\ k <= cap /\ g < W.heap.size /\ ∀ (i : Nat) x, xs[i]? = some x -> W.cell? ⟨g, 0 + i, none⟩ = some (.string x) := by
 subst hk
 rcases j.o.2 with ⟨hv, h⟩ | ⟨g, cap', cur, rfl, hg, hh, hl, _, _⟩
 ·omega
 refine ⟨g, cap', rfl, hl, lt_of_block hh, fun i x hx => ?_⟩;have hi := (List.getElem?_eq_some_iff.1 hx).1;have := j.o.cellAt i (by omega);rw [Nat.zero_add, this];simp [hx]
theorem newsS : ∀ j u, [x][j]? = some u -> (w.alloc (.cells #[x] t)).cell? ((⟨w.heap.size, 0, none⟩ : Addr).add j) = some u := fun j u hu => by
 match j, hu with
 | 0, hu =>
  simp only [qH, Option.some.injEq] at hu;subst hu;simp [Addr.add]
theorem oneS {x : ByteArray} : ∀ u ∈ [Value.string x], u.oneCell' = true := fun u hu => by
 simp at hu; subst hu; rfl
theorem Tryz.infoStr : (Tryz.prog.info? 9).map (fun i => (i.zero, i.size, i.bytes)) = some (some (.string ⟨#[]⟩), 1, 16) := by kernel_rfl
theorem word_any : Calls Tryz.prog 164 #[.int .i64 c] w fun e w' => e = .returned (.string ⟨(wordL c).toArray⟩) /\ w' = w := by
 by_cases h1 : c = 1
 ·subst h1
  go_enter Tryz.func164, Tryz.ntmps164
  go_wp2
  go_ret
  exact ⟨rfl, rfl⟩
 have h1' : (c == 1) = false := by simp [h1]
 by_cases h2 : c = 2
 ·subst h2
  go_enter Tryz.func164, Tryz.ntmps164
  go_wp2
  go_ret
  exact ⟨rfl, rfl⟩
 have h2' : (c == 2) = false := by simp [h2]
 by_cases h3 : c = 3
 ·subst h3
  go_enter Tryz.func164, Tryz.ntmps164
  go_wp2
  go_ret
  exact ⟨rfl, rfl⟩
 have h3' : (c == 3) = false := by simp [h3]
 have e : wordL c = [] := by rw [wordL, if_neg h1, if_neg h2, if_neg h3]
 rw [e]
 go_enter Tryz.func164, Tryz.ntmps164
 go_wp2
 go_ret
 exact ⟨rfl, rfl⟩
theorem tail_len (hb : ∀ i : Nat, -999999999999 <= zs[i]?.getD 0 /\ zs[i]?.getD 0 <= 999999999999) : ∀ k, k <= zs.length -> (tailL (zs.take k)).length <= 22 * k
 | 0, _ => by simp [tailL, Lib.joinTail]
 | k + 1, h => by
  have ih := tail_len hb k (by omega);have hz := hb k;have := Lib.itoa_length_le (zs[k]?.getD 0) (by omega) (by omega);rw [tail_step (by omega), qK, qK];simp only [List.length_cons, List.length_nil]
  omega
def wordsT (l : List UInt8) (zs : List Int) : List ByteArray := ⟨l.toArray⟩ :: zs.map fun z => ⟨(Lib.itoa z).toArray⟩
theorem wordsT_join (l : List UInt8) (zs : List Int) : Lib.join ((wordsT l zs).map (·.data.toList)) [32] = l ++ tailL zs := by
 rw [wordsT, List.map_cons, Lib.join_cons, tailL, List.map_map]
 rfl
theorem wordsT_step {l : List UInt8} (h : k < zs.length) : wordsT l (zs.take (k + 1)) = wordsT l (zs.take k) ++ [⟨(Lib.itoa (zs[k]?.getD 0)).toArray⟩] := by
 rw [wordsT, wordsT, List.take_succ_eq_append_getElem h, qE h, List.map_append]
 rfl
theorem itwn_any (l : List UInt8) (a : Option Addr) (n cap : Nat) (zs : List Int) (w : World) (hC : Ints w a n zs) (hn : n <= 1000) (hl : l.length <= 1000) (hz : ∀ i : Nat, -999999999999 <= zs[i]?.getD 0 /\ zs[i]?.getD 0 <= 999999999999) (hT : Lib.TabBelow Tryz.prog w.heap.size w "internal/strconv.uint64pow10" .u64 Lib.pow10Tab) :
  Calls Tryz.prog 162 #[.string ⟨l.toArray⟩, .slice a n cap] w fun e w' => e = .returned (.string ⟨(l ++ tailL zs).toArray⟩) /\ Below w.heap.size w w' := by
 have HL : Hid (zs.length = n) := hC.1;have HTB : Hid _ := hT;have BZ : Hid (∀ i : Nat, -999999999999 <= zs[i]?.getD 0 /\ zs[i]?.getD 0 <= 999999999999) := hz;have HLL : Hid (l.length <= 1000) := hl;clear hT hz hl;obtain ⟨i0, hi, hz0, hz1, hz2⟩ := info_parts Tryz.infoStr;obtain ⟨S, hS⟩ : ∃ S : ByteArray, S = ⟨l.toArray⟩ := ⟨_, rfl⟩
 have HS0 : Hid (S = ⟨l.toArray⟩) := hS;rw [<- hS];clear hS
 go_enter Tryz.func162, Tryz.ntmps162
 go_wp2_with fail
 go_loopw [5, 7, 12] (fun v _ i wr => ∃ (k : Nat) (xs : List ByteArray), k <= n /\ i = .int .i64 k /\ xs.length = k + 1 /\ xs = wordsT l (zs.take k) /\ JT w v xs wr) (fun _ _ i _ => n - (intOf i).toNat)
 case atStart => exact ⟨0, _, Nat.zero_le _, rfl, rfl, by rw [HS0.out]; rfl, JT.one w S⟩
 case round =>
  obtain ⟨k, xs, hk, rfl, hxl, hxs, j⟩ := hrel;have HXL : Hid _ := hxl;have HXS : Hid _ := hxs;clear hxl hxs;have hjb := j.b.size
  by_cases hlt : k < n
  ·obtain ⟨b, off, rfl, hcell⟩ := (hC.below j.b).pos (by omega);have hck : wr.cell? ⟨b, off + k, none⟩ = some (.int .i64 (zs[k]?.getD 0)) := by rw [hcell k hlt]; simp
   have HS : Hid _ := wordsT_step (l := l) (zs := zs) (k := k) (by rw [HL.out]; exact hlt);have hz := BZ.out k;generalize HG : zs[k]?.getD 0 = z at hck HS hz;clear HG hcell;obtain ⟨z1, z2⟩ := hz;have tab : Lib.TabIs Tryz.prog wr "internal/strconv.uint64pow10" .u64 Lib.pow10Tab := HTB.out wr j.b
   go_wp2_with fail
   refine (Tryz.strconv_Itoa z (by omega) (by omega) _ tab).mono ?_;rintro e w2 ⟨rfl, q, os, hw2⟩;have b2 : Below wr.heap.size wr w2 := by rw [hw2]; exact Lib.below_grow _ _ (qM _) _ _
   clear hw2 tab;have j2 := j.below b2;have jo := j2.o;rw [HXL.out] at jo;have hjb2 := j2.b.size;clear b2 j;obtain ⟨I, hI⟩ : ∃ I : ByteArray, I = ⟨(Lib.itoa z).toArray⟩ := ⟨_, rfl⟩
   rw [<- hI];have HI : Hid _ := hI;clear hI
   go_wp2_with (at_builtin; go_must (refine wpList_append_lies _ rfl (.tmp 16) (.tmp 19) 227 rfl w.heap.size 9 i0 (.string ⟨#[]⟩) 1 16 Tryz.underlying227 hi hz0 hz1 hz2 rfl (by decide) _ _ _ rfl (jo.alloc _) ⟨w2.heap.size, 0, none⟩ 1 1 [.string I] rfl rfl (newsS) (oneS) (by omega) (by unfold maxLen; omega) (by omega) (by rw [qA]; omega) _ rfl ?_); intro g cp w3 hown hgrow hat hlt1)
   have j3 := j2.app HXL.out hown hgrow;clear hown hgrow jo j2 hat
   go_wp2
   go_roundw
   case rel => exact ⟨k + 1, _, by omega, by go_num, by rw [qK, HXL.out]; rfl, by rw [HS.out, HXS.out, HI.out], j3⟩
   case measure => simp [intOf]; omega
  obtain rfl : k = n := by omega
  obtain ⟨g, gc, rfl, hcap, hg, hcs⟩ := j.cells HXL.out (by omega)
  have HJ := Tryz.strings_Join g 0 gc xs ⟨#[32]⟩ wr hcs hg (by rw [HXL.out]; omega) (by rw [HXL.out]; exact hcap) (by
   rw [HXS.out, qL (by rw [HL.out]; exact qM _)];have := wordsT_join l zs;rw [show (⟨#[32]⟩ : ByteArray).data.toList = [32] from rfl, this, qK];have := tail_len BZ.out zs.length (qM _);rw [List.take_length] at this;have := HLL.out;have := HL.out
   omega)
  rw [HXL.out] at HJ;have jb := j.b;clear hcs hcap hg j
  go_wp2_with fail
  refine HJ.mono ?_;rintro e w2 ⟨rfl, b2⟩;have B2 := jb.trans (b2.mono (by omega))
  go_wp2
  go_ret
  refine ⟨?_, B2⟩;rw [<- wordsT_join l zs, HXS.out, qL (by rw [HL.out]; exact qM _)]
  rfl
theorem itext_any (zs : List Int) {w : World} (hC : Ints w a n zs) (hn : n <= 1048576) (hT : Lib.TabBelow Tryz.prog w.heap.size w "internal/strconv.uint64pow10" .u64 Lib.pow10Tab) :
  Calls Tryz.prog 141 #[resP c a n cap] w fun e w' => e = .returned (.string ⟨(resText c n zs).toArray⟩) /\ Below w.heap.size w w' := by
 have HL : Hid (zs.length = n) := hC.1;have HTB : Hid _ := hT;clear hT;have B0 := (Below.refl w.heap.size w).alloc (qM _) (.cells #[.int .i64 c, .slice a n cap] 54);obtain ⟨i0, hi, hz0, hz1, hz2⟩ := info_parts Tryz.infoStr
 cases h1 : inB c 1 3
 ·have HR : Hid _ := resText_no (c := c) (n := n) (zs := zs) (by simp [resOkB, h1]);have c13 := inB_not.1 h1;have hw : (⟨(wordL c).toArray⟩ : ByteArray) = ⟨#[]⟩ := by rw [wordL, if_neg (by omega), if_neg (by omega), if_neg (by omega)]
  have HW : Hid _ := hw;clear hw h1
  go_enter Tryz.func141, Tryz.ntmps141
  go_wp2_with fail
  refine (word_any).mono ?_;rintro e w1 ⟨rfl, rfl⟩;rw [HW.out]
  go_wp2
  go_ret
  exact ⟨by rw [HR.out]; rfl, B0⟩
 have c13 := inB_iff.1 h1
 by_cases h2 : c = 1 \/ n = 0
 ·by_cases h3 : n <= 6
  ·cases h4 : allB 999999999999 zs
   ·have HR : Hid _ := resText_no (c := c) (n := n) (zs := zs) (by simp [resOkB, h4])
    rcases h2 with rfl | rfl
    ·go_enter Tryz.func141, Tryz.ntmps141
     go_wp2_with fail
     refine (word_any).mono ?_;rintro e w1 ⟨rfl, rfl⟩;rw [show (⟨(wordL 1).toArray⟩ : ByteArray) = ⟨#[100, 111, 110, 101]⟩ from rfl]
     go_wp2_with fail
     refine (within_any _ _ _ zs (hC.below B0) hn).mono ?_;rintro e w1 ⟨rfl, rfl⟩;rw [h4]
     go_wp2
     go_ret
     exact ⟨by rw [HR.out]; rfl, B0⟩
    exfalso
    have : zs = [] := List.eq_nil_of_length_eq_zero HL.out;subst this
    cases h4
   have H4 : Hid (allB 999999999999 zs = true) := h4;have HR : Hid _ := resText_yes (c := c) (n := n) (zs := zs) (by simp [resOkB, h1, h2, h3, h4]);have BZ : Hid (∀ i : Nat, -999999999999 <= zs[i]?.getD 0 /\ zs[i]?.getD 0 <= 999999999999) := allB_bnd' (by omega) h4;clear h1 h4
   by_cases e1 : c = 1
   ·subst e1;clear h2
    go_enter Tryz.func141, Tryz.ntmps141
    go_wp2_with fail
    refine (word_any).mono ?_;rintro e w1 ⟨rfl, rfl⟩;rw [show (⟨(wordL 1).toArray⟩ : ByteArray) = ⟨#[100, 111, 110, 101]⟩ from rfl]
    go_wp2_with fail
    refine (within_any _ _ _ zs (hC.below B0) hn).mono ?_;rintro e w1 ⟨rfl, rfl⟩;rw [H4.out];obtain ⟨W, hW⟩ : ∃ W, W = w.alloc (.cells #[.int .i64 1, .slice a n cap] 54) := ⟨_, rfl⟩
    have bx : Cel W w.heap.size [.int .i64 1, .slice a n cap] 54 := by rw [hW]; exact Cel.new w _ _
    rw [<- hW] at B0 ⊢;clear hW;have k1 := bx.cell 1;simp only [qH, qI] at k1;have hCW := hC.below B0;clear hC
    go_wp2_with fail
    refine (itwn_any (wordL 1) a n cap zs W hCW (by omega) (by have := word_len 1; omega) BZ.out (fun X hX => HTB.out X (btr B0 hX))).mono ?_;rintro e w2 ⟨rfl, b2⟩;have B2 := btr B0 b2;obtain ⟨Z, hZ⟩ : ∃ Z : ByteArray, Z = ⟨(wordL 1 ++ tailL zs).toArray⟩ := ⟨_, rfl⟩
    have HZ : Hid (Z = ⟨(wordL 1 ++ tailL zs).toArray⟩) := hZ;rw [<- hZ];clear hZ k1 bx hCW
    go_wp2
    go_ret
    exact ⟨by rw [HR.out, HZ.out]; rfl, B2⟩
   have hn0 : n <= 0 := by omega
   have hn0' : ((n : Int) == 0) = true := by simp; omega
   clear h2
   by_cases e2 : c = 2
   ·subst e2
    go_enter Tryz.func141, Tryz.ntmps141
    go_wp2_with fail
    refine (word_any).mono ?_;rintro e w1 ⟨rfl, rfl⟩;rw [show (⟨(wordL 2).toArray⟩ : ByteArray) = ⟨#[115, 116, 111, 112, 112, 101, 100]⟩ from rfl]
    go_wp2_with fail
    refine (within_any _ _ _ zs (hC.below B0) hn).mono ?_;rintro e w1 ⟨rfl, rfl⟩;rw [H4.out];obtain ⟨W, hW⟩ : ∃ W, W = w.alloc (.cells #[.int .i64 2, .slice a n cap] 54) := ⟨_, rfl⟩
    have bx : Cel W w.heap.size [.int .i64 2, .slice a n cap] 54 := by rw [hW]; exact Cel.new w _ _
    rw [<- hW] at B0 ⊢;clear hW;have k1 := bx.cell 1;simp only [qH, qI] at k1;have hCW := hC.below B0;clear hC
    go_wp2_with fail
    refine (itwn_any (wordL 2) a n cap zs W hCW (by omega) (by have := word_len 2; omega) BZ.out (fun X hX => HTB.out X (btr B0 hX))).mono ?_;rintro e w2 ⟨rfl, b2⟩;have B2 := btr B0 b2;obtain ⟨Z, hZ⟩ : ∃ Z : ByteArray, Z = ⟨(wordL 2 ++ tailL zs).toArray⟩ := ⟨_, rfl⟩
    have HZ : Hid (Z = ⟨(wordL 2 ++ tailL zs).toArray⟩) := hZ;rw [<- hZ];clear hZ k1 bx hCW
    go_wp2
    go_ret
    exact ⟨by rw [HR.out, HZ.out]; rfl, B2⟩
   obtain rfl : c = 3 := by omega
   go_enter Tryz.func141, Tryz.ntmps141
   go_wp2_with fail
   refine (word_any).mono ?_;rintro e w1 ⟨rfl, rfl⟩;rw [show (⟨(wordL 3).toArray⟩ : ByteArray) = ⟨#[111, 118, 101, 114]⟩ from rfl]
   go_wp2_with fail
   refine (within_any _ _ _ zs (hC.below B0) hn).mono ?_;rintro e w1 ⟨rfl, rfl⟩;rw [H4.out];obtain ⟨W, hW⟩ : ∃ W, W = w.alloc (.cells #[.int .i64 3, .slice a n cap] 54) := ⟨_, rfl⟩
   have bx : Cel W w.heap.size [.int .i64 3, .slice a n cap] 54 := by rw [hW]; exact Cel.new w _ _
   rw [<- hW] at B0 ⊢;clear hW;have k1 := bx.cell 1;simp only [qH, qI] at k1;have hCW := hC.below B0;clear hC
   go_wp2_with fail
   refine (itwn_any (wordL 3) a n cap zs W hCW (by omega) (by have := word_len 3; omega) BZ.out (fun X hX => HTB.out X (btr B0 hX))).mono ?_;rintro e w2 ⟨rfl, b2⟩;have B2 := btr B0 b2;obtain ⟨Z, hZ⟩ : ∃ Z : ByteArray, Z = ⟨(wordL 3 ++ tailL zs).toArray⟩ := ⟨_, rfl⟩
   have HZ : Hid (Z = ⟨(wordL 3 ++ tailL zs).toArray⟩) := hZ;rw [<- hZ];clear hZ k1 bx hCW
   go_wp2
   go_ret
   exact ⟨by rw [HR.out, HZ.out]; rfl, B2⟩
  have HR : Hid _ := resText_no (c := c) (n := n) (zs := zs) (by simp [resOkB, h3]);obtain rfl : c = 1 := by omega
  go_enter Tryz.func141, Tryz.ntmps141
  go_wp2_with fail
  refine (word_any).mono ?_;rintro e w1 ⟨rfl, rfl⟩;rw [show (⟨(wordL 1).toArray⟩ : ByteArray) = ⟨#[100, 111, 110, 101]⟩ from rfl]
  go_wp2
  go_ret
  exact ⟨by rw [HR.out]; rfl, B0⟩
 have HR : Hid _ := resText_no (c := c) (n := n) (zs := zs) (by simp [resOkB, h2]);have hn0 : ((n : Int) == 0) = false := by simp; omega
 clear h1
 by_cases e2 : c = 2
 ·subst e2
  go_enter Tryz.func141, Tryz.ntmps141
  go_wp2_with fail
  refine (word_any).mono ?_;rintro e w1 ⟨rfl, rfl⟩;rw [show (⟨(wordL 2).toArray⟩ : ByteArray) = ⟨#[115, 116, 111, 112, 112, 101, 100]⟩ from rfl]
  go_wp2
  go_ret
  exact ⟨by rw [HR.out]; rfl, B0⟩
 obtain rfl : c = 3 := by omega
 go_enter Tryz.func141, Tryz.ntmps141
 go_wp2_with fail
 refine (word_any).mono ?_;rintro e w1 ⟨rfl, rfl⟩;rw [show (⟨(wordL 3).toArray⟩ : ByteArray) = ⟨#[111, 118, 101, 114]⟩ from rfl]
 go_wp2
 go_ret
 exact ⟨by rw [HR.out]; rfl, B0⟩
def fullB (l : List UInt8) : Bool := !(⟨l.toArray⟩ : ByteArray).toList.isEmpty
theorem iresok_any (zs : List Int) {w : World} (hC : Ints w a n zs) (hn : n <= 1048576) (hT : Lib.TabBelow Tryz.prog w.heap.size w "internal/strconv.uint64pow10" .u64 Lib.pow10Tab) :
  Calls Tryz.prog 106 #[resP c a n cap] w fun e w' => e = .returned (.bool (fullB (resText c n zs))) /\ Below w.heap.size w w' := by
 obtain ⟨T, hTx⟩ : ∃ T : ByteArray, T = ⟨(resText c n zs).toArray⟩ := ⟨_, rfl⟩
 have HTX : Hid _ := hTx;have HT : Hid _ := hT;clear hTx hT;have B0 := (Below.refl w.heap.size w).alloc (qM _) (.cells #[.int .i64 c, .slice a n cap] 54)
 go_enter Tryz.func106, Tryz.ntmps106
 go_wp2_with fail
 refine (itext_any zs (hC.alloc _) hn (fun w' h' => HT.out w' (btr B0 h'))).mono ?_;rintro e w1 ⟨rfl, b1⟩;rw [<- HTX.out]
 go_wp2
 go_ret
 exact ⟨by rw [fullB, <- HTX.out]; rfl, btr B0 b1⟩
def dnOk (s c : Int) (n : Nat) (zs : List Int) : Bool := if s = 0 then decide (c = 0) && decide (n = 0) else inB s 1 300 && fullB (resText c n zs)
def DV.ok (f : DV) : Bool := dnOk f.q f.c f.t.n f.t.x
def donesB (cl : Int) (N : Nat) (fs : List DV) : Bool := decide ((N : Int) = cl) && fs.all DV.ok
theorem dn_zero : dnOk 0 c n zs = (decide (c = 0) && decide (n = 0)) := by rw [dnOk, if_pos rfl]
theorem dn_some {s : Int} (h : s ≠ 0) : dnOk s c n zs = (inB s 1 300 && fullB (resText c n zs)) := by rw [dnOk, if_neg h]
theorem dones_not (h : ¬ (N : Int) = cl) : donesB cl N fs = false := by simp [donesB, h]
theorem dones_is (h : (N : Int) = cl) : donesB cl N fs = fs.all DV.ok := by simp [donesB, h]
theorem dones_step (h : k < fs.length) (h1 : (fs.take k).all DV.ok = true) (h2 : (fs[k]?.getD noD).ok = true) : (fs.take (k + 1)).all DV.ok = true := by
 rw [List.take_succ_eq_append_getElem h, List.all_append, h1];rw [qE h] at h2;simpa using h2
theorem dones_no (h : k < fs.length) (h2 : (fs[k]?.getD noD).ok = false) : fs.all DV.ok = false := by
 rw [List.all_eq_false];refine ⟨fs[k], List.getElem_mem h, ?_⟩;rw [qE h] at h2;simpa using h2
theorem dones_end (h : fs.length <= k) (h1 : (fs.take k).all DV.ok = true) : fs.all DV.ok = true := by rwa [qL h] at h1
theorem inothing_any :
  Calls Tryz.prog 137 #[resP c a n cap] w fun e w' => e = .returned (.bool (decide (c = 0) && decide (n = 0))) /\ Below w.heap.size w w' := by
 have B0 := (Below.refl w.heap.size w).alloc (qM _) (.cells #[.int .i64 c, .slice a n cap] 54)
 by_cases h : c = 0
 ·subst h;have e2 : ((n : Int) == 0) = decide (n = 0) := by by_cases hn : n = 0 <;> simp [hn]
  go_enter Tryz.func137, Tryz.ntmps137
  go_wp2
  go_ret
  exact ⟨ret_bool (by simp), B0⟩
 have h' : (c == 0) = false := by simpa using h
 go_enter Tryz.func137, Tryz.ntmps137
 go_wp2
 go_ret
 exact ⟨ret_bool (by simp [h]), B0⟩
theorem idone_any {s : Int} (zs : List Int) {w : World} (hC : Ints w a n zs) (hn : n <= 1048576) (hT : Lib.TabBelow Tryz.prog w.heap.size w "internal/strconv.uint64pow10" .u64 Lib.pow10Tab) :
  Calls Tryz.prog 97 #[doV s c a n cap] w fun e w' => e = .returned (.bool (dnOk s c n zs)) /\ Below w.heap.size w w' := by
 have HT : Hid _ := hT;clear hT;have n0 := Cel.new w [.int .i64 s, .int .i64 c, .slice a n cap] 101;have B0 := (Below.refl w.heap.size w).alloc (qM _) (.cells #[.int .i64 s, .int .i64 c, .slice a n cap] 101)
 by_cases h : s = 0
 ·subst h
  go_enter Tryz.func97, Tryz.ntmps97
  go_wp2_with fail
  refine (inothing_any).mono ?_;rintro e w1 ⟨rfl, b1⟩
  go_wp2
  go_ret
  exact ⟨ret_bool (by rw [dn_zero]), btr B0 b1⟩
 have h' : (s == 0) = false := by simpa using h
 have HS : Hid (s ≠ 0) := h;clear h;obtain ⟨x1, hx1⟩ : ∃ y, y = betB 1 300 [s] := ⟨_, rfl⟩
 have H1 : Hid _ := hx1;clear hx1;have HB : Hid (dnOk s c n zs = (x1 && fullB (resText c n zs))) := by show _ = _; rw [dn_some HS.out, H1.out, bet_one]
 have B1 := B0.alloc B0.size (.cells #[.int .i64 s] 3)
 go_enter Tryz.func97, Tryz.ntmps97
 go_wp2_with fail
 refine (between_any [s] _ _ (by have := one_ints (w.alloc (.cells #[.int .i64 s, .int .i64 c, .slice a n cap] 101)) s 3; rw [qA] at this; exact this) (by omega)).mono ?_;rintro e w1 ⟨rfl, rfl⟩;rw [<- H1.out]
 cases x1
 ·go_wp2
  go_ret
  exact ⟨ret_bool (by rw [HB.out]; rfl), B1⟩
 go_wp2_with fail
 refine (iresok_any zs (hC.below B1) hn (fun w' h' => HT.out w' (btr B1 h'))).mono ?_;rintro e w1 ⟨rfl, b1⟩
 go_wp2
 go_ret
 exact ⟨ret_bool (by rw [HB.out]; rfl), btr B1 b1⟩
theorem idones_any {gc : Nat} {sa : Option Addr} {sc : Nat} {dc : Nat} (fs : List DV) {w : World} (hN : fs.length = dn) (hF : DSG w da fs) (hz : dn <= 1048576) (hT : Lib.TabBelow Tryz.prog w.heap.size w "internal/strconv.uint64pow10" .u64 Lib.pow10Tab) :
  Calls Tryz.prog 55 #[plV cl ad N cap ga gn gc sa sn sc, .slice da dn dc] w fun e w' => e = .returned (.bool (donesB cl dn fs)) /\ Below w.heap.size w w' := by
 have HT : Hid _ := hT;have HN : Hid (fs.length = dn) := hN;clear hT hN;have B0 := (Below.refl w.heap.size w).alloc (qM _) (.cells #[.int .i64 cl, .slice ad N cap, .slice ga gn gc, .slice sa sn sc] 26)
 by_cases hc : (dn : Int) = cl
 ·have hc' : ((dn : Int) != cl) = false := by simpa using hc
  have HC : Hid _ := hc;clear hc
  go_enter Tryz.func55, Tryz.ntmps55
  go_wp2_with fail
  obtain ⟨W0, hW0⟩ : ∃ W, W = w.alloc (.cells #[.int .i64 cl, .slice ad N cap, .slice ga gn gc, .slice sa sn sc] 26) := ⟨_, rfl⟩
  rw [<- hW0] at B0 ⊢;clear hW0
  go_loopw [6, 14] (fun _ i wr => ∃ k : Nat, k <= dn /\ i = .int .i64 k /\ Below w.heap.size w wr /\ (fs.take k).all DV.ok = true) (fun _ i _ => dn - (intOf i).toNat)
  case atStart => exact ⟨0, Nat.zero_le _, rfl, B0, rfl⟩
  case round =>
   obtain ⟨k, hk, rfl, hb, hall⟩ := hrel;have HA : Hid _ := hall;clear hall
   by_cases hlt : k < dn
   ·obtain ⟨b, off, rfl, hc, hr⟩ := (hF.below hb) k (by rw [HN.out]; exact hlt);generalize HG : fs[k]?.getD noD = g at *;have HG' : Hid (fs[k]?.getD noD = g) := HG;clear HG hF;obtain ⟨e0, e1, e2⟩ := cellsD hc;obtain ⟨gs, gc, ⟨gta, gtn, gtc, gtx⟩⟩ := g;have e0' : wr.cell? ⟨b, off + k * 3, none⟩ = some (.int .i64 gs) := e0;have e1' : wr.cell? ⟨b, off + k * 3 + 1, none⟩ = some (.int .i64 gc) := e1;have e2' : wr.cell? ⟨b, off + k * 3 + 2, none⟩ = some (.slice gta gtn gtc) := e2;have hI : Ints wr gta gtn gtx := hr.1.1;have hz' : gtn <= 1048576 := hr.1.2;clear e0 e1 e2 hc hr;have hlt' : (k : Int) < (dn : Int) := by omega
    have bA := hb.alloc hb.size (.cells #[.int .i64 gs, .int .i64 gc, .slice gta gtn gtc] 101)
    go_wp2_with fail
    refine (idone_any gtx (hI.alloc _) hz' (fun w' h' => HT.out w' (btr bA h'))).mono ?_;rintro e w1 ⟨rfl, b1⟩;have hb1 := btr bA b1
    cases hd : dnOk gs gc gtn gtx
    ·go_wp2
     go_ret
     exact ⟨ret_bool (by rw [dones_is HC.out, dones_no (by rw [HN.out]; exact hlt) (by rw [HG'.out]; exact hd)]), hb1⟩
    go_wp2
    go_roundw
    case rel => exact ⟨k + 1, by omega, by go_num, hb1, dones_step (by rw [HN.out]; exact hlt) HA.out (by rw [HG'.out]; exact hd)⟩
    case measure => simp [intOf]; omega
   go_wp2
   go_ret
   exact ⟨ret_bool (by rw [dones_is HC.out, dones_end (by rw [HN.out]; omega) HA.out]), hb⟩
 have hc' : ((dn : Int) != cl) = true := by simpa using hc
 go_enter Tryz.func55, Tryz.ntmps55
 go_wp2
 go_ret
 exact ⟨ret_bool (by rw [dones_not hc]), B0⟩
abbrev siV (u : Bool) (f : Bool) (r : Int) (ba : Option Addr) (bn bc : Nat) (aa : Option Addr) (an ac : Nat) (da : Option Addr) (dn dc : Nat) : Value := .agg #[.bool u, .bool f, .int .i64 r, .slice ba bn bc, .slice aa an ac, .slice da dn dc]
structure StAt (w : World) (ba : Option Addr) (bn : Nat) (bx : List Int) (aa : Option Addr) (an : Nat) (ax : List Int) (da : Option Addr) (dn : Nat) (dx : List DV) : Prop where
 b : Ints w ba bn bx
 zb : bn <= 1048576
 a : Ints w aa an ax
 za : an <= 1048576
 d : DSG w da dx
 ld : dx.length = dn
 zd : dn <= 1048576
theorem StAt.below {ba : Option Addr} {bn : Nat} {bx : List Int} {aa : Option Addr} {an : Nat} {ax : List Int} {dx : List DV} (h : StAt w ba bn bx aa an ax da dn dx) (hb : Below w.heap.size w w') : StAt w' ba bn bx aa an ax da dn dx :=
 ⟨h.b.below hb, h.zb, h.a.below hb, h.za, h.d.below hb, h.ld, h.zd⟩
theorem Cel.sixP {B : Nat} {y z u t' : Value} (h : Cel w B [x, y, z, u, v, t'] t) : w.cell? ⟨B, 0, none⟩ = some x /\ w.cell? ⟨B, 1, none⟩ = some y /\ w.cell? ⟨B, 2, none⟩ = some z /\ w.cell? ⟨B, 3, none⟩ = some u /\ w.cell? ⟨B, 4, none⟩ = some v /\ w.cell? ⟨B, 5, none⟩ = some t' := ⟨h.cell 0, h.cell 1, h.cell 2, h.cell 3, h.cell 4, h.cell 5⟩
def siteB (cl : Int) (gn : Nat) (G : List Int) (T : List (List Int)) (R : Nat -> Bool) (r : Int) (bn : Nat) (bx : List Int) (an : Nat) (ax : List Int) (dn : Nat) (dx : List DV) (s : Int) : Bool :=
 inB r 0 200 && (keepT bn gn bx G T s an ax && (stillB R ax && donesB cl dn dx))
def sitB (cl : Int) (N : Nat) (ss : List L2V) (gn : Nat) (G : List Int) (sn : Nat) (S : List Int) (r : Int) (bn : Nat) (bx : List Int) (an : Nat) (ax : List Int) (dn : Nat) (dx : List DV) (s : Int) : Bool :=
 plnB cl N ss gn G sn S && siteB cl gn G (catP ss) (pinsA ss) r bn bx an ax dn dx s
theorem pln_cat {ss : List L2V} {G : List Int} {S : List Int} (h : plnB cl N ss gn G sn S = true) : catB N ss = true := by
 simp only [plnB, Bool.and_eq_true] at h
 exact h.2.1
theorem pins_ba {lo : Nat} {R : Nat -> Bool} (h : true = false \/ (true = true /\ ∃ G, a = some ⟨G, 0, none⟩ /\ lo <= G /\ OwnBB W G R)) : BA W a 3 R := by
 rcases h with h | ⟨-, G, rfl, -, o⟩
 ·cases h
 exact o.ba
theorem ikeeps_any {gc : Nat} {sa : Option Addr} {sc : Nat} (ss : List L2V) (G S : List Int) {ba : Option Addr} {bn bc : Nat} (bx : List Int) {s : Int} {aa : Option Addr} {an ac : Nat} (ax : List Int) {w : World} (hp : PlAt w ad N ss ga gn G sa sn S) (hc : catB N ss = true) (hb : Ints w ba bn bx) (zb : bn <= 1048576) (ha : Ints w aa an ax) (za : an <= 1048576) :
  Calls Tryz.prog 54 #[plV cl ad N cap ga gn gc sa sn sc, .slice ba bn bc, .int .i64 s, .slice aa an ac] w fun e w' => e = .returned (.bool (keepT bn gn bx G (catP ss) s an ax && stillB (pinsA ss) ax)) /\ Below w.heap.size w w' := by
 have q0 := Cel.new w [.int .i64 cl, .slice ad N cap, .slice ga gn gc, .slice sa sn sc] 26;have B0 := (Below.refl w.heap.size w).alloc (qM _) (.cells #[.int .i64 cl, .slice ad N cap, .slice ga gn gc, .slice sa sn sc] 26);obtain ⟨W0, hW0⟩ : ∃ W, W = w.alloc (.cells #[.int .i64 cl, .slice ad N cap, .slice ga gn gc, .slice sa sn sc] 26) := ⟨_, rfl⟩
 rw [<- hW0] at q0 B0;have HC : Hid (catB N ss = true) := hc;have HCT : Hid (catT (catB N ss) (catP ss) = catP ss) := by show _ = _; rw [hc]; rfl
 have HLN : Hid ((catP ss).length <= 600000) := catP_len (by have := (catB_parts hc).1; rw [hp.ha]; exact this);clear hc;obtain ⟨V, hV⟩ : ∃ V, V = (keepT bn gn bx G (catP ss) s an ax && stillB (pinsA ss) ax) := ⟨_, rfl⟩
 rw [<- hV];have HW : Hid (V = (keepT bn gn bx G (catP ss) s an ax && stillB (pinsA ss) ax)) := hV;clear hV
 cases h3 : keepT bn gn bx G (catP ss) s an ax
 ·have HV : Hid (false = V) := by show _ = _; rw [HW.out, h3]; rfl
  have KP : Hid (∀ W, Below W0.heap.size W0 W -> W.cell? ⟨w.heap.size, 0, none⟩ = some (.int .i64 cl) /\ W.cell? ⟨w.heap.size, 1, none⟩ = some (.slice ad N cap) /\ W.cell? ⟨w.heap.size, 2, none⟩ = some (.slice ga gn gc) /\ W.cell? ⟨w.heap.size, 3, none⟩ = some (.slice sa sn sc)) := fun W hW => (q0.below hW).quadP;have hSS := And.intro (KP.out _ (Below.refl _ _).drew) True.intro
  go_enter Tryz.func54, Tryz.ntmps54
  go_upto_region 1 with fail
  rw [<- hW0];clear hW0 q0;refine wp_region_ends (fun w' => w'.cell? ⟨w.heap.size, 0, none⟩ = some (.int .i64 cl) /\ w'.cell? ⟨w.heap.size, 1, none⟩ = some (.slice ad N cap) /\ w'.cell? ⟨w.heap.size, 2, none⟩ = some (.slice ga gn gc) /\ w'.cell? ⟨w.heap.size, 3, none⟩ = some (.slice sa sn sc)) (fun _ => True) 18 (by kernel_rfl) ?_;refine tkl 0 rfl hSS ?_;refine tkl 1 rfl hSS ?_;refine tkl 2 rfl hSS ?_;refine tkl 3 rfl hSS ?_;simp only [Act.put, qB, qD, qC, qJ, qG, qF];refine tkl 4 rfl hSS ?_;refine tkl 5 rfl hSS ?_;refine tkl 7 rfl hSS ?_;refine tkl 8 rfl hSS ?_;simp only [Act.put, qB, qD, qC, qJ, qG, qF];refine wo1 6 rfl fun K hK => ?_;go_simp;refine (icatforms_at (catP ss) ss hp.ha (hp.below B0.drew).a hp.za HCT.out).mono ?_;rintro ee w1 ⟨fa, fc, rfl, bd1, uf⟩;have b1 := below_of_drew bd1;have B1 := B0.trans (b1.mono B0.size);obtain ⟨ts, hts, hx⟩ := uf.isg;have HX : Hid _ := hx;clear uf hx bd1;(try dsimp only);replace hSS := And.intro (KP.out w1 b1) True.intro;refine kk0 hK (hSS.1) ?_;refine wo1 9 rfl fun K hK => ?_;go_simp;refine (ikeep_any bx G ax ts (hb.below B1) (hp.below B1).g (ha.below B1) (map_len HX.out) hts zb hp.zg za (Nat.le_trans HLN.out (by omega))).mono ?_;rintro ee w2 ⟨rfl, b2⟩;rw [keep_of hts HX.out, h3]
  have b12 := b1.trans (b2.mono b1.size);have B2 := B1.trans (b2.mono B1.size);(try dsimp only);replace hSS := And.intro (KP.out w2 b12) True.intro;refine kk0 hK (hSS.1) ?_;refine tkl 10 rfl hSS ?_;refine tku 11 rfl hSS ?_;refine tku 12 rfl hSS ?_;refine tku 14 rfl hSS ?_;simp only [Act.put, qB, qD, qC, qJ, qG, qF];refine tku 13 rfl hSS ?_;refine tku 15 rfl hSS ?_;refine tku 16 rfl hSS ?_;refine tkl 17 rfl hSS ?_;simp only [Act.put, qB, qD, qC, qJ, qG, qF];refine wo1 18 rfl fun K hK => ?_;go_simp;refine kk0 hK (hSS.1) ?_;refine wod ?_ _;clear hSS
  go_wp2
  go_ret
  exact ⟨ret_bool HV.out, B2⟩
 obtain rfl : an = 3 := (keepT_elim h3).2.2;obtain ⟨x4, h4⟩ : ∃ x, x = !stillB (pinsA ss) ax := ⟨_, rfl⟩
 have HST : Hid (x4 = !stillB (pinsA ss) ax) := h4;clear h4;have KP : Hid (∀ W, Below W0.heap.size W0 W -> W.cell? ⟨w.heap.size, 0, none⟩ = some (.int .i64 cl) /\ W.cell? ⟨w.heap.size, 1, none⟩ = some (.slice ad N cap) /\ W.cell? ⟨w.heap.size, 2, none⟩ = some (.slice ga gn gc) /\ W.cell? ⟨w.heap.size, 3, none⟩ = some (.slice sa sn sc)) := fun W hW => (q0.below hW).quadP;have hSS := And.intro (KP.out _ (Below.refl _ _).drew) True.intro
 go_enter Tryz.func54, Tryz.ntmps54
 go_upto_region 1 with fail
 rw [<- hW0];clear hW0 q0;refine wp_region_ends (fun w' => w'.cell? ⟨w.heap.size, 0, none⟩ = some (.int .i64 cl) /\ w'.cell? ⟨w.heap.size, 1, none⟩ = some (.slice ad N cap) /\ w'.cell? ⟨w.heap.size, 2, none⟩ = some (.slice ga gn gc) /\ w'.cell? ⟨w.heap.size, 3, none⟩ = some (.slice sa sn sc)) (fun _ => True) 18 (by kernel_rfl) ?_;refine tkl 0 rfl hSS ?_;refine tkl 1 rfl hSS ?_;refine tkl 2 rfl hSS ?_;refine tkl 3 rfl hSS ?_;simp only [Act.put, qB, qD, qC, qJ, qG, qF];refine tkl 4 rfl hSS ?_;refine tkl 5 rfl hSS ?_;refine tkl 7 rfl hSS ?_;refine tkl 8 rfl hSS ?_;simp only [Act.put, qB, qD, qC, qJ, qG, qF];refine wo1 6 rfl fun K hK => ?_;go_simp;refine (icatforms_at (catP ss) ss hp.ha (hp.below B0.drew).a hp.za HCT.out).mono ?_;rintro ee w1 ⟨fa, fc, rfl, bd1, uf⟩;have b1 := below_of_drew bd1;have B1 := B0.trans (b1.mono B0.size);obtain ⟨ts, hts, hx⟩ := uf.isg;have HX : Hid _ := hx;clear uf hx bd1;(try dsimp only);replace hSS := And.intro (KP.out w1 b1) True.intro;refine kk0 hK (hSS.1) ?_;refine wo1 9 rfl fun K hK => ?_;go_simp;refine (ikeep_any bx G ax ts (hb.below B1) (hp.below B1).g (ha.below B1) (map_len HX.out) hts zb hp.zg za (Nat.le_trans HLN.out (by omega))).mono ?_;rintro ee w2 ⟨rfl, b2⟩;rw [keep_of hts HX.out, h3]
 have b12 := b1.trans (b2.mono b1.size);have B2 := B1.trans (b2.mono B1.size);(try dsimp only);replace hSS := And.intro (KP.out w2 b12) True.intro;refine kk0 hK (hSS.1) ?_;refine tkl 10 rfl hSS ?_;refine tkl 11 rfl hSS ?_;refine tkl 12 rfl hSS ?_;refine tkl 14 rfl hSS ?_;simp only [Act.put, qB, qD, qC, qJ, qG, qF];refine wo1 13 rfl fun K hK => ?_;go_simp;refine (icatpins_at true (pinsA ss) ss hp.ha (hp.below B2).a hp.za HC.out rfl).mono ?_;rintro ee w3 ⟨na, nc, rfl, b3, on⟩;have b123 := b12.trans (b3.mono b12.size);have B3 := B2.trans (b3.mono B2.size);have hR := pins_ba on;rw [show lenB true = 3 from rfl];clear on;(try dsimp only);replace hSS := And.intro (KP.out w3 b123) True.intro;refine kk0 hK (hSS.1) ?_;refine wo1 15 rfl fun K hK => ?_;go_simp;refine (ipinned_any (pinsA ss) ax hR (ha.below B3)).mono ?_;rintro ee wq ⟨rfl, rfl⟩;rw [<- HST.out];(try dsimp only);refine kk0 hK (hSS.1) ?_;refine tkl 16 rfl hSS ?_;refine tkl 17 rfl hSS ?_;refine wo1 18 rfl fun K hK => ?_;go_simp;refine kk0 hK (hSS.1) ?_;refine wod ?_ _;clear hSS
 go_wp2
 go_ret
 exact ⟨ret_bool (by rw [HW.out, h3, HST.out]; simp), B3⟩
theorem iround_any {r : Int} : Calls Tryz.prog 53 #[.int .i64 r] w fun e w' => e = .returned (.bool (inB r 0 200)) /\ Below w.heap.size w w' := by
 go_enter Tryz.func53, Tryz.ntmps53
 go_wp2_with fail
 refine (between_any [r] _ _ (one_ints w r 3) (by omega)).mono ?_;rintro e w1 ⟨rfl, rfl⟩
 go_wp2
 go_ret
 exact ⟨ret_bool (bet_one _ _ _), bal⟩
theorem isitok_any (cl : Int) (ad : Option Addr) (N cap : Nat) (ga : Option Addr) (gn gc : Nat) (sa : Option Addr) (sn sc : Nat) (ss : List L2V) (G S : List Int) (u f : Bool) (r : Int) (ba : Option Addr) (bn bc : Nat) (bx : List Int) (aa : Option Addr) (an ac : Nat) (ax : List Int) (da : Option Addr) (dn dc : Nat) (dx : List DV) (s : Int) {w : World} (hp : PlAt w ad N ss ga gn G sa sn S) (h : StAt w ba bn bx aa an ax da dn dx) (hT : Lib.TabBelow Tryz.prog w.heap.size w "internal/strconv.uint64pow10" .u64 Lib.pow10Tab) :
  Calls Tryz.prog 15 #[plV cl ad N cap ga gn gc sa sn sc, siV u f r ba bn bc aa an ac da dn dc, .int .i64 s] w fun e w' => e = .returned (.bool (sitB cl N ss gn G sn S r bn bx an ax dn dx s)) /\ Below w.heap.size w w' := by
 have HTB : Hid _ := hT;clear hT;have q0 := (Cel.new w [.int .i64 cl, .slice ad N cap, .slice ga gn gc, .slice sa sn sc] 26).alloc (.cells #[.bool u, .bool f, .int .i64 r, .slice ba bn bc, .slice aa an ac, .slice da dn dc] 30);have y0 := Cel.new (w.alloc (.cells #[.int .i64 cl, .slice ad N cap, .slice ga gn gc, .slice sa sn sc] 26)) [.bool u, .bool f, .int .i64 r, .slice ba bn bc, .slice aa an ac, .slice da dn dc] 30;rw [qA] at y0;have B0 := ((Below.refl w.heap.size w).alloc (qM _) (.cells #[.int .i64 cl, .slice ad N cap, .slice ga gn gc, .slice sa sn sc] 26)).alloc (by simp) (.cells #[.bool u, .bool f, .int .i64 r, .slice ba bn bc, .slice aa an ac, .slice da dn dc] 30)
 cases hpl : plnB cl N ss gn G sn S
 ·go_enter Tryz.func15, Tryz.ntmps15
  go_wp2_with fail
  refine (iplnok_any _ ss G S (hp.below B0)).mono ?_;rintro e w1 ⟨rfl, b1⟩;rw [hpl]
  go_wp2
  go_ret
  exact ⟨ret_bool (by rw [sitB, hpl]; rfl), btr B0 b1⟩
 have HC : Hid _ := pln_cat hpl;have HP : Hid _ := hpl;clear hpl;obtain ⟨x1, hx1⟩ : ∃ y, y = inB r 0 200 := ⟨_, rfl⟩
 obtain ⟨x2, hx2⟩ : ∃ y, y = (keepT bn gn bx G (catP ss) s an ax && stillB (pinsA ss) ax) := ⟨_, rfl⟩
 obtain ⟨x3, hx3⟩ : ∃ y, y = donesB cl dn dx := ⟨_, rfl⟩
 have HB : Hid (sitB cl N ss gn G sn S r bn bx an ax dn dx s = (x1 && (x2 && x3))) := by show _ = _; rw [sitB, siteB, HP.out, hx1, hx2, hx3]; cases keepT bn gn bx G (catP ss) s an ax <;> simp
 have H1 : Hid _ := hx1;have H2 : Hid _ := hx2;have H3 : Hid _ := hx3;clear hx1 hx2 hx3
 go_enter Tryz.func15, Tryz.ntmps15
 go_wp2_with fail
 refine (iplnok_any _ ss G S (hp.below B0)).mono ?_;rintro e w1 ⟨rfl, b1⟩;rw [HP.out];have B1 := btr B0 b1;have q1 := q0.below b1;have y1 := y0.below b1;clear q0 y0 B0 b1;obtain ⟨d0, d1, d2, d3, d4, d5⟩ := y1.sixP
 go_wp2_with fail
 refine (iround_any).mono ?_;rintro e w2 ⟨rfl, b2⟩;rw [<- H1.out];have B2 := btr B1 b2;have q2 := q1.below b2;have y2 := y1.below b2;clear q1 y1 B1 b2 d0 d1 d2 d3 d4 d5
 cases x1
 ·go_wp2
  go_ret
  exact ⟨ret_bool (by rw [HB.out]; rfl), B2⟩
 obtain ⟨c0, c1, c2, c3⟩ := q2.quadP;obtain ⟨d0, d1, d2, d3, d4, d5⟩ := y2.sixP
 go_wp2_with fail
 refine (ikeeps_any ss G S bx ax (hp.below B2) HC.out (h.below B2).b h.zb (h.below B2).a h.za).mono ?_;rintro e w3 ⟨rfl, b3⟩;rw [<- H2.out];have B3 := btr B2 b3;have q3 := q2.below b3;have y3 := y2.below b3;clear q2 y2 B2 b3 c0 c1 c2 c3 d0 d1 d2 d3 d4 d5
 cases x2
 ·go_wp2
  go_ret
  exact ⟨ret_bool (by rw [HB.out]; rfl), B3⟩
 obtain ⟨c0, c1, c2, c3⟩ := q3.quadP;obtain ⟨d0, d1, d2, d3, d4, d5⟩ := y3.sixP
 go_wp2_with fail
 refine (idones_any dx h.ld (h.below B3).d h.zd (fun w' h' => HTB.out w' (btr B3 h'))).mono ?_;rintro e w4 ⟨rfl, b4⟩;rw [<- H3.out]
 go_wp2
 go_ret
 exact ⟨ret_bool (by rw [HB.out]; rfl), btr B3 b4⟩
abbrev clV (cl sq ac : Int) (a : Option Addr) (n cap : Nat) : Value := .agg #[.int .i64 cl, .int .i64 sq, .int .i64 ac, .slice a n cap]
theorem Cel.quadC {B : Nat} {y z u : Value} (h : Cel w B [x, y, z, u] t) : w.cell? ⟨B, 0, none⟩ = some x /\ w.cell? ⟨B, 1, none⟩ = some y /\ w.cell? ⟨B, 2, none⟩ = some z /\ w.cell? ⟨B, 3, none⟩ = some u := ⟨h.cell 0, h.cell 1, h.cell 2, h.cell 3⟩
structure QV where
 x : Int
 q : Int
 c : Int
 t : IV
def noQ : QV := ⟨0, 0, 0, noI⟩
def QV.cs (f : QV) : List Value := [.int .i64 f.x, .int .i64 f.q, .int .i64 f.c, IV.v f.t]
def QG (w : World) (f : QV) : Prop := IG w f.t /\ True
theorem QG.below {f : QV} (h : QG w f) (hb : Below w.heap.size w w') : QG w' f := ⟨h.1.below hb, trivial⟩
def QSG (w : World) (ad : Option Addr) (fs : List QV) : Prop :=
 ∀ i, i < fs.length -> ∃ b off, ad = some ⟨b, off, none⟩ /\ (∀ r, r < 4 -> w.cell? ⟨b, off + i * 4 + r, none⟩ = (fs[i]?.getD noQ).cs[r]?) /\ QG w (fs[i]?.getD noQ)
theorem QSG.below {fs : List QV} (h : QSG w ad fs) (hb : Below w.heap.size w w') : QSG w' ad fs := fun i hi => by
 obtain ⟨b, off, e, hc, hr⟩ := h i hi;have hl : b < w.heap.size := block_lt (v := ((fs[i]?.getD noQ).cs[0]?).getD (.bool false)) ((hc 0 (by omega)).trans rfl)
 exact ⟨b, off, e, fun r hr => by rw [hb.cell (p := ⟨b, off + i * 4 + r, none⟩) hl]; exact hc r hr, hr.below hb⟩
theorem cellsQ {b o : Nat} {f : QV} (h : ∀ r, r < 4 -> w.cell? ⟨b, o + r, none⟩ = f.cs[r]?) : w.cell? ⟨b, o, none⟩ = some (.int .i64 f.x) /\ w.cell? ⟨b, o + 1, none⟩ = some (.int .i64 f.q) /\ w.cell? ⟨b, o + 2, none⟩ = some (.int .i64 f.c) /\ w.cell? ⟨b, o + 3, none⟩ = some (f.t.v) := ⟨h 0 (by omega), h 1 (by omega), h 2 (by omega), h 3 (by omega)⟩
structure GV where
 h : Bool
 t : IV
 u : IV
def noG : GV := ⟨false, noI, noI⟩
def GV.cs (f : GV) : List Value := [.bool f.h, IV.v f.t, IV.v f.u]
def GM (w : World) (f : GV) : Prop := IM w f.t /\ IM w f.u /\ True
def GG (w : World) (f : GV) : Prop := IG w f.t /\ IG w f.u /\ True
theorem GG.below {f : GV} (h : GG w f) (hb : Below w.heap.size w w') : GG w' f := ⟨h.1.below hb, h.2.1.below hb, trivial⟩
abbrev gtV (h : Bool) (a : Option Addr) (n cap : Nat) (c : Option Addr) (m cap' : Nat) : Value := .agg #[.bool h, .slice a n cap, .slice c m cap']
def GSG (w : World) (ad : Option Addr) (fs : List GV) : Prop :=
 ∀ i, i < fs.length -> ∃ b off, ad = some ⟨b, off, none⟩ /\ (∀ r, r < 3 -> w.cell? ⟨b, off + i * 3 + r, none⟩ = (fs[i]?.getD noG).cs[r]?) /\ GG w (fs[i]?.getD noG)
theorem GSG.below {fs : List GV} (h : GSG w ad fs) (hb : Below w.heap.size w w') : GSG w' ad fs := fun i hi => by
 obtain ⟨b, off, e, hc, hr⟩ := h i hi;have hl : b < w.heap.size := block_lt (v := ((fs[i]?.getD noG).cs[0]?).getD (.bool false)) ((hc 0 (by omega)).trans rfl)
 exact ⟨b, off, e, fun r hr => by rw [hb.cell (p := ⟨b, off + i * 3 + r, none⟩) hl]; exact hc r hr, hr.below hb⟩
theorem cellsG {b o : Nat} {f : GV} (h : ∀ r, r < 3 -> w.cell? ⟨b, o + r, none⟩ = f.cs[r]?) : w.cell? ⟨b, o, none⟩ = some (.bool f.h) /\ w.cell? ⟨b, o + 1, none⟩ = some (f.t.v) /\ w.cell? ⟨b, o + 2, none⟩ = some (f.u.v) := ⟨h 0 (by omega), h 1 (by omega), h 2 (by omega)⟩
abbrev ckV (u : Bool) (r : Int) (ba : Option Addr) (bn bc : Nat) (da : Option Addr) (dn dc : Nat) (ka : Option Addr) (kn kc : Nat) (ga : Option Addr) (gn gc : Nat) : Value := .agg #[.bool u, .int .i64 r, .slice ba bn bc, .slice da dn dc, .slice ka kn kc, .slice ga gn gc]
structure CkAt (w : World) (ba : Option Addr) (bn : Nat) (bx : List Int) (da : Option Addr) (dn : Nat) (dx : List DV) (ka : Option Addr) (kn : Nat) (kx : List QV) (ga : Option Addr) (gn : Nat) (gx : List GV) : Prop where
 b : Ints w ba bn bx
 zb : bn <= 1048576
 d : DSG w da dx
 ld : dx.length = dn
 zd : dn <= 1048576
 k : QSG w ka kx
 lk : kx.length = kn
 zk : kn <= 1048576
 g : GSG w ga gx
 lg : gx.length = gn
 zg : gn <= 1048576
theorem CkAt.below {ba : Option Addr} {bn : Nat} {bx : List Int} {dx : List DV} {ka : Option Addr} {kn : Nat} {kx : List QV} {gx : List GV} (h : CkAt w ba bn bx da dn dx ka kn kx ga gn gx) (hb : Below w.heap.size w w') : CkAt w' ba bn bx da dn dx ka kn kx ga gn gx :=
 ⟨h.b.below hb, h.zb, h.d.below hb, h.ld, h.zd, h.k.below hb, h.lk, h.zk, h.g.below hb, h.lg, h.zg⟩
def callOkB (cl sq ac : Int) (n : Nat) (zs : List Int) : Bool := inB cl 0 3 && (inB sq 1 300 && (inB ac 0 3 && okN 2 9 n zs))
def wClient : List UInt8 := [99, 108, 105, 101, 110, 116]
def wCall : List UInt8 := [99, 97, 108, 108]
def wAct : List UInt8 := [97, 99, 116]
def wWith : List UInt8 := [119, 105, 116, 104]
def callL (cl sq ac : Int) (zs : List Int) : List UInt8 := wClient ++ ([32] ++ (Lib.itoa cl ++ ([32] ++ (wCall ++ ([32] ++ (Lib.itoa sq ++ ([32] ++ (wAct ++ ([32] ++ (Lib.itoa ac ++ ([32] ++ (wWith ++ tailL zs))))))))))))
def callText (cl sq ac : Int) (n : Nat) (zs : List Int) : List UInt8 := if callOkB cl sq ac n zs = true then callL cl sq ac zs else []
theorem callText_no {sq ac : Int} (h : callOkB cl sq ac n zs = false) : callText cl sq ac n zs = [] := by rw [callText, h]; rfl
theorem callText_yes {sq ac : Int} (h : callOkB cl sq ac n zs = true) : callText cl sq ac n zs = callL cl sq ac zs := by rw [callText, if_pos h]
end Go.Proofs.YtpmihhbgjimpmaaGreatDoor
